/- How many holes: the reference's way. -/
import Derived.Test.YtoedcefbmbfnhabDoorHolo
namespace Go.Proofs.YtoedcefbmbfnhabDoor
open Go.RowKit

/-- What a triangle's first edges count. -/
def gk3 (L : List (Int × Int × Int)) (t : Int × Int × Int) (k : Nat) : Nat := ((List.range k).map fun j => fE L (edg t j)).sum
theorem gk3_next (L : List (Int × Int × Int)) (t : Int × Int × Int) (k : Nat) : gk3 L t (k + 1) = gk3 L t k + fE L (edg t k) := by
  simp [gk3, List.range_succ]
theorem gk3_zero (L : List (Int × Int × Int)) (t : Int × Int × Int) : gk3 L t 0 = 0 := rfl
theorem gk3_three (L : List (Int × Int × Int)) (t : Int × Int × Int) : gk3 L t 3 = g3 L t := by
  simp only [gk3_next, gk3_zero, g3]
  omega
theorem fE_le (L : List (Int × Int × Int)) (e : Int × Int × Int × Int) : fE L e ≤ 2 := by
  unfold fE
  split <;> omega
theorem gk3_le (L : List (Int × Int × Int)) (t : Int × Int × Int) : ∀ k, gk3 L t k ≤ 2 * k
  | 0 => by simp [gk3]
  | k + 1 => by
    rw [gk3_next]
    have := gk3_le L t k
    have := fE_le L (edg t k)
    omega
/-- What the first triangles count. -/
def gs3 (L : List (Int × Int × Int)) (i : Nat) : Nat := ((L.take i).map (g3 L)).sum
theorem gs3_next (L : List (Int × Int × Int)) (i : Nat) (h : i < L.length) : gs3 L (i + 1) = gs3 L i + g3 L L[i] := by
  unfold gs3
  rw [List.take_succ_eq_append_getElem h, List.map_append, List.sum_append]
  simp
theorem gs3_le (L : List (Int × Int × Int)) : ∀ i, gs3 L i ≤ 6 * i
  | 0 => by simp [gs3]
  | i + 1 => by
    by_cases h : i < L.length
    · rw [gs3_next L i h]
      have := gs3_le L i
      have := gk3_le L L[i] 3
      rw [gk3_three] at this
      omega
    · have e : gs3 L (i + 1) = gs3 L i := by
        unfold gs3
        rw [List.take_of_length_le (by omega), List.take_of_length_le (by omega)]
      rw [e]
      have := gs3_le L i
      omega

set_option maxRecDepth 100000 in
set_option maxHeartbeats 6400000 in
theorem holesOf_any (W H b off cap : Nat) (zs : List Int) (cb : Option Addr) (n ccap : Nat) (m : Nat) (w : World) (hr : Row w (some ⟨b, off, none⟩) zs) (hW : 1 ≤ W ∧ W ≤ 8) (hH : 1 ≤ H ∧ H ≤ 8) (hl : zs.length = W * H) (hm : maskB zs = true) (h2 : ((ty zs W H).map (g3 (ty zs W H))).sum = 2 * m) :
    Calls Tryd.prog 12 #[.agg #[.int .i64 (W : Int), .int .i64 (H : Int), .slice (some ⟨b, off, none⟩) zs.length cap, .slice cb n ccap]] w fun e w' => ∃ pts : List (Int × Int), e = .returned (.int .i64 (1 - (pts.length : Int) + (m : Int) - ((ty zs W H).length : Int))) ∧ SPt pts ((ty zs W H).flatMap cnr) ∧ pts.length ≤ 3 * (ty zs W H).length ∧ Below w.heap.size w w' := by
  have C29 : Hid (∀ W' : World, Below w.heap.size w W' → Calls Tryd.prog 29 #[.agg #[.int .i64 (W : Int), .int .i64 (H : Int), .slice (some ⟨b, off, none⟩) zs.length cap, .slice cb n ccap]] W' fun e w' => ∃ v, e = .returned v ∧ w'.ownsRow (W'.heap.size + 1) 79 3 v (ty zs W H).length (flatV (ty zs W H)) ∧ Below W'.heap.size W' w') := fun W' hW' => trisOf_any W H b off cap zs (.slice cb n ccap) W' (hr.kept hW') hW hH hl hm
  have C32 : Hid (∀ W' : World, Below w.heap.size w W' → Calls Tryd.prog 32 #[.agg #[.int .i64 (W : Int), .int .i64 (H : Int), .slice (some ⟨b, off, none⟩) zs.length cap, .slice cb n ccap]] W' fun e w' => ∃ v pts, e = .returned v ∧ w'.ownsRow W'.heap.size 43 2 v pts.length (flatP pts) ∧ SPt pts ((ty zs W H).flatMap cnr) ∧ pts.length ≤ 3 * (ty zs W H).length ∧ Below W'.heap.size W' w') := fun W' hW' => refPoints_any W H b off cap zs (.slice cb n ccap) W' (hr.kept hW') hW hH hl hm
  have C27 : Hid (∀ (p q r s : Int) (W' : World), Below w.heap.size w W' → Calls Tryd.prog 27 #[.agg #[.int .i64 (W : Int), .int .i64 (H : Int), .slice (some ⟨b, off, none⟩) zs.length cap, .slice cb n ccap], .agg #[.int .i64 p, .int .i64 q, .int .i64 r, .int .i64 s]] W' fun e w' => e = .returned (.bool (decide (cnt (ty zs W H) p q r s = 2))) ∧ Below W'.heap.size W' w') := fun p q r s W' hW' => innerEdge_any W H b off cap zs (.slice cb n ccap) p q r s W' (hr.kept hW') hW hH hl hm
  have HBD : Hid (∀ t ∈ ty zs W H, (0 ≤ t.1 ∧ t.1 ≤ 8) ∧ (0 ≤ t.2.1 ∧ t.2.1 ≤ 8) ∧ (0 ≤ t.2.2 ∧ t.2.2 ≤ 3)) := ty_bd hW.2 hH.2
  have hlen : (ty zs W H).length ≤ 256 := by have := ty_len zs W H hW.2; omega
  obtain ⟨L, hL⟩ : ∃ L, L = ty zs W H := ⟨_, rfl⟩
  rw [← hL] at C29 C32 C27 HBD hlen h2 ⊢
  have HM : Hid (gs3 L L.length = 2 * m) := by
    have : gs3 L L.length = 2 * m := by
      unfold gs3
      rw [List.take_length]
      exact h2
    exact this
  clear hr hW hH hl hm hL h2
  obtain ⟨zl, hzl⟩ : ∃ n, n = zs.length := ⟨_, rfl⟩
  rw [← hzl] at C29 C32 C27 ⊢
  clear hzl
  go_enter Tryd.func12, Tryd.ntmps12
  go_wp2_with (go_at_call 29; refine (C29.out _ (by with_reducible exact bl_alloc (bl_refl _))).mono ?_; rintro e w1 ⟨v, rfl, ho, hb⟩; obtain ⟨a, ca, rfl, hT⟩ := own_tris ho; have HW : Hid (TRow w1 a L ∧ Below w.heap.size w w1) := ⟨hT, bl_via (bl_alloc (bl_refl _)) hb⟩; have p0 : w1.cell? ⟨w.heap.size, 0, none⟩ = some (.int .i64 (W : Int)) := cl_kept hb (by simp [go_sem]); have p1 : w1.cell? ⟨w.heap.size, 1, none⟩ = some (.int .i64 (H : Int)) := cl_kept hb (by simp [go_sem]); have p2 : w1.cell? ⟨w.heap.size, 2, none⟩ = some (.slice (some ⟨b, off, none⟩) zl cap) := cl_kept hb (by simp [go_sem]); have p3 : w1.cell? ⟨w.heap.size, 3, none⟩ = some (.slice cb n ccap) := cl_kept hb (by simp [go_sem]); clear hT ho hb)
  have HP : Hid (w1.cell? ⟨w.heap.size, 0, none⟩ = some (.int .i64 (W : Int)) ∧ w1.cell? ⟨w.heap.size, 1, none⟩ = some (.int .i64 (H : Int)) ∧ w1.cell? ⟨w.heap.size, 2, none⟩ = some (.slice (some ⟨b, off, none⟩) zl cap) ∧ w1.cell? ⟨w.heap.size, 3, none⟩ = some (.slice cb n ccap)) := ⟨p0, p1, p2, p3⟩
  clear p0 p1 p2 p3
  obtain ⟨pb, hpb⟩ : ∃ p, p = w.heap.size := ⟨_, rfl⟩
  rw [← hpb] at HP
  rw [← hpb]
  clear hpb
  go_loopg [4, 5] L.length (fun gk s4 s5 wx => ∃ i : Nat, i ≤ L.length ∧ gk = L.length - i ∧ s4 = .int .i64 (gs3 L i : Int) ∧ s5 = .int .i64 (i : Int) ∧ Below w1.heap.size w1 wx)
  case atStart => exact ⟨0, by omega, rfl, by simp [gs3], rfl, bl_refl _⟩
  case round =>
    obtain ⟨i, hi, rfl, rfl, rfl, hB⟩ := hrel
    have HB : Hid (Below w1.heap.size w1 wr) := hB
    clear hB
    have hgs := gs3_le L i
    by_cases h1 : i < L.length
    · have i1 : (i : Int) < (L.length : Int) := by omega
      have i0 : (0 : Int) ≤ (i : Int) := by omega
      obtain ⟨ga, rfl, t0, t1, t2⟩ := (HW.out.1.kept HB.out) i h1
      obtain ⟨t, ht⟩ : ∃ t, t = L[i] := ⟨_, rfl⟩
      obtain ⟨x, y, kk⟩ := t
      have hbd := HBD.out _ (List.getElem_mem h1)
      rw [← ht] at t0 t1 t2 hbd
      dsimp only at t0 t1 t2 hbd
      have HT : Hid ((x, y, kk) = L[i]) := ht
      have zt : ga < wr.heap.size := World.block_lt_of_cell? _ _ t0
      have C31 : Hid (∀ W' : World, Calls Tryd.prog 31 #[.agg #[.int .i64 x, .int .i64 y, .int .i64 kk]] W' fun e w' => ∃ g, e = .returned (.slice (some ⟨g, 0, none⟩) 3 3) ∧ W'.heap.size ≤ g ∧ Twl w' g (ue0 x y kk) (ue1 x y kk) (ue2 x y kk) (ue3 x y kk) (ue4 x y kk) (ue5 x y kk) (ue6 x y kk) (ue7 x y kk) (ue8 x y kk) (ue9 x y kk) (ue10 x y kk) (ue11 x y kk) ∧ Below W'.heap.size W' w') := fun W' => edgesOf_any x y kk W' (by omega) (by omega) (by omega) (by omega) hbd.2.2.1 hbd.2.2.2
      clear ht hbd
      go_wp2_with (go_at_call 31; refine (C31.out _).mono ?_; rintro e w4 ⟨ge, rfl, hge, hTw, hb⟩; have HG4 : Hid (Below w1.heap.size w1 w4 ∧ E3 w4 ge (x, y, kk)) := ⟨bl_via HB.out hb, hTw.e3⟩; clear hge hTw hb)
      go_loopg [4, 7] 3 (fun gk s4 s7 wx => ∃ k : Nat, k ≤ 3 ∧ gk = 3 - k ∧ s4 = .int .i64 ((gs3 L i + gk3 L (x, y, kk) k : Nat) : Int) ∧ s7 = .int .i64 (k : Int) ∧ Below w1.heap.size w1 wx ∧ E3 wx ge (x, y, kk))
      case atStart => exact ⟨0, by omega, rfl, by simp [gk3], rfl, HG4.out.1, HG4.out.2⟩
      case round =>
        clear HG4 HB C31 t0 t1 t2 zt
        obtain ⟨k, hk, rfl, rfl, rfl, hB, hE⟩ := hrel
        have HB : Hid (Below w1.heap.size w1 wr ∧ E3 wr ge (x, y, kk)) := ⟨hB, hE⟩
        clear hB hE
        have hgk := gk3_le L (x, y, kk) k
        have hgn := gk3_next L (x, y, kk) k
        obtain ⟨G, hG⟩ : ∃ G, G = gs3 L i + gk3 L (x, y, kk) k := ⟨_, rfl⟩
        rw [← hG]
        by_cases hk1 : k < 3
        · have ik : (k : Int) < 3 := by omega
          have ik0 : (0 : Int) ≤ (k : Int) := by omega
          obtain ⟨m0, m1, m2, m3⟩ := HB.out.2 k hk1
          obtain ⟨q, hq⟩ : ∃ q, q = edg (x, y, kk) k := ⟨_, rfl⟩
          obtain ⟨q0, q1, q2, q3⟩ := q
          rw [← hq] at m0 m1 m2 m3 hgn
          dsimp only at m0 m1 m2 m3
          have ze : ge < wr.heap.size := World.block_lt_of_cell? _ _ m0
          have p0 := cl_kept HB.out.1 HP.out.1
          have p1 := cl_kept HB.out.1 HP.out.2.1
          have p2 := cl_kept HB.out.1 HP.out.2.2.1
          have p3 := cl_kept HB.out.1 HP.out.2.2.2
          have zp : pb < wr.heap.size := World.block_lt_of_cell? _ _ p0
          have kc := Kin.cells wr
          have kn : Nonempty (Kin wr) := ⟨⟨wr, bl_refl _⟩⟩
          obtain ⟨bo, hbo⟩ : ∃ bo, bo = decide (cnt L q0 q1 q2 q3 = 2) := ⟨_, rfl⟩
          have hfe : fE L (q0, q1, q2, q3) = if bo = true then 1 else 2 := by
            rw [hbo]
            simp [fE]
          have CI : Hid (∀ W' : World, Below wr.heap.size wr W' → Calls Tryd.prog 27 #[.agg #[.int .i64 (W : Int), .int .i64 (H : Int), .slice (some ⟨b, off, none⟩) zl cap, .slice cb n ccap], .agg #[.int .i64 q0, .int .i64 q1, .int .i64 q2, .int .i64 q3]] W' fun e w' => e = .returned (.bool bo) ∧ Below W'.heap.size W' w') := fun W' hW' => hbo ▸ C27.out q0 q1 q2 q3 W' (bl_via (bl_via HW.out.2 HB.out.1) hW')
          rw [hfe] at hgn
          clear hq hbo hfe
          go_wp2
          refine wp_region_kin (by kernel_rfl) (by kernel_rfl) ?_
          repeat (go_big_quiet_step ((go_at_call 27; exact kin_of (CI.out _ (Kin.h _)))))
          refine wpQuiet_nil ?_
          intro wq hw'
          obtain ⟨nq, hw''⟩ := hw'
          have hq : Below wr.heap.size wr wq := hw'' ▸ nq.h
          have HQ : Hid (Below w1.heap.size w1 wq ∧ E3 wq ge (x, y, kk)) := ⟨bl_via HB.out.1 hq, HB.out.2.kept hq⟩
          clear hw'' nq hq kc kn ze zp m0 m1 m2 m3 p0 p1 p2 p3
          cases bo
          · go_wp2
            go_roundg (3 - (k + 1))
            case measure => omega
            case rel => exact ⟨k + 1, by omega, rfl, by simp at hgn; rw [hgn]; go_num, by go_num, HQ.out.1, HQ.out.2⟩
          · go_wp2
            go_roundg (3 - (k + 1))
            case measure => omega
            case rel => exact ⟨k + 1, by omega, rfl, by simp at hgn; rw [hgn]; go_num, by go_num, HQ.out.1, HQ.out.2⟩
        · have ik : ¬ (k : Int) < 3 := by omega
          obtain rfl : k = 3 := by omega
          go_wp2
          go_roundg (L.length - (i + 1))
          case measure => omega
          case rel => exact ⟨i + 1, by omega, rfl, by rw [gs3_next L i h1, ← HT.out, ← gk3_three]; simp, by go_num, HB.out.1⟩
    · have i1 : ¬ (i : Int) < (L.length : Int) := by omega
      obtain rfl : i = L.length := by omega
      have p0 := cl_kept HB.out HP.out.1
      have p1 := cl_kept HB.out HP.out.2.1
      have p2 := cl_kept HB.out HP.out.2.2.1
      have p3 := cl_kept HB.out HP.out.2.2.2
      have hm2 : m ≤ 768 := by have := HM.out; omega
      rw [HM.out]
      go_wp2_with (go_at_call 32; refine (C32.out _ (bl_via HW.out.2 HB.out)).mono ?_; rintro e w5 ⟨v, pts, rfl, ho, hS, hpl, hb⟩; obtain ⟨pa, pc, rfl, hPR⟩ := own_points ho; have HZ : Hid (SPt pts (L.flatMap cnr) ∧ pts.length ≤ 3 * L.length ∧ Below w.heap.size w w5) := ⟨hS, hpl, bl_via (bl_via HW.out.2 HB.out) hb⟩; have hpl2 : pts.length ≤ 768 := (by omega); clear ho hS hPR hb)
      go_ret
      exact ⟨pts, by go_num, HZ.out.1, HZ.out.2.1, HZ.out.2.2⟩
end Go.Proofs.YtoedcefbmbfnhabDoor
