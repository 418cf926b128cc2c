/- May a sheet be, whose cells may be? The reference's way. -/
import Derived.Test.YtehmoacggikfmaaDoorQlbd
import Derived.Test.YtehmoacggikfmaaDoorQlbe
import Derived.Test.YtehmoacggikfmaaDoorQlad
namespace Go.Proofs.YtehmoacggikfmaaDoor
open Go.RowKit

/-- A crease's numbers. -/
def ck (ks : List Int) (i j : Nat) : Int := ks.getD (i * 5 + j) 0
/-- May the crease i be? -/
def CrOk (l : List (Int × Int × Int)) (ks : List Int) (i : Nat) : Prop :=
  (0 < i → lessE (ck ks (i - 1) 0) (ck ks (i - 1) 1) (ck ks (i - 1) 2) (ck ks (i - 1) 3) (ck ks i 0) (ck ks i 1) (ck ks i 2) (ck ks i 3) = true) ∧ (ck ks i 4 = 1 ∨ ck ks i 4 = 2) ∧ cnt l (ck ks i 0) (ck ks i 1) (ck ks i 2) (ck ks i 3) = 2
/-- Creases in a row of memory, as a slice has them. -/
def CRow (w : World) (cb : Option Addr) (ks : List Int) (n : Nat) : Prop :=
  ∀ i, i < n → ∃ bb bo, cb = some ⟨bb, bo, none⟩ ∧ w.cell? ⟨bb, bo + i * 5, none⟩ = some (.int .i64 (ck ks i 0)) ∧ w.cell? ⟨bb, bo + i * 5 + 1, none⟩ = some (.int .i64 (ck ks i 1)) ∧ w.cell? ⟨bb, bo + i * 5 + 2, none⟩ = some (.int .i64 (ck ks i 2)) ∧ w.cell? ⟨bb, bo + i * 5 + 3, none⟩ = some (.int .i64 (ck ks i 3)) ∧ w.cell? ⟨bb, bo + i * 5 + 4, none⟩ = some (.int .i64 (ck ks i 4))
theorem row_crow {w : World} {cb : Option Addr} {ks : List Int} {n : Nat} (h : Row w cb ks) (hn : ks.length = n * 5) : CRow w cb ks n := fun i hi => by
  have h0 : i * 5 + 4 < ks.length := by omega
  obtain ⟨bb, bo, rfl, c0⟩ := h (i * 5) (by omega)
  refine ⟨bb, bo, rfl, ?_⟩
  have key : ∀ j, j < 5 → w.cell? ⟨bb, bo + i * 5 + j, none⟩ = some (.int .i64 (ck ks i j)) := fun j hj => by
    obtain ⟨b', o', e, hc⟩ := h (i * 5 + j) (by omega)
    simp only [Option.some.injEq, Addr.mk.injEq, and_true] at e
    obtain ⟨rfl, rfl⟩ := e
    rw [Nat.add_assoc, hc]
    simp [ck, show i * 5 + j < ks.length by omega]
  exact ⟨key 0 (by omega), key 1 (by omega), key 2 (by omega), key 3 (by omega), key 4 (by omega)⟩
theorem CRow.kept {w wx : World} {cb : Option Addr} {ks : List Int} {n : Nat} (h : CRow w cb ks n) (hb : Below w.heap.size w wx) : CRow wx cb ks n := fun i hi => by
  obtain ⟨bb, bo, e, h0, h1, h2, h3, h4⟩ := h i hi
  exact ⟨bb, bo, e, cl_kept hb h0, cl_kept hb h1, cl_kept hb h2, cl_kept hb h3, cl_kept hb h4⟩

set_option maxRecDepth 100000 in
set_option maxHeartbeats 6400000 in
theorem sheetMay_any (W H b off cap n ccap : Nat) (cb : Option Addr) (zs ks : List Int) (w : World) (hr : Row w (some ⟨b, off, none⟩) zs) (hW : 1 ≤ W ∧ W ≤ 8) (hH : 1 ≤ H ∧ H ≤ 8) (hl : zs.length = W * H) (hm : maskB zs = true) (hk : Row w cb ks) (hn : ks.length = n * 5) (hn2 : n ≤ 3518437208883) :
    Calls Tryd.prog 8 #[.agg #[.int .i64 (W : Int), .int .i64 (H : Int), .slice (some ⟨b, off, none⟩) zs.length cap, .slice cb n ccap]] w fun e w' => ∃ bb : Bool, e = .returned (.bool bb) ∧ (bb = true ↔ ((∀ i, i < n → CrOk (ty zs W H) ks i) ∧ Joined (ty zs W H))) ∧ Below w.heap.size w w' := by
  have hcb : cellsB (W : Int) (H : Int) zs = true := by
    have e1 : sideB (W : Int) = true := by simp [sideB]; omega
    have e2 : sideB (H : Int) = true := by simp [sideB]; omega
    have e3 : (zs.length : Int) = (W : Int) * (H : Int) := by rw [hl]; simp
    simp only [cellsB, e1, e2, decide_eq_true e3, hm]
    rfl
  have C74 : Hid (∀ W' : World, Below w.heap.size w W' → Calls Tryd.prog 14 #[.agg #[.int .i64 (W : Int), .int .i64 (H : Int), .slice (some ⟨b, off, none⟩) zs.length cap, .slice cb n ccap]] W' fun e w' => e = .returned (.bool true) ∧ ∃ o, w' = W'.alloc o) := fun W' hW' => hcb ▸ cellsMay_any W H (some ⟨b, off, none⟩) cap zs _ W' (hr.kept hW')
  have C77 : Hid (∀ W' : World, Below w.heap.size w W' → Calls Tryd.prog 17 #[.agg #[.int .i64 (W : Int), .int .i64 (H : Int), .slice (some ⟨b, off, none⟩) zs.length cap, .slice cb n ccap]] W' fun e w' => ∃ bb : Bool, e = .returned (.bool bb) ∧ (bb = true ↔ Joined (ty zs W H)) ∧ Below W'.heap.size W' w') := fun W' hW' => joinedSheet_any W H b off cap zs _ W' (hr.kept hW') hW hH hl hm
  have C76 : Hid (∀ (p q r s : Int) (W' : World), Below w.heap.size w W' → Calls Tryd.prog 16 #[.agg #[.int .i64 (W : Int), .int .i64 (H : Int), .slice (some ⟨b, off, none⟩) zs.length cap, .slice cb n ccap], .agg #[.int .i64 p, .int .i64 q, .int .i64 r, .int .i64 s]] W' fun e w' => e = .returned (.bool (decide (cnt (ty zs W H) p q r s = 2))) ∧ Below W'.heap.size W' w') := fun p q r s W' hW' => innerEdge_any W H b off cap zs _ p q r s W' (hr.kept hW') hW hH hl hm
  have HCR : Hid (CRow w cb ks n) := row_crow hk hn
  clear hr hl hm hW hH hk hn hcb
  obtain ⟨L, hL⟩ : ∃ L, L = ty zs W H := ⟨_, rfl⟩
  rw [← hL] at C77 C76 ⊢
  clear hL
  go_enter Tryd.func8, Tryd.ntmps8
  go_wp2_with (go_at_call 14; refine (C74.out _ (by with_reducible exact bl_alloc (bl_refl _))).mono ?_; rintro e w' ⟨rfl, o, rfl⟩)
  go_loopg [3] n (fun gk s3 wx => ∃ i : Nat, i ≤ n ∧ gk = n - i ∧ s3 = .int .i64 (i : Int) ∧ (∀ j, j < i → CrOk L ks j) ∧ Sh wx w.heap.size (.int .i64 (W : Int)) (.int .i64 (H : Int)) (.slice (some ⟨b, off, none⟩) zs.length cap) (.slice cb n ccap) ∧ Below w.heap.size w wx)
  case atStart => exact ⟨0, by omega, rfl, rfl, fun j h => by omega, by simp [Sh, go_sem], bl_alloc (bl_alloc (bl_refl _))⟩
  case round =>
    obtain ⟨i, hi, rfl, rfl, hp, hS, hB⟩ := hrel
    have HP : Hid (∀ j, j < i → CrOk L ks j) := hp
    have HS : Hid (Sh wr w.heap.size (.int .i64 (W : Int)) (.int .i64 (H : Int)) (.slice (some ⟨b, off, none⟩) zs.length cap) (.slice cb n ccap) ∧ Below w.heap.size w wr) := ⟨hS, hB⟩
    obtain ⟨s0, s1, s2, s3⟩ := hS
    have zs0 : w.heap.size < wr.heap.size := World.block_lt_of_cell? _ _ s0
    clear hp hB
    by_cases h1 : i < n
    · have i1 : (i : Int) < (n : Int) := by omega
      have i0 : (0 : Int) ≤ (i : Int) := by omega
      obtain ⟨bb, bo, rfl, c0, c1, c2, c3, c4⟩ := (HCR.out.kept HS.out.2) i h1
      have zb : bb < wr.heap.size := World.block_lt_of_cell? _ _ c0
      go_wp2
      go_cut [51] (fun s51 wx => ∃ bad : Bool, s51 = .bool bad ∧ (bad = true ↔ ¬ CrOk L ks i) ∧ Below wr.heap.size wr wx)
      case first =>
        refine wp_named (fun W0 hW0 => ?_)
        have hB0 : Below wr.heap.size wr W0 := by rw [hW0]; exact bl_alloc (bl_refl _)
        have HB0 : Hid (Below wr.heap.size wr W0) := hB0
        have HSB : Hid (Below w.heap.size w W0) := bl_via HS.out.2 hB0
        have a0 : W0.cell? ⟨w.heap.size, 0, none⟩ = some (.int .i64 (W : Int)) := cl_kept hB0 s0
        have a1 : W0.cell? ⟨w.heap.size, 1, none⟩ = some (.int .i64 (H : Int)) := cl_kept hB0 s1
        have a2 : W0.cell? ⟨w.heap.size, 2, none⟩ = some (.slice (some ⟨b, off, none⟩) zs.length cap) := cl_kept hB0 s2
        have a3 : W0.cell? ⟨w.heap.size, 3, none⟩ = some (.slice (some ⟨bb, bo, none⟩) n ccap) := cl_kept hB0 s3
        have t0 : W0.cell? ⟨wr.heap.size, 0, none⟩ = some (.int .i64 (ck ks i 0)) := by rw [hW0]; simp [go_sem]
        have t1 : W0.cell? ⟨wr.heap.size, 1, none⟩ = some (.int .i64 (ck ks i 1)) := by rw [hW0]; simp [go_sem]
        have t2 : W0.cell? ⟨wr.heap.size, 2, none⟩ = some (.int .i64 (ck ks i 2)) := by rw [hW0]; simp [go_sem]
        have t3 : W0.cell? ⟨wr.heap.size, 3, none⟩ = some (.int .i64 (ck ks i 3)) := by rw [hW0]; simp [go_sem]
        have t4 : W0.cell? ⟨wr.heap.size, 4, none⟩ = some (.int .i64 (ck ks i 4)) := by rw [hW0]; simp [go_sem]
        have z0 : w.heap.size < W0.heap.size := World.block_lt_of_cell? _ _ a0
        have z1 : wr.heap.size < W0.heap.size := World.block_lt_of_cell? _ _ t0
        have z2 : bb < W0.heap.size := Nat.lt_of_lt_of_le zb hB0.size
        have HPR : Hid (CRow W0 (some ⟨bb, bo, none⟩) ks n) := HCR.out.kept HSB.out
        have kc := Kin.cells W0
        have kn : Nonempty (Kin W0) := ⟨⟨W0, bl_refl _⟩⟩
        clear hB0 hW0 s0 s1 s2 s3 c0 c1 c2 c3 c4 zs0 zb
        by_cases hi0 : i = 0
        · have q0 : ¬ (0 : Int) < (i : Int) := by omega
          have HI0 : Hid (i = 0) := hi0
          have q1 : ¬ 0 < i := by omega
          clear hi0
          by_cases k1 : (ck ks i 4) = 1
          · refine wp_region_kin (by kernel_rfl) (by kernel_rfl) ?_
            repeat (go_big_quiet_step ((first | (go_at_call 15; exact kin_of (lessEdge_any _ _ _ _ _ _ _ _ _)) | (go_at_call 16; exact kin_of (C76.out _ _ _ _ _ (bl_via HSB.out (Kin.h _)))))))
            refine wpQuiet_nil ?_
            intro wq hw'
            obtain ⟨nq, hw''⟩ := hw'
            have hq : Below W0.heap.size W0 wq := hw'' ▸ nq.h
            clear hw'' nq
            have HQ : Hid (Below wr.heap.size wr wq) := bl_via HB0.out hq
            clear hq
            go_wp2
            go_meet
            case rel => exact ⟨_, rfl, by simp only [Bool.not_eq_true', decide_eq_false_iff_not]; exact ⟨fun h hc => h hc.2.2, fun h hc => h ⟨fun h => absurd h (by have := HI0.out; omega), Or.inl k1, hc⟩⟩, HQ.out⟩
          · by_cases k2 : (ck ks i 4) = 2
            · refine wp_region_kin (by kernel_rfl) (by kernel_rfl) ?_
              repeat (go_big_quiet_step ((first | (go_at_call 15; exact kin_of (lessEdge_any _ _ _ _ _ _ _ _ _)) | (go_at_call 16; exact kin_of (C76.out _ _ _ _ _ (bl_via HSB.out (Kin.h _)))))))
              refine wpQuiet_nil ?_
              intro wq hw'
              obtain ⟨nq, hw''⟩ := hw'
              have hq : Below W0.heap.size W0 wq := hw'' ▸ nq.h
              clear hw'' nq
              have HQ : Hid (Below wr.heap.size wr wq) := bl_via HB0.out hq
              clear hq
              go_wp2
              go_meet
              case rel => exact ⟨_, rfl, by simp only [Bool.not_eq_true', decide_eq_false_iff_not]; exact ⟨fun h hc => h hc.2.2, fun h hc => h ⟨fun h => absurd h (by have := HI0.out; omega), Or.inr k2, hc⟩⟩, HQ.out⟩
            · have k1b : ((ck ks i 4) != 1) = true := by simpa using k1
              have k2b : ((ck ks i 4) != 2) = true := by simpa using k2
              refine wp_region_kin (by kernel_rfl) (by kernel_rfl) ?_
              repeat (go_big_quiet_step ((first | (go_at_call 15; exact kin_of (lessEdge_any _ _ _ _ _ _ _ _ _)) | (go_at_call 16; exact kin_of (C76.out _ _ _ _ _ (bl_via HSB.out (Kin.h _)))))))
              refine wpQuiet_nil ?_
              intro wq hw'
              obtain ⟨nq, hw''⟩ := hw'
              have hq : Below W0.heap.size W0 wq := hw'' ▸ nq.h
              clear hw'' nq
              have HQ : Hid (Below wr.heap.size wr wq) := bl_via HB0.out hq
              clear hq
              go_wp2
              go_meet
              case rel => exact ⟨_, rfl, ⟨fun _ hc => by rcases hc.2.1 with h | h <;> contradiction, fun _ => rfl⟩, HQ.out⟩

        · have q0 : (0 : Int) < (i : Int) := by omega
          have q1 : 0 < i := by omega
          clear hi0
          obtain ⟨m, hm⟩ : ∃ m, i = m + 1 := ⟨i - 1, by omega⟩
          have hmi : (i : Int) - 1 = (m : Int) := by omega
          have m1 : (m : Int) < (n : Int) := by omega
          have m0 : (0 : Int) ≤ (m : Int) := by omega
          obtain ⟨bb', bo', e', p0, p1, p2, p3, _⟩ := HPR.out m (by omega)
          simp only [Option.some.injEq, Addr.mk.injEq, and_true] at e'
          obtain ⟨rfl, rfl⟩ := e'
          have HM : Hid (i - 1 = m) := by show i - 1 = m; omega
          cases hless : lessE (ck ks m 0) (ck ks m 1) (ck ks m 2) (ck ks m 3) (ck ks i 0) (ck ks i 1) (ck ks i 2) (ck ks i 3)
          · have HL : Hid (¬ CrOk L ks i) := fun h => by
              have := h.1 (by omega)
              rw [HM.out, hless] at this
              exact Bool.noConfusion this
            clear hm
            refine wp_region_kin (by kernel_rfl) (by kernel_rfl) ?_
            repeat (go_big_quiet_step ((first | (go_at_call 15; exact kin_of (lessEdge_any _ _ _ _ _ _ _ _ _)) | (go_at_call 16; exact kin_of (C76.out _ _ _ _ _ (bl_via HSB.out (Kin.h _)))))))
            refine wpQuiet_nil ?_
            intro wq hw'
            obtain ⟨nq, hw''⟩ := hw'
            have hq : Below W0.heap.size W0 wq := hw'' ▸ nq.h
            clear hw'' nq
            have HQ : Hid (Below wr.heap.size wr wq) := bl_via HB0.out hq
            clear hq
            go_wp2
            go_meet
            case rel => exact ⟨_, rfl, ⟨fun _ => HL.out, fun _ => rfl⟩, HQ.out⟩
          · have HL : Hid (0 < i → lessE (ck ks (i - 1) 0) (ck ks (i - 1) 1) (ck ks (i - 1) 2) (ck ks (i - 1) 3) (ck ks i 0) (ck ks i 1) (ck ks i 2) (ck ks i 3) = true) := fun _ => by rw [HM.out]; exact hless
            clear hm
            by_cases k1 : (ck ks i 4) = 1
            · refine wp_region_kin (by kernel_rfl) (by kernel_rfl) ?_
              repeat (go_big_quiet_step ((first | (go_at_call 15; exact kin_of (lessEdge_any _ _ _ _ _ _ _ _ _)) | (go_at_call 16; exact kin_of (C76.out _ _ _ _ _ (bl_via HSB.out (Kin.h _)))))))
              refine wpQuiet_nil ?_
              intro wq hw'
              obtain ⟨nq, hw''⟩ := hw'
              have hq : Below W0.heap.size W0 wq := hw'' ▸ nq.h
              clear hw'' nq
              have HQ : Hid (Below wr.heap.size wr wq) := bl_via HB0.out hq
              clear hq
              go_wp2
              go_meet
              case rel => exact ⟨_, rfl, by simp only [Bool.not_eq_true', decide_eq_false_iff_not]; exact ⟨fun h hc => h hc.2.2, fun h hc => h ⟨HL.out, Or.inl k1, hc⟩⟩, HQ.out⟩
            · by_cases k2 : (ck ks i 4) = 2
              · refine wp_region_kin (by kernel_rfl) (by kernel_rfl) ?_
                repeat (go_big_quiet_step ((first | (go_at_call 15; exact kin_of (lessEdge_any _ _ _ _ _ _ _ _ _)) | (go_at_call 16; exact kin_of (C76.out _ _ _ _ _ (bl_via HSB.out (Kin.h _)))))))
                refine wpQuiet_nil ?_
                intro wq hw'
                obtain ⟨nq, hw''⟩ := hw'
                have hq : Below W0.heap.size W0 wq := hw'' ▸ nq.h
                clear hw'' nq
                have HQ : Hid (Below wr.heap.size wr wq) := bl_via HB0.out hq
                clear hq
                go_wp2
                go_meet
                case rel => exact ⟨_, rfl, by simp only [Bool.not_eq_true', decide_eq_false_iff_not]; exact ⟨fun h hc => h hc.2.2, fun h hc => h ⟨HL.out, Or.inr k2, hc⟩⟩, HQ.out⟩
              · have k1b : ((ck ks i 4) != 1) = true := by simpa using k1
                have k2b : ((ck ks i 4) != 2) = true := by simpa using k2
                refine wp_region_kin (by kernel_rfl) (by kernel_rfl) ?_
                repeat (go_big_quiet_step ((first | (go_at_call 15; exact kin_of (lessEdge_any _ _ _ _ _ _ _ _ _)) | (go_at_call 16; exact kin_of (C76.out _ _ _ _ _ (bl_via HSB.out (Kin.h _)))))))
                refine wpQuiet_nil ?_
                intro wq hw'
                obtain ⟨nq, hw''⟩ := hw'
                have hq : Below W0.heap.size W0 wq := hw'' ▸ nq.h
                clear hw'' nq
                have HQ : Hid (Below wr.heap.size wr wq) := bl_via HB0.out hq
                clear hq
                go_wp2
                go_meet
                case rel => exact ⟨_, rfl, ⟨fun _ hc => by rcases hc.2.1 with h | h <;> contradiction, fun _ => rfl⟩, HQ.out⟩

      case rest =>
        obtain ⟨bad, rfl, hbad, hBc⟩ := hcut
        have HV : Hid ((bad = true ↔ ¬ CrOk L ks i) ∧ Sh wc w.heap.size (.int .i64 (W : Int)) (.int .i64 (H : Int)) (.slice (some ⟨b, off, none⟩) zs.length cap) (.slice (some ⟨bb, bo, none⟩) n ccap) ∧ Below w.heap.size w wc) := ⟨hbad, HS.out.1.kept hBc, bl_via HS.out.2 hBc⟩
        clear hbad hBc
        cases bad
        · go_wp2
          go_roundg (n - (i + 1))
          case measure => omega
          case rel =>
            refine ⟨i + 1, by omega, rfl, by go_num, fun j hj => ?_, HV.out.2.1, HV.out.2.2⟩
            by_cases ej : j = i
            · subst ej
              exact Classical.byContradiction fun h => Bool.noConfusion (HV.out.1.2 h)
            · exact HP.out j (by omega)
        · go_wp2
          go_ret
          exact Or.inl ⟨rfl, fun h => absurd (h i h1) (HV.out.1.1 (by simp)), HV.out.2.2⟩
    · have i1 : ¬ (i : Int) < (n : Int) := by omega
      have HA : Hid (∀ j, j < n → CrOk L ks j) := fun j hj => HP.out j (by omega)
      go_wp2_with (go_at_call 17; refine (C77.out _ HS.out.2).mono ?_; rintro e w2 ⟨bv, rfl, hbv, hb⟩; have HV : Hid ((bv = true ↔ Joined L) ∧ Below w.heap.size w w2) := ⟨hbv, bl_via HS.out.2 hb⟩; clear hbv hb)
      go_ret
      exact ⟨bv, rfl, ⟨fun h => ⟨HA.out, HV.out.1.1 h⟩, fun h => HV.out.1.2 h.2⟩, HV.out.2⟩
end Go.Proofs.YtehmoacggikfmaaDoor
