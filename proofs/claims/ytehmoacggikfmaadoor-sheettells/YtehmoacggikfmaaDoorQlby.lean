/- A part of the proof of sheetTells_holds. -/
import Derived.Test.YtehmoacggikfmaaDoorQlbt
import Derived.Test.YtehmoacggikfmaaDoorQlbw
import Derived.Test.YtehmoacggikfmaaDoorQlbx
namespace Go.Proofs.YtehmoacggikfmaaDoor
open Go.RowKit Go.ChangeMaps

set_option maxRecDepth 100000 in
set_option maxHeartbeats 1600000 in
theorem sameTris_yes (a c : Option Addr) (ca cc : Nat) (L : List (Int × Int × Int)) (w : World) (hL : L.length ≤ 300) (ha : TRow w a L) (hc : TRow w c L) :
    Calls Tryd.prog 9 #[.slice a L.length ca, .slice c L.length cc] w fun e w' => e = .returned (.bool true) ∧ Below w.heap.size w w' := by
  have HA : Hid (TRow w a L) := ha
  have HC : Hid (TRow w c L) := hc
  clear ha hc
  go_enter Tryd.func9, Tryd.ntmps9
  go_wp2
  go_loopg [5] L.length (fun gk s5 wx => ∃ i : Nat, i ≤ L.length ∧ gk = L.length - i ∧ s5 = .int .i64 (i : Int) ∧ Below w.heap.size w wx)
  case atStart => exact ⟨0, by omega, rfl, rfl, bl_refl _⟩
  case round =>
    obtain ⟨i, hi, rfl, rfl, hB⟩ := hrel
    have HB : Hid (Below w.heap.size w wr) := hB
    clear hB
    by_cases h1 : i < L.length
    · have i1 : (i : Int) < (L.length : Int) := by omega
      have i0 : (0 : Int) ≤ (i : Int) := by omega
      obtain ⟨g, rfl, t0, t1, t2⟩ := (HA.out.kept HB.out) i h1
      obtain ⟨g', rfl, u0, u1, u2⟩ := (HC.out.kept HB.out) i h1
      have z1 : g < wr.heap.size := World.block_lt_of_cell? _ _ t0
      have z2 : g' < wr.heap.size := World.block_lt_of_cell? _ _ u0
      obtain ⟨x, hx⟩ : ∃ x, x = L[i].1 := ⟨_, rfl⟩
      obtain ⟨y, hy⟩ : ∃ y, y = L[i].2.1 := ⟨_, rfl⟩
      obtain ⟨k, hk⟩ : ∃ k, k = L[i].2.2 := ⟨_, rfl⟩
      rw [← hx] at t0 u0
      rw [← hy] at t1 u1
      rw [← hk] at t2 u2
      have hneq : ∀ w' : World, (binOp .neq 52 (.agg #[.int .i64 x, .int .i64 y, .int .i64 k]) (.agg #[.int .i64 x, .int .i64 y, .int .i64 k])).run Tryd.prog w' = .ok (.bool false) w' := fun w' => by
        have := neq23 x y k x y k w'
        simpa [sameT] using this
      clear hx hy hk
      have kc := Kin.cells wr
      have kn : Nonempty (Kin wr) := ⟨⟨wr, bl_refl _⟩⟩
      go_wp2
      refine wp_region_kin (by kernel_rfl) (by kernel_rfl) ?_
      repeat (go_big_quiet_step (fail))
      refine wpQuiet_nil ?_
      intro wq hw'
      obtain ⟨nq, hw''⟩ := hw'
      have hq : Below wr.heap.size wr wq := hw'' ▸ nq.h
      have HQ : Hid (Below w.heap.size w wq) := bl_via HB.out hq
      clear hw'' nq hq kc kn
      go_wp2
      go_roundg (L.length - (i + 1))
      case measure => omega
      case rel => exact ⟨i + 1, by omega, rfl, by go_num, HQ.out⟩
    · have i1 : ¬ (i : Int) < (L.length : Int) := by omega
      go_wp2
      go_ret
      exact ⟨rfl, HB.out⟩

theorem has_bd {x y k p q r s : Int} (h : hasB x y k p q r s = true) (hx : 0 ≤ x ∧ x ≤ 8) (hy : 0 ≤ y ∧ y ≤ 8) (hk : 0 ≤ k ∧ k ≤ 3) : (0 ≤ p ∧ p < 100) ∧ (0 ≤ q ∧ q < 100) ∧ (0 ≤ r ∧ r < 100) ∧ (0 ≤ s ∧ s < 100) := by
  rw [hasB_or] at h
  have hk4 : k = 0 ∨ k = 1 ∨ k = 2 ∨ k = 3 := by omega
  rcases hk4 with rfl | rfl | rfl | rfl <;> simp only [e0_0, e0_1, e0_2, e0_3, e1_0, e1_1, e1_2, e1_3, e2_0, e2_1, e2_2, e2_3] at h <;> omega
theorem cr_bd {L : List (Int × Int × Int)} {ks : List Int} {n : Nat} (hL : ∀ t ∈ L, (0 ≤ t.1 ∧ t.1 ≤ 8) ∧ (0 ≤ t.2.1 ∧ t.2.1 ≤ 8) ∧ (0 ≤ t.2.2 ∧ t.2.2 ≤ 3)) (h : ∀ i, i < n → CrOk L ks i) : ∀ i, i < n → ∀ j, j < 4 → 0 ≤ ck ks i j ∧ ck ks i j < 100 := fun i hi j hj => by
  have hc := (h i hi).2.2
  have hp : 0 < cnt L (ck ks i 0) (ck ks i 1) (ck ks i 2) (ck ks i 3) := by omega
  obtain ⟨t, ht, hh⟩ := List.countP_pos_iff.1 hp
  have hb := hL t ht
  have := has_bd hh hb.1 hb.2.1 hb.2.2
  have h4 : j = 0 ∨ j = 1 ∨ j = 2 ∨ j = 3 := by omega
  rcases h4 with rfl | rfl | rfl | rfl
  · exact this.1
  · exact this.2.1
  · exact this.2.2.1
  · exact this.2.2.2

set_option maxHeartbeats 1600000 in
theorem May_yes (W H : Int) (a c : Option Addr) (n1 n2 ca cc : Nat) (L : List (Int × Int × Int)) (w : World) (hcall : ∀ W' : World, Below w.heap.size w W' → Calls Tryd.prog 12 #[.agg #[.int .i64 W, .int .i64 H, .slice a n1 ca, .slice c n2 cc]] W' fun e w' => ∃ ad c1 ra rk, e = .returned (.tuple #[.agg #[.slice ad L.length c1, .map (some ra), .map (some rk)], .bool true]) ∧ TRow w' ad L ∧ Below W'.heap.size W' w') :
    Calls Tryd.prog 4 #[.agg #[.int .i64 W, .int .i64 H, .slice a n1 ca, .slice c n2 cc]] w fun e w' => e = .returned (.bool true) ∧ Below w.heap.size w w' := by
  have HC : Hid (∀ W' : World, Below w.heap.size w W' → Calls Tryd.prog 12 #[.agg #[.int .i64 W, .int .i64 H, .slice a n1 ca, .slice c n2 cc]] W' fun e w' => ∃ ad c1 ra rk, e = .returned (.tuple #[.agg #[.slice ad L.length c1, .map (some ra), .map (some rk)], .bool true]) ∧ TRow w' ad L ∧ Below W'.heap.size W' w') := hcall
  clear hcall
  go_enter Tryd.func4, Tryd.ntmps4
  go_wp2_with (go_at_call 12; refine (HC.out _ (by with_reducible exact bl_alloc (bl_refl _))).mono ?_; rintro e w2 ⟨ad, c1, ra, rk, rfl, hT, hb⟩; have HB : Hid (Below w.heap.size w w2 ∧ TRow w2 ad L) := ⟨bl_via (bl_alloc (bl_refl _)) hb, hT⟩; clear hb hT)
  go_ret
  exact ⟨rfl, bl_alloc HB.out.1⟩
set_option maxHeartbeats 1600000 in
theorem Tris_yes (W H : Int) (a c : Option Addr) (n1 n2 ca cc : Nat) (L : List (Int × Int × Int)) (w : World) (hcall : ∀ W' : World, Below w.heap.size w W' → Calls Tryd.prog 12 #[.agg #[.int .i64 W, .int .i64 H, .slice a n1 ca, .slice c n2 cc]] W' fun e w' => ∃ ad c1 ra rk, e = .returned (.tuple #[.agg #[.slice ad L.length c1, .map (some ra), .map (some rk)], .bool true]) ∧ TRow w' ad L ∧ Below W'.heap.size W' w') :
    Calls Tryd.prog 6 #[.agg #[.int .i64 W, .int .i64 H, .slice a n1 ca, .slice c n2 cc]] w fun e w' => ∃ ad c1, e = .returned (.tuple #[.slice ad L.length c1, .int .i64 0]) ∧ TRow w' ad L ∧ Below w.heap.size w w' := by
  have HC : Hid (∀ W' : World, Below w.heap.size w W' → Calls Tryd.prog 12 #[.agg #[.int .i64 W, .int .i64 H, .slice a n1 ca, .slice c n2 cc]] W' fun e w' => ∃ ad c1 ra rk, e = .returned (.tuple #[.agg #[.slice ad L.length c1, .map (some ra), .map (some rk)], .bool true]) ∧ TRow w' ad L ∧ Below W'.heap.size W' w') := hcall
  clear hcall
  go_enter Tryd.func6, Tryd.ntmps6
  go_wp2_with (go_at_call 12; refine (HC.out _ (by with_reducible exact bl_alloc (bl_refl _))).mono ?_; rintro e w2 ⟨ad, c1, ra, rk, rfl, hT, hb⟩; have HB : Hid (Below w.heap.size w w2 ∧ TRow w2 ad L) := ⟨bl_via (bl_alloc (bl_refl _)) hb, hT⟩; clear hb hT)
  go_ret2
  exact ⟨ad, c1, rfl, HB.out.2.kept (bl_alloc (bl_refl _)), bl_alloc HB.out.1⟩
set_option maxHeartbeats 1600000 in
theorem Show_yes (W H : Int) (a c : Option Addr) (n1 n2 ca cc : Nat) (L : List (Int × Int × Int)) (w : World) (t : ByteArray) (hcall : ∀ W' : World, Below w.heap.size w W' → Calls Tryd.prog 12 #[.agg #[.int .i64 W, .int .i64 H, .slice a n1 ca, .slice c n2 cc]] W' fun e w' => ∃ ad c1 ra rk, e = .returned (.tuple #[.agg #[.slice ad L.length c1, .map (some ra), .map (some rk)], .bool true]) ∧ TRow w' ad L ∧ Below W'.heap.size W' w') (hshow : ∀ W' : World, Below w.heap.size w W' → Calls Tryd.prog 13 #[.agg #[.int .i64 W, .int .i64 H, .slice a n1 ca, .slice c n2 cc]] W' fun e w' => e = .returned (.string t) ∧ Below W'.heap.size W' w') :
    Calls Tryd.prog 7 #[.agg #[.int .i64 W, .int .i64 H, .slice a n1 ca, .slice c n2 cc]] w fun e w' => e = .returned (.tuple #[.string t, .int .i64 0]) ∧ Below w.heap.size w w' := by
  have HC : Hid (∀ W' : World, Below w.heap.size w W' → Calls Tryd.prog 4 #[.agg #[.int .i64 W, .int .i64 H, .slice a n1 ca, .slice c n2 cc]] W' fun e w' => e = .returned (.bool true) ∧ Below W'.heap.size W' w') := fun W' hW' => May_yes W H a c n1 n2 ca cc L W' (fun W2 hW2 => hcall W2 (bl_via hW' hW2))
  have HS : Hid (∀ W' : World, Below w.heap.size w W' → Calls Tryd.prog 13 #[.agg #[.int .i64 W, .int .i64 H, .slice a n1 ca, .slice c n2 cc]] W' fun e w' => e = .returned (.string t) ∧ Below W'.heap.size W' w') := hshow
  clear hcall hshow
  go_enter Tryd.func7, Tryd.ntmps7
  go_wp2_with (first
    | (go_at_call 4; refine (HC.out _ (by with_reducible exact bl_alloc (bl_refl _))).mono ?_; rintro e w2 ⟨rfl, hb⟩; have HB : Hid (Below w.heap.size w w2) := bl_via (bl_alloc (bl_refl _)) hb; have s0 : w2.cell? ⟨w.heap.size, 0, none⟩ = some (.int .i64 W) := cl_kept hb (by simp [go_sem]); have s1 : w2.cell? ⟨w.heap.size, 1, none⟩ = some (.int .i64 H) := cl_kept hb (by simp [go_sem]); have s2 : w2.cell? ⟨w.heap.size, 2, none⟩ = some (.slice a n1 ca) := cl_kept hb (by simp [go_sem]); have s3 : w2.cell? ⟨w.heap.size, 3, none⟩ = some (.slice c n2 cc) := cl_kept hb (by simp [go_sem]); clear hb)
    | (go_at_call 13; refine (HS.out _ HB.out).mono ?_; rintro e w3 ⟨rfl, hb⟩; have HB3 : Hid (Below w.heap.size w w3) := bl_via HB.out hb; clear hb))
  go_ret2
  exact ⟨rfl, HB3.out⟩

set_option maxRecDepth 100000 in
set_option maxHeartbeats 6400000 in
theorem sheetTells_good (W H b off cap n ccap : Nat) (cb : Option Addr) (zs ks : List Int) (w : World) (hr : Row w (some ⟨b, off, none⟩) zs) (hW : 1 ≤ W ∧ W ≤ 8) (hH : 1 ≤ H ∧ H ≤ 8) (hl : zs.length = W * H) (hm : maskB zs = true) (hk : Row w cb ks) (hn : ks.length = n * 5) (hn2 : n ≤ 3518437208883) (hs : Steps w) (hJ : Joined (ty zs W H)) (hC : ∀ i, i < n → CrOk (ty zs W H) ks i) :
    Calls Tryd.prog 3 #[.agg #[.int .i64 (W : Int), .int .i64 (H : Int), .slice (some ⟨b, off, none⟩) zs.length cap, .slice cb n ccap]] w fun e w' => e = .returned (.bool true) ∧ Below w.heap.size w w' := by
  have HR : Hid (Row w (some ⟨b, off, none⟩) zs) := hr
  have HK : Hid (Row w cb ks) := hk
  have h64 : zs.length ≤ 64 := by rw [hl]; exact Nat.le_trans (Nat.mul_le_mul hW.2 hH.2) (by decide)
  have h0 : 0 < zs.length := by
    rw [hl]
    exact Nat.mul_pos (by omega) (by omega)
  have HN0 : Hid (0 < zs.length) := h0
  have HN : Hid (ks.length = n * 5 ∧ zs.length ≤ 17592186044416 ∧ n ≤ 3518437208883) := ⟨hn, by omega, hn2⟩
  have hlen : (ty zs W H).length ≤ 300 := by have := ty_len zs W H hW.2; omega
  have CM : Hid (∀ W' : World, Below w.heap.size w W' → Calls Tryd.prog 8 #[.agg #[.int .i64 (W : Int), .int .i64 (H : Int), .slice (some ⟨b, off, none⟩) zs.length cap, .slice cb n ccap]] W' fun e w' => ∃ bb : Bool, e = .returned (.bool bb) ∧ (bb = true ↔ ((∀ i, i < n → CrOk (ty zs W H) ks i) ∧ Joined (ty zs W H))) ∧ Below W'.heap.size W' w') := fun W' hW' => sheetMay_any W H b off cap n ccap cb zs ks W' (hr.kept hW') hW hH hl hm (hk.kept hW') hn hn2
  have hcr := cr_bd (ty_bd hW.2 hH.2) hC
  have CLAY : Hid (∀ (W' : World) (ba oa ca : Nat) (bc : Option Addr) (cc : Nat), Below w.heap.size w W' → Row W' (some ⟨ba, oa, none⟩) zs → Row W' bc ks → Calls Tryd.prog 12 #[.agg #[.int .i64 (W : Int), .int .i64 (H : Int), .slice (some ⟨ba, oa, none⟩) zs.length ca, .slice bc n cc]] W' fun e w' => ∃ ad c1 ra rk, e = .returned (.tuple #[.agg #[.slice ad (ty zs W H).length c1, .map (some ra), .map (some rk)], .bool true]) ∧ TRow w' ad (ty zs W H) ∧ Below W'.heap.size W' w') := fun W' ba oa ca bc cc hb q1 q2 =>
    (lay_yes W H ba oa ca n cc bc zs ks W' q1 hW hH hl hm q2 hn hn2 (hs.kept hb) hJ hC).mono fun e w' ⟨ad, c1, base, ra, rk, he, hP⟩ => ⟨ad, c1, ra, rk, he, hP.pa.1, hP.2.2.2.2⟩
  have CSH : Hid (∀ (W' : World) (ba oa ca : Nat) (bc : Option Addr) (cc : Nat), Row W' (some ⟨ba, oa, none⟩) zs → Row W' bc ks → zs.length ≤ ca → Calls Tryd.prog 13 #[.agg #[.int .i64 (W : Int), .int .i64 (H : Int), .slice (some ⟨ba, oa, none⟩) zs.length ca, .slice bc n cc]] W' fun e w' => e = .returned (.string ⟨(shT zs ks W H n).toArray⟩) ∧ Below W'.heap.size W' w') := fun W' ba oa ca bc cc q1 q2 q3 => show_any W H ba oa ca n cc bc zs ks W' q1 hW hH hl hm q3 q2 hn hn2 hcr
  have CT : Hid (∀ W' : World, Below w.heap.size w W' → Calls Tryd.prog 10 #[.agg #[.int .i64 (W : Int), .int .i64 (H : Int), .slice (some ⟨b, off, none⟩) zs.length cap, .slice cb n ccap]] W' fun e w' => ∃ v, e = .returned v ∧ w'.ownsRow (W'.heap.size + 1) 52 3 v (ty zs W H).length (flatV (ty zs W H)) ∧ Below W'.heap.size W' w') := fun W' hW' => trisOf_any W H b off cap zs _ W' (hr.kept hW') hW hH hl hm
  have CX : Hid (∀ W' : World, Below w.heap.size w W' → Calls Tryd.prog 11 #[.agg #[.int .i64 (W : Int), .int .i64 (H : Int), .slice (some ⟨b, off, none⟩) zs.length cap, .slice cb n ccap]] W' fun e w' => ∃ t, e = .returned (.string t) ∧ t.data.toList = shT zs ks W H n ∧ Below W'.heap.size W' w') := fun W' hW' => sheetText_any W H b off cap n ccap cb zs ks W' (hr.kept hW') hW hH hl hm (hk.kept hW') hn hn2 hcr
  obtain ⟨tS, hTS⟩ : ∃ tS : ByteArray, tS = ⟨(shT zs ks W H n).toArray⟩ := ⟨_, rfl⟩
  rw [← hTS] at CSH
  have HTS : Hid (tS = ⟨(shT zs ks W H n).toArray⟩) := hTS
  have HOK : Hid ((∀ i, i < n → CrOk (ty zs W H) ks i) ∧ Joined (ty zs W H)) := ⟨hC, hJ⟩
  clear hr hk hl hm hW hH hn hs hJ hC hcr hTS h0
  obtain ⟨L, hL⟩ : ∃ L, L = ty zs W H := ⟨_, rfl⟩
  rw [← hL] at CLAY CM CT HOK hlen
  clear hL
  go_enter Tryd.func3, Tryd.ntmps3
  go_wp2_with (first
    | (go_at_call 5; have _t := HT; refine (sheetOf_cap (W : Int) (H : Int) (some ⟨b, off, none⟩) cb cap ccap n zs ks _ (HR.out.kept (by with_reducible (first | exact HB.out | exact bl_alloc (bl_refl _)))) (HK.out.kept (by with_reducible (first | exact HB.out | exact bl_alloc (bl_refl _)))) HN.out.1 HN.out.2.1 HN.out.2.2).mono ?_; rintro e w2 ⟨a1, ca1, bc1, cc1, rfl, hrow, hrk, hb, hcp⟩; obtain ⟨ba, oa, rfl, _⟩ := hrow.row 0 HN0.out; have HRow : Hid (Row w2 (some ⟨ba, oa, none⟩) zs ∧ Row w2 bc1 ks ∧ zs.length ≤ ca1) := ⟨hrow.row, hrk.row, hcp⟩; have s0 : w2.cell? ⟨w.heap.size, 0, none⟩ = some (.int .i64 (W : Int)) := cl_kept hb (by first | (with_reducible assumption) | (simp [go_sem]; done)); have s1 : w2.cell? ⟨w.heap.size, 1, none⟩ = some (.int .i64 (H : Int)) := cl_kept hb (by first | (with_reducible assumption) | (simp [go_sem]; done)); have s2 : w2.cell? ⟨w.heap.size, 2, none⟩ = some (.slice (some ⟨b, off, none⟩) zs.length cap) := cl_kept hb (by first | (with_reducible assumption) | (simp [go_sem]; done)); have s3 : w2.cell? ⟨w.heap.size, 3, none⟩ = some (.slice cb n ccap) := cl_kept hb (by first | (with_reducible assumption) | (simp [go_sem]; done)); have hq : Below w.heap.size w w2 := (by with_reducible (first | exact bl_via HB.out hb | exact bl_via (bl_alloc (bl_refl _)) hb)); have HB : Hid (Below w.heap.size w w2) := hq; have zs0 : w.heap.size < w2.heap.size := World.block_lt_of_cell? _ _ s0; clear hq; have HT : Hid (TRow w2 ad L) := HT.out.kept hb; clear hb hrow hrk hcp; clear _t)
    | (go_at_call 5; refine (sheetOf_cap (W : Int) (H : Int) (some ⟨b, off, none⟩) cb cap ccap n zs ks _ (HR.out.kept (by with_reducible (first | exact HB.out | exact bl_alloc (bl_refl _)))) (HK.out.kept (by with_reducible (first | exact HB.out | exact bl_alloc (bl_refl _)))) HN.out.1 HN.out.2.1 HN.out.2.2).mono ?_; rintro e w2 ⟨a1, ca1, bc1, cc1, rfl, hrow, hrk, hb, hcp⟩; obtain ⟨ba, oa, rfl, _⟩ := hrow.row 0 HN0.out; have HRow : Hid (Row w2 (some ⟨ba, oa, none⟩) zs ∧ Row w2 bc1 ks ∧ zs.length ≤ ca1) := ⟨hrow.row, hrk.row, hcp⟩; have s0 : w2.cell? ⟨w.heap.size, 0, none⟩ = some (.int .i64 (W : Int)) := cl_kept hb (by first | (with_reducible assumption) | (simp [go_sem]; done)); have s1 : w2.cell? ⟨w.heap.size, 1, none⟩ = some (.int .i64 (H : Int)) := cl_kept hb (by first | (with_reducible assumption) | (simp [go_sem]; done)); have s2 : w2.cell? ⟨w.heap.size, 2, none⟩ = some (.slice (some ⟨b, off, none⟩) zs.length cap) := cl_kept hb (by first | (with_reducible assumption) | (simp [go_sem]; done)); have s3 : w2.cell? ⟨w.heap.size, 3, none⟩ = some (.slice cb n ccap) := cl_kept hb (by first | (with_reducible assumption) | (simp [go_sem]; done)); have hq : Below w.heap.size w w2 := (by with_reducible (first | exact bl_via HB.out hb | exact bl_via (bl_alloc (bl_refl _)) hb)); have HB : Hid (Below w.heap.size w w2) := hq; have zs0 : w.heap.size < w2.heap.size := World.block_lt_of_cell? _ _ s0; clear hq; clear hb hrow hrk hcp)
    | (go_at_call 4; refine (May_yes (W : Int) (H : Int) _ _ _ _ _ _ L _ (fun W' hW' => CLAY.out W' _ _ _ _ _ (bl_via HB.out hW') (HRow.out.1.kept hW') (HRow.out.2.1.kept hW'))).mono ?_; rintro e w2 ⟨rfl, hb⟩; have s0 : w2.cell? ⟨w.heap.size, 0, none⟩ = some (.int .i64 (W : Int)) := cl_kept hb (by first | (with_reducible assumption) | (simp [go_sem]; done)); have s1 : w2.cell? ⟨w.heap.size, 1, none⟩ = some (.int .i64 (H : Int)) := cl_kept hb (by first | (with_reducible assumption) | (simp [go_sem]; done)); have s2 : w2.cell? ⟨w.heap.size, 2, none⟩ = some (.slice (some ⟨b, off, none⟩) zs.length cap) := cl_kept hb (by first | (with_reducible assumption) | (simp [go_sem]; done)); have s3 : w2.cell? ⟨w.heap.size, 3, none⟩ = some (.slice cb n ccap) := cl_kept hb (by first | (with_reducible assumption) | (simp [go_sem]; done)); have hq : Below w.heap.size w w2 := (by with_reducible (first | exact bl_via HB.out hb | exact bl_via (bl_alloc (bl_refl _)) hb)); have HB : Hid (Below w.heap.size w w2) := hq; have zs0 : w.heap.size < w2.heap.size := World.block_lt_of_cell? _ _ s0; clear hq; clear hb)
    | (go_at_call 6; refine (Tris_yes (W : Int) (H : Int) _ _ _ _ _ _ L _ (fun W' hW' => CLAY.out W' _ _ _ _ _ (bl_via HB.out hW') (HRow.out.1.kept hW') (HRow.out.2.1.kept hW'))).mono ?_; rintro e w2 ⟨ad, c1, rfl, hT, hb⟩; have s0 : w2.cell? ⟨w.heap.size, 0, none⟩ = some (.int .i64 (W : Int)) := cl_kept hb (by first | (with_reducible assumption) | (simp [go_sem]; done)); have s1 : w2.cell? ⟨w.heap.size, 1, none⟩ = some (.int .i64 (H : Int)) := cl_kept hb (by first | (with_reducible assumption) | (simp [go_sem]; done)); have s2 : w2.cell? ⟨w.heap.size, 2, none⟩ = some (.slice (some ⟨b, off, none⟩) zs.length cap) := cl_kept hb (by first | (with_reducible assumption) | (simp [go_sem]; done)); have s3 : w2.cell? ⟨w.heap.size, 3, none⟩ = some (.slice cb n ccap) := cl_kept hb (by first | (with_reducible assumption) | (simp [go_sem]; done)); have hq : Below w.heap.size w w2 := (by with_reducible (first | exact bl_via HB.out hb | exact bl_via (bl_alloc (bl_refl _)) hb)); have HB : Hid (Below w.heap.size w w2) := hq; have zs0 : w.heap.size < w2.heap.size := World.block_lt_of_cell? _ _ s0; clear hq; have HT : Hid (TRow w2 ad L) := hT; clear hT; clear hb)
    | (go_at_call 7; have _t := HT; refine (Show_yes (W : Int) (H : Int) _ _ _ _ _ _ L _ tS (fun W' hW' => CLAY.out W' _ _ _ _ _ (bl_via HB.out hW') (HRow.out.1.kept hW') (HRow.out.2.1.kept hW')) (fun W' hW' => CSH.out W' _ _ _ _ _ (HRow.out.1.kept hW') (HRow.out.2.1.kept hW') HRow.out.2.2)).mono ?_; rintro e w2 ⟨rfl, hb⟩; have s0 : w2.cell? ⟨w.heap.size, 0, none⟩ = some (.int .i64 (W : Int)) := cl_kept hb (by first | (with_reducible assumption) | (simp [go_sem]; done)); have s1 : w2.cell? ⟨w.heap.size, 1, none⟩ = some (.int .i64 (H : Int)) := cl_kept hb (by first | (with_reducible assumption) | (simp [go_sem]; done)); have s2 : w2.cell? ⟨w.heap.size, 2, none⟩ = some (.slice (some ⟨b, off, none⟩) zs.length cap) := cl_kept hb (by first | (with_reducible assumption) | (simp [go_sem]; done)); have s3 : w2.cell? ⟨w.heap.size, 3, none⟩ = some (.slice cb n ccap) := cl_kept hb (by first | (with_reducible assumption) | (simp [go_sem]; done)); have hq : Below w.heap.size w w2 := (by with_reducible (first | exact bl_via HB.out hb | exact bl_via (bl_alloc (bl_refl _)) hb)); have HB : Hid (Below w.heap.size w w2) := hq; have zs0 : w.heap.size < w2.heap.size := World.block_lt_of_cell? _ _ s0; clear hq; have HT : Hid (TRow w2 ad L) := HT.out.kept hb; clear hb _t)
    | (go_at_call 8; have _t := HT; refine (CM.out _ (by with_reducible (first | exact HB.out | exact bl_alloc (bl_refl _)))).mono ?_; rintro e w2 ⟨bb, rfl, hbb, hb⟩; have s0 : w2.cell? ⟨w.heap.size, 0, none⟩ = some (.int .i64 (W : Int)) := cl_kept hb (by first | (with_reducible assumption) | (simp [go_sem]; done)); have s1 : w2.cell? ⟨w.heap.size, 1, none⟩ = some (.int .i64 (H : Int)) := cl_kept hb (by first | (with_reducible assumption) | (simp [go_sem]; done)); have s2 : w2.cell? ⟨w.heap.size, 2, none⟩ = some (.slice (some ⟨b, off, none⟩) zs.length cap) := cl_kept hb (by first | (with_reducible assumption) | (simp [go_sem]; done)); have s3 : w2.cell? ⟨w.heap.size, 3, none⟩ = some (.slice cb n ccap) := cl_kept hb (by first | (with_reducible assumption) | (simp [go_sem]; done)); have hq : Below w.heap.size w w2 := (by with_reducible (first | exact bl_via HB.out hb | exact bl_via (bl_alloc (bl_refl _)) hb)); have HB : Hid (Below w.heap.size w w2) := hq; have zs0 : w.heap.size < w2.heap.size := World.block_lt_of_cell? _ _ s0; clear hq; obtain rfl : bb = true := hbb.2 HOK.out; clear hbb; have HT : Hid (TRow w2 ad L) := HT.out.kept hb; clear hb _t)
    | (go_at_call 10; have _t := HT; refine (CT.out _ (by with_reducible (first | exact HB.out | exact bl_alloc (bl_refl _)))).mono ?_; rintro e w2 ⟨v, rfl, ho, hb⟩; have s0 : w2.cell? ⟨w.heap.size, 0, none⟩ = some (.int .i64 (W : Int)) := cl_kept hb (by first | (with_reducible assumption) | (simp [go_sem]; done)); have s1 : w2.cell? ⟨w.heap.size, 1, none⟩ = some (.int .i64 (H : Int)) := cl_kept hb (by first | (with_reducible assumption) | (simp [go_sem]; done)); have s2 : w2.cell? ⟨w.heap.size, 2, none⟩ = some (.slice (some ⟨b, off, none⟩) zs.length cap) := cl_kept hb (by first | (with_reducible assumption) | (simp [go_sem]; done)); have s3 : w2.cell? ⟨w.heap.size, 3, none⟩ = some (.slice cb n ccap) := cl_kept hb (by first | (with_reducible assumption) | (simp [go_sem]; done)); have hq : Below w.heap.size w w2 := (by with_reducible (first | exact bl_via HB.out hb | exact bl_via (bl_alloc (bl_refl _)) hb)); have HB : Hid (Below w.heap.size w w2) := hq; have zs0 : w.heap.size < w2.heap.size := World.block_lt_of_cell? _ _ s0; clear hq; obtain ⟨a5, c5, rfl, hT5⟩ := own_tris ho; have HT5 : Hid (TRow w2 a5 L) := hT5; clear ho hT5; have HT : Hid (TRow w2 ad L) := HT.out.kept hb; clear hb _t)
    | (go_at_call 9; refine (sameTris_yes _ _ _ _ L _ hlen HT.out HT5.out).mono ?_; rintro e w2 ⟨rfl, hb⟩; have s0 : w2.cell? ⟨w.heap.size, 0, none⟩ = some (.int .i64 (W : Int)) := cl_kept hb (by first | (with_reducible assumption) | (simp [go_sem]; done)); have s1 : w2.cell? ⟨w.heap.size, 1, none⟩ = some (.int .i64 (H : Int)) := cl_kept hb (by first | (with_reducible assumption) | (simp [go_sem]; done)); have s2 : w2.cell? ⟨w.heap.size, 2, none⟩ = some (.slice (some ⟨b, off, none⟩) zs.length cap) := cl_kept hb (by first | (with_reducible assumption) | (simp [go_sem]; done)); have s3 : w2.cell? ⟨w.heap.size, 3, none⟩ = some (.slice cb n ccap) := cl_kept hb (by first | (with_reducible assumption) | (simp [go_sem]; done)); have hq : Below w.heap.size w w2 := (by with_reducible (first | exact bl_via HB.out hb | exact bl_via (bl_alloc (bl_refl _)) hb)); have HB : Hid (Below w.heap.size w w2) := hq; have zs0 : w.heap.size < w2.heap.size := World.block_lt_of_cell? _ _ s0; clear hq; clear hb)
    | (go_at_call 11; refine (CX.out _ (by with_reducible (first | exact HB.out | exact bl_alloc (bl_refl _)))).mono ?_; rintro e w2 ⟨t, rfl, htx, hb⟩; have s0 : w2.cell? ⟨w.heap.size, 0, none⟩ = some (.int .i64 (W : Int)) := cl_kept hb (by first | (with_reducible assumption) | (simp [go_sem]; done)); have s1 : w2.cell? ⟨w.heap.size, 1, none⟩ = some (.int .i64 (H : Int)) := cl_kept hb (by first | (with_reducible assumption) | (simp [go_sem]; done)); have s2 : w2.cell? ⟨w.heap.size, 2, none⟩ = some (.slice (some ⟨b, off, none⟩) zs.length cap) := cl_kept hb (by first | (with_reducible assumption) | (simp [go_sem]; done)); have s3 : w2.cell? ⟨w.heap.size, 3, none⟩ = some (.slice cb n ccap) := cl_kept hb (by first | (with_reducible assumption) | (simp [go_sem]; done)); have hq : Below w.heap.size w w2 := (by with_reducible (first | exact bl_via HB.out hb | exact bl_via (bl_alloc (bl_refl _)) hb)); have HB : Hid (Below w.heap.size w w2) := hq; have zs0 : w.heap.size < w2.heap.size := World.block_lt_of_cell? _ _ s0; clear hq; obtain rfl : t = tS := (bytes_eq htx).trans HTS.out.symm; clear htx; clear hb))
  go_ret
  exact ⟨rfl, HB.out⟩
end Go.Proofs.YtehmoacggikfmaaDoor
