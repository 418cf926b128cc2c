/- What the faces of package sheet answer of a sheet that may be. -/
import Derived.Test.YtdkkchhlhglldaaDoorShwsW
import Derived.Test.YtdkkchhlhglldaaDoorLayyW
import Derived.Test.YtdkkchhlhglldaaDoorShtpW
namespace Go.Proofs.YtdkkchhlhglldaaDoor
open Go.RowKit Go.ChangeMaps

set_option maxRecDepth 100000 in
set_option maxHeartbeats 1600000 in
theorem sameTris_yes (a c : Option Addr) (ca cc : Nat) (L : List (Int × Int × Int)) (w : World) (hL : L.length ≤ 300) (ha : TRow w a L) (hc : TRow w c L) :
    Calls Tryd.prog 37 #[.slice a L.length ca, .slice c L.length cc] w fun e w' => e = .returned (.bool true) ∧ Below w.heap.size w w' := by
  have HA : Hid (TRow w a L) := ha
  have HC : Hid (TRow w c L) := hc
  clear ha hc
  go_enter Tryd.func37, Tryd.ntmps37
  go_wp2
  go_loopg [5] L.length (fun gk s5 wx => ∃ i : Nat, i ≤ L.length ∧ gk = L.length - i ∧ s5 = .int .i64 (i : Int) ∧ Below w.heap.size w wx)
  case atStart => exact ⟨0, by omega, rfl, rfl, bl_refl _⟩
  case round =>
    obtain ⟨i, hi, rfl, rfl, hB⟩ := hrel
    have HB : Hid (Below w.heap.size w wr) := hB
    clear hB
    by_cases h1 : i < L.length
    · have i1 : (i : Int) < (L.length : Int) := by omega
      have i0 : (0 : Int) ≤ (i : Int) := by omega
      obtain ⟨g, rfl, t0, t1, t2⟩ := (HA.out.kept HB.out) i h1
      obtain ⟨g', rfl, u0, u1, u2⟩ := (HC.out.kept HB.out) i h1
      have z1 : g < wr.heap.size := World.block_lt_of_cell? _ _ t0
      have z2 : g' < wr.heap.size := World.block_lt_of_cell? _ _ u0
      obtain ⟨x, hx⟩ : ∃ x, x = L[i].1 := ⟨_, rfl⟩
      obtain ⟨y, hy⟩ : ∃ y, y = L[i].2.1 := ⟨_, rfl⟩
      obtain ⟨k, hk⟩ : ∃ k, k = L[i].2.2 := ⟨_, rfl⟩
      rw [← hx] at t0 u0
      rw [← hy] at t1 u1
      rw [← hk] at t2 u2
      have hneq : ∀ w' : World, (binOp .neq 23 (.agg #[.int .i64 x, .int .i64 y, .int .i64 k]) (.agg #[.int .i64 x, .int .i64 y, .int .i64 k])).run Tryd.prog w' = .ok (.bool false) w' := fun w' => by
        have := neq23 x y k x y k w'
        simpa [sameT] using this
      clear hx hy hk
      have kc := Kin.cells wr
      have kn : Nonempty (Kin wr) := ⟨⟨wr, bl_refl _⟩⟩
      go_wp2
      refine wp_region_kin (by kernel_rfl) (by kernel_rfl) ?_
      repeat (go_big_quiet_step (fail))
      refine wpQuiet_nil ?_
      intro wq hw'
      obtain ⟨nq, hw''⟩ := hw'
      have hq : Below wr.heap.size wr wq := hw'' ▸ nq.h
      have HQ : Hid (Below w.heap.size w wq) := bl_via HB.out hq
      clear hw'' nq hq kc kn
      go_wp2
      go_roundg (L.length - (i + 1))
      case measure => omega
      case rel => exact ⟨i + 1, by omega, rfl, by go_num, HQ.out⟩
    · have i1 : ¬ (i : Int) < (L.length : Int) := by omega
      go_wp2
      go_ret
      exact ⟨rfl, HB.out⟩

theorem has_bd {x y k p q r s : Int} (h : hasB x y k p q r s = true) (hx : 0 ≤ x ∧ x ≤ 8) (hy : 0 ≤ y ∧ y ≤ 8) (hk : 0 ≤ k ∧ k ≤ 3) : (0 ≤ p ∧ p < 100) ∧ (0 ≤ q ∧ q < 100) ∧ (0 ≤ r ∧ r < 100) ∧ (0 ≤ s ∧ s < 100) := by
  rw [hasB_or] at h
  have hk4 : k = 0 ∨ k = 1 ∨ k = 2 ∨ k = 3 := by omega
  rcases hk4 with rfl | rfl | rfl | rfl <;> simp only [e0_0, e0_1, e0_2, e0_3, e1_0, e1_1, e1_2, e1_3, e2_0, e2_1, e2_2, e2_3] at h <;> omega
theorem cr_bd {L : List (Int × Int × Int)} {ks : List Int} {n : Nat} (hL : ∀ t ∈ L, (0 ≤ t.1 ∧ t.1 ≤ 8) ∧ (0 ≤ t.2.1 ∧ t.2.1 ≤ 8) ∧ (0 ≤ t.2.2 ∧ t.2.2 ≤ 3)) (h : ∀ i, i < n → CrOk L ks i) : ∀ i, i < n → ∀ j, j < 4 → 0 ≤ ck ks i j ∧ ck ks i j < 100 := fun i hi j hj => by
  have hc := (h i hi).2.2
  have hp : 0 < cnt L (ck ks i 0) (ck ks i 1) (ck ks i 2) (ck ks i 3) := by omega
  obtain ⟨t, ht, hh⟩ := List.countP_pos_iff.1 hp
  have hb := hL t ht
  have := has_bd hh hb.1 hb.2.1 hb.2.2
  have h4 : j = 0 ∨ j = 1 ∨ j = 2 ∨ j = 3 := by omega
  rcases h4 with rfl | rfl | rfl | rfl
  · exact this.1
  · exact this.2.1
  · exact this.2.2.1
  · exact this.2.2.2

set_option maxHeartbeats 1600000 in
theorem May_yes (W H : Int) (a c : Option Addr) (n1 n2 ca cc : Nat) (L : List (Int × Int × Int)) (w : World) (hcall : ∀ W' : World, Below w.heap.size w W' → Calls Tryd.prog 72 #[.agg #[.int .i64 W, .int .i64 H, .slice a n1 ca, .slice c n2 cc]] W' fun e w' => ∃ ad c1 ra rk, e = .returned (.tuple #[.agg #[.slice ad L.length c1, .map (some ra), .map (some rk)], .bool true]) ∧ TRow w' ad L ∧ Below W'.heap.size W' w') :
    Calls Tryd.prog 32 #[.agg #[.int .i64 W, .int .i64 H, .slice a n1 ca, .slice c n2 cc]] w fun e w' => e = .returned (.bool true) ∧ Below w.heap.size w w' := by
  have HC : Hid (∀ W' : World, Below w.heap.size w W' → Calls Tryd.prog 72 #[.agg #[.int .i64 W, .int .i64 H, .slice a n1 ca, .slice c n2 cc]] W' fun e w' => ∃ ad c1 ra rk, e = .returned (.tuple #[.agg #[.slice ad L.length c1, .map (some ra), .map (some rk)], .bool true]) ∧ TRow w' ad L ∧ Below W'.heap.size W' w') := hcall
  clear hcall
  go_enter Tryd.func32, Tryd.ntmps32
  go_wp2_with (go_at_call 72; refine (HC.out _ (by with_reducible exact bl_alloc (bl_refl _))).mono ?_; rintro e w2 ⟨ad, c1, ra, rk, rfl, hT, hb⟩; have HB : Hid (Below w.heap.size w w2 ∧ TRow w2 ad L) := ⟨bl_via (bl_alloc (bl_refl _)) hb, hT⟩; clear hb hT)
  go_ret
  exact ⟨rfl, bl_alloc HB.out.1⟩
set_option maxHeartbeats 1600000 in
theorem Tris_yes (W H : Int) (a c : Option Addr) (n1 n2 ca cc : Nat) (L : List (Int × Int × Int)) (w : World) (hcall : ∀ W' : World, Below w.heap.size w W' → Calls Tryd.prog 72 #[.agg #[.int .i64 W, .int .i64 H, .slice a n1 ca, .slice c n2 cc]] W' fun e w' => ∃ ad c1 ra rk, e = .returned (.tuple #[.agg #[.slice ad L.length c1, .map (some ra), .map (some rk)], .bool true]) ∧ TRow w' ad L ∧ Below W'.heap.size W' w') :
    Calls Tryd.prog 34 #[.agg #[.int .i64 W, .int .i64 H, .slice a n1 ca, .slice c n2 cc]] w fun e w' => ∃ ad c1, e = .returned (.tuple #[.slice ad L.length c1, .int .i64 0]) ∧ TRow w' ad L ∧ Below w.heap.size w w' := by
  have HC : Hid (∀ W' : World, Below w.heap.size w W' → Calls Tryd.prog 72 #[.agg #[.int .i64 W, .int .i64 H, .slice a n1 ca, .slice c n2 cc]] W' fun e w' => ∃ ad c1 ra rk, e = .returned (.tuple #[.agg #[.slice ad L.length c1, .map (some ra), .map (some rk)], .bool true]) ∧ TRow w' ad L ∧ Below W'.heap.size W' w') := hcall
  clear hcall
  go_enter Tryd.func34, Tryd.ntmps34
  go_wp2_with (go_at_call 72; refine (HC.out _ (by with_reducible exact bl_alloc (bl_refl _))).mono ?_; rintro e w2 ⟨ad, c1, ra, rk, rfl, hT, hb⟩; have HB : Hid (Below w.heap.size w w2 ∧ TRow w2 ad L) := ⟨bl_via (bl_alloc (bl_refl _)) hb, hT⟩; clear hb hT)
  go_ret2
  exact ⟨ad, c1, rfl, HB.out.2.kept (bl_alloc (bl_refl _)), bl_alloc HB.out.1⟩
set_option maxHeartbeats 1600000 in
theorem Show_yes (W H : Int) (a c : Option Addr) (n1 n2 ca cc : Nat) (L : List (Int × Int × Int)) (w : World) (t : ByteArray) (hcall : ∀ W' : World, Below w.heap.size w W' → Calls Tryd.prog 72 #[.agg #[.int .i64 W, .int .i64 H, .slice a n1 ca, .slice c n2 cc]] W' fun e w' => ∃ ad c1 ra rk, e = .returned (.tuple #[.agg #[.slice ad L.length c1, .map (some ra), .map (some rk)], .bool true]) ∧ TRow w' ad L ∧ Below W'.heap.size W' w') (hshow : ∀ W' : World, Below w.heap.size w W' → Calls Tryd.prog 73 #[.agg #[.int .i64 W, .int .i64 H, .slice a n1 ca, .slice c n2 cc]] W' fun e w' => e = .returned (.string t) ∧ Below W'.heap.size W' w') :
    Calls Tryd.prog 35 #[.agg #[.int .i64 W, .int .i64 H, .slice a n1 ca, .slice c n2 cc]] w fun e w' => e = .returned (.tuple #[.string t, .int .i64 0]) ∧ Below w.heap.size w w' := by
  have HC : Hid (∀ W' : World, Below w.heap.size w W' → Calls Tryd.prog 32 #[.agg #[.int .i64 W, .int .i64 H, .slice a n1 ca, .slice c n2 cc]] W' fun e w' => e = .returned (.bool true) ∧ Below W'.heap.size W' w') := fun W' hW' => May_yes W H a c n1 n2 ca cc L W' (fun W2 hW2 => hcall W2 (bl_via hW' hW2))
  have HS : Hid (∀ W' : World, Below w.heap.size w W' → Calls Tryd.prog 73 #[.agg #[.int .i64 W, .int .i64 H, .slice a n1 ca, .slice c n2 cc]] W' fun e w' => e = .returned (.string t) ∧ Below W'.heap.size W' w') := hshow
  clear hcall hshow
  go_enter Tryd.func35, Tryd.ntmps35
  go_wp2_with (first
    | (go_at_call 32; refine (HC.out _ (by with_reducible exact bl_alloc (bl_refl _))).mono ?_; rintro e w2 ⟨rfl, hb⟩; have HB : Hid (Below w.heap.size w w2) := bl_via (bl_alloc (bl_refl _)) hb; have s0 : w2.cell? ⟨w.heap.size, 0, none⟩ = some (.int .i64 W) := cl_kept hb (by simp [go_sem]); have s1 : w2.cell? ⟨w.heap.size, 1, none⟩ = some (.int .i64 H) := cl_kept hb (by simp [go_sem]); have s2 : w2.cell? ⟨w.heap.size, 2, none⟩ = some (.slice a n1 ca) := cl_kept hb (by simp [go_sem]); have s3 : w2.cell? ⟨w.heap.size, 3, none⟩ = some (.slice c n2 cc) := cl_kept hb (by simp [go_sem]); clear hb)
    | (go_at_call 73; refine (HS.out _ HB.out).mono ?_; rintro e w3 ⟨rfl, hb⟩; have HB3 : Hid (Below w.heap.size w w3) := bl_via HB.out hb; clear hb))
  go_ret2
  exact ⟨rfl, HB3.out⟩
end Go.Proofs.YtdkkchhlhglldaaDoor
