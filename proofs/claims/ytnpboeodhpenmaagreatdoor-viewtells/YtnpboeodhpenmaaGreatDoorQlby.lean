/- A part of the proof of viewTells_holds. -/
import Derived.Test.YtnpboeodhpenmaaGreatDoorQlbx
import Derived.Test.YtnpboeodhpenmaaGreatDoorQlbr
import Derived.Test.YtnpboeodhpenmaaGreatDoorQlaf
import Derived.Test.YtnpboeodhpenmaaGreatDoorQlab
import Derived.Test.YtnpboeodhpenmaaGreatDoorQlbv
import Derived.Test.YtnpboeodhpenmaaGreatDoorQlbc
import Derived.Test.YtnpboeodhpenmaaGreatDoorQlbt
import Derived.Test.YtnpboeodhpenmaaGreatDoorQlbs
namespace Go.Proofs.YtnpboeodhpenmaaGreatDoor
open Go.RowKit

theorem eql160 (a b : Int) (w : World) : (binOp .eql 240 (.agg #[.int .i64 a, .int .i64 b]) (.agg #[.int .i64 0, .int .i64 0])).run Tryz.prog w = .ok (.bool (decide (a = 0 ∧ b = 0))) w := by
  by_cases h1 : a = 0
  · subst h1
    by_cases h2 : b = 0
    · subst h2
      simp [go_sem]
    · simp [go_sem, h2]
  · simp [go_sem, h1]
set_option maxRecDepth 100000 in
set_option maxHeartbeats 3200000 in
theorem letters_none (w : World) : Calls Tryz.prog 154 #[.agg #[.int .i64 0, .int .i64 0]] w fun e w' => e = .returned (.string ⟨#[46, 46]⟩) ∧ Below w.heap.size w w' := by
  have he := eql160
  go_enter Tryz.func154, Tryz.ntmps154
  go_wp2
  go_ret
  exact ⟨rfl, bl_alloc (bl_refl _)⟩
set_option maxRecDepth 100000 in
set_option maxHeartbeats 3200000 in
theorem letters_some (a b : Int) (sa sb : ByteArray) (w : World) (hsz : sa.size + sb.size ≤ 100) (h : ¬ (a = 0 ∧ b = 0)) (CA : Hid (∀ V : World, Below w.heap.size w V → Calls Tryz.prog 238 #[.int .i64 a] V fun e w' => e = .returned (.string sa) ∧ Below V.heap.size V w')) (CB : Hid (∀ V : World, Below w.heap.size w V → Calls Tryz.prog 238 #[.int .i64 b] V fun e w' => e = .returned (.string sb) ∧ Below V.heap.size V w')) :
    Calls Tryz.prog 154 #[.agg #[.int .i64 a, .int .i64 b]] w fun e w' => e = .returned (.string (sa ++ sb)) ∧ Below w.heap.size w w' := by
  have he : ∀ wq : World, (binOp .eql 240 (.agg #[.int .i64 a, .int .i64 b]) (.agg #[.int .i64 0, .int .i64 0])).run Tryz.prog wq = .ok (.bool false) wq := fun wq => by rw [eql160, decide_eq_false h]
  clear h
  go_enter Tryz.func154, Tryz.ntmps154
  go_upto_region 3 with fail
  refine wp_named (fun W0 hW0 => ?_)
  have HSX : Hid (∀ wx : World, Below W0.heap.size W0 wx → wx.cell? ⟨w.heap.size, 0, none⟩ = some (.int .i64 a) ∧ wx.cell? ⟨w.heap.size, 1, none⟩ = some (.int .i64 b)) := fun wx hx => by
    rw [hW0] at hx
    exact ⟨cl_kept hx (by simp [go_sem]), cl_kept hx (by simp [go_sem])⟩
  have HW0 : Hid (Below w.heap.size w W0) := by rw [hW0]; exact bl_alloc (bl_refl _)
  clear hW0
  refine wp_region_held_drew (S := fun w' => w'.cell? ⟨w.heap.size, 0, none⟩ = some (.int .i64 a) ∧ w'.cell? ⟨w.heap.size, 1, none⟩ = some (.int .i64 b)) (by kernel_rfl) (HSX.out _ (bl_drew (bl_refl _))) (fun hHeld => ?_)
  refine wpAnyH_take (i := 0) (v := .pointer (some ⟨w.heap.size, 0, none⟩)) rfl (by kernel_rfl) (by kernel_rfl) (by kernel_rfl) (fun _ _ _ h => h) (Or.inl ⟨by rfl, ?hyy⟩) (by assumption) ?_
  case hyy => (intro w' hSw; (try dsimp only at hSw); go_simp)
  try simp only [Act.put, List.getElem_toArray, List.getElem_cons_zero, List.setIfInBounds_toArray, List.set_cons_zero, List.set_cons_succ]
  refine wpAnyH_take (i := 1) (v := .int .i64 a) rfl (by kernel_rfl) (by kernel_rfl) (by kernel_rfl) (fun _ _ _ h => h) (Or.inl ⟨by rfl, ?hyy⟩) (by assumption) ?_
  case hyy => (intro w' hSw; (try dsimp only at hSw); go_simp)
  try simp only [Act.put, List.getElem_toArray, List.getElem_cons_succ, List.getElem_cons_zero, List.setIfInBounds_toArray, List.set_cons_zero, List.set_cons_succ]
  refine wpAnyH_take (i := 3) (v := .pointer (some ⟨w.heap.size, 1, none⟩)) rfl (by kernel_rfl) (by kernel_rfl) (by kernel_rfl) (fun _ _ _ h => h) (Or.inl ⟨by rfl, ?hyy⟩) (by assumption) ?_
  case hyy => (intro w' hSw; (try dsimp only at hSw); go_simp)
  try simp only [Act.put, List.getElem_toArray, List.getElem_cons_succ, List.getElem_cons_zero, List.setIfInBounds_toArray, List.set_cons_zero, List.set_cons_succ]
  refine wpAnyH_take (i := 4) (v := .int .i64 b) rfl (by kernel_rfl) (by kernel_rfl) (by kernel_rfl) (fun _ _ _ h => h) (Or.inl ⟨by rfl, ?hyy⟩) (by assumption) ?_
  case hyy => (intro w' hSw; (try dsimp only at hSw); go_simp)
  try simp only [Act.put, List.getElem_toArray, List.getElem_cons_succ, List.getElem_cons_zero, List.setIfInBounds_toArray, List.set_cons_zero, List.set_cons_succ]
  refine wpAnyH_ready (rs := [2]) (by kernel_rfl) (by simp) ?_
  refine AllReadyH.cons rfl (fun K hK => ?_) AllReadyH.nil
  refine step_callTo (by rfl) 238 #[.int .i64 a] (by kernel_rfl) (CA.out _ (bl_drew HW0.out)) ?_
  rintro e w5 ⟨rfl, hb5⟩
  refine ⟨_, rfl, ?_⟩
  have HB5 : Hid (Below W0.heap.size W0 w5) := bl_via (bl_drew (bl_refl _)) hb5
  clear hb5
  refine hK.out _ _ (HSX.out _ HB5.out) (fun hHd => ?_)
  clear hK K
  try simp only [Act.put, List.getElem_toArray, List.getElem_cons_succ, List.getElem_cons_zero, List.setIfInBounds_toArray, List.set_cons_zero, List.set_cons_succ]
  refine wpAnyH_ready (rs := [5]) (by kernel_rfl) (by simp) ?_
  refine AllReadyH.cons rfl (fun K hK => ?_) AllReadyH.nil
  refine step_callTo (by rfl) 238 #[.int .i64 b] (by kernel_rfl) (CB.out _ (bl_via HW0.out HB5.out)) ?_
  rintro e w6 ⟨rfl, hb6⟩
  refine ⟨_, rfl, ?_⟩
  have HB6 : Hid (Below W0.heap.size W0 w6) := bl_via HB5.out hb6
  clear hb6
  refine hK.out _ _ (HSX.out _ HB6.out) (fun hHd => ?_)
  clear hK K
  try simp only [Act.put, List.getElem_toArray, List.getElem_cons_succ, List.getElem_cons_zero, List.setIfInBounds_toArray, List.set_cons_zero, List.set_cons_succ]
  refine wpAnyH_take (i := 6) (v := .string (sa ++ sb)) rfl (by kernel_rfl) (by kernel_rfl) (by kernel_rfl) (fun _ _ _ h => h) (Or.inl ⟨by rfl, ?hyy⟩) (by assumption) ?_
  case hyy => (intro w' hSw; (try dsimp only at hSw); go_simp; omega)
  try simp only [Act.put, List.getElem_toArray, List.getElem_cons_succ, List.getElem_cons_zero, List.setIfInBounds_toArray, List.set_cons_zero, List.set_cons_succ]
  refine wpAnyH_take (i := 7) (v := .string (sa ++ sb)) rfl (by kernel_rfl) (by kernel_rfl) (by kernel_rfl) (fun _ _ _ h => h) (Or.inl ⟨by rfl, ?hyy⟩) (by assumption) ?_
  case hyy => (intro w' hSw; (try dsimp only at hSw); go_simp)
  try simp only [Act.put, List.getElem_toArray, List.getElem_cons_succ, List.getElem_cons_zero, List.setIfInBounds_toArray, List.set_cons_zero, List.set_cons_succ]
  refine wpAnyH_done (by kernel_rfl) ?_ _
  go_wp2
  go_ret
  exact ⟨rfl, bl_via HW0.out HB6.out⟩

/-- What math/bits' table has at 16. -/
def Tz16 (w : World) : Prop := w.cell? ⟨4, 15, none⟩ = some (.int .u8 4)
theorem Tz16.kept {w w' : World} (h : Tz16 w) (hb : Below w.heap.size w w') : Tz16 w' := cl_kept hb h
set_option maxRecDepth 100000 in
set_option maxHeartbeats 3200000 in
theorem tz64_16 (w : World) (h : Tz16 w) : Calls Tryz.prog 350 #[.int .u64 16] w fun e w' => e = .returned (.int .i64 4) ∧ w' = w := by
  unfold Tz16 at h
  have e : (IntKind.u64.wrap (bits BinOp.and IntKind.u64 16 (IntKind.u64.wrap (-16)) * 285870213051353865) / 288230376151711744).toNat = 15 := by decide +kernel
  rw [← e] at h
  clear e
  go_enter Tryz.func350, Tryz.ntmps350
  go_wp2
  go_ret
  exact ⟨rfl, rfl⟩
set_option maxRecDepth 100000 in
set_option maxHeartbeats 3200000 in
theorem tz_16 (w : World) (h : Tz16 w) : Calls Tryz.prog 342 #[.int .u64 16] w fun e w' => e = .returned (.int .i64 4) ∧ w' = w := by
  have C : Hid (Calls Tryz.prog 350 #[.int .u64 16] w fun e w' => e = .returned (.int .i64 4) ∧ w' = w) := tz64_16 w h
  clear h
  go_enter Tryz.func342, Tryz.ntmps342
  go_wp2_with (go_at_call 350; refine C.out.mono ?_; rintro e w1 ⟨rfl, rfl⟩)
  go_ret
  exact ⟨rfl, rfl⟩
set_option maxRecDepth 100000 in
set_option maxHeartbeats 3200000 in
theorem pow2_16 (w : World) : Calls Tryz.prog 341 #[.int .i64 16] w fun e w' => e = .returned (.bool true) ∧ w' = w := by
  go_enter Tryz.func341, Tryz.ntmps341
  go_wp2
  go_ret
  exact ⟨rfl, rfl⟩
theorem byte_conv_at (w : World) (g o b : Nat) (hb : b < 256) (h : w.cell? ⟨g, o, none⟩ = some (.int .u8 (b : Int))) : (convert 235 9 (.slice (some ⟨g, o, none⟩) 1 1)).run Tryz.prog w = .ok (.string ⟨#[UInt8.ofNat b]⟩) w :=
  run_convert_bytes_back (P := Tryz.prog) w 235 9 5 ⟨g, o, none⟩ 1 [UInt8.ofNat b] Tryz.underlying235 Tryz.underlying5 Tryz.underlying9 (fun j hj => by
    obtain rfl : j = 0 := by simpa using hj
    have : (UInt8.ofNat b).toNat = b := by simp; omega
    simp [Addr.add, this, h])
set_option maxRecDepth 100000 in
set_option maxHeartbeats 12800000 in
theorem formatBits_16 (n : Nat) (w : World) (hn : n < 16) (hT : Tz16 w) : Calls Tryz.prog 319 #[.slice none 0 0, .int .u64 (n : Int), .int .i64 16, .bool false, .bool false] w fun e w' => e = .returned (.tuple #[.slice none 0 0, .string (hexB n)]) ∧ Below w.heap.size w w' := by
  have C3 : Hid (∀ V : World, Calls Tryz.prog 341 #[.int .i64 16] V fun e w' => e = .returned (.bool true) ∧ w' = V) := fun V => pow2_16 V
  have C4 : Hid (∀ V : World, Below w.heap.size w V → Calls Tryz.prog 342 #[.int .u64 16] V fun e w' => e = .returned (.int .i64 4) ∧ w' = V) := fun V hV => tz_16 V (hT.kept hV)
  clear hT
  have h16 : n = 0 ∨ n = 1 ∨ n = 2 ∨ n = 3 ∨ n = 4 ∨ n = 5 ∨ n = 6 ∨ n = 7 ∨ n = 8 ∨ n = 9 ∨ n = 10 ∨ n = 11 ∨ n = 12 ∨ n = 13 ∨ n = 14 ∨ n = 15 := by omega
  rcases h16 with rfl | rfl | rfl | rfl | rfl | rfl | rfl | rfl | rfl | rfl | rfl | rfl | rfl | rfl | rfl | rfl
  all_goals clear hn
  · go_enter Tryz.func319, Tryz.ntmps319
    go_wp2_with (first | (go_at_call 341; refine (C3.out _).mono ?_; rintro e w1 ⟨rfl, hw1⟩; subst hw1) | (go_at_call 342; refine (C4.out _ (bl_alloc (bl_refl _))).mono ?_; rintro e w1 ⟨rfl, hw1⟩; subst hw1) | fail)
    refine wp_named (fun W1 hW1 => ?_)
    have k0 : W1.cell? ⟨w.heap.size, 64, none⟩ = some (.int .u8 0) := by rw [hW1]; simp [go_sem]; rfl
    have k1 : W1.frozen? ⟨w.heap.size, 64, none⟩ = false := by rw [hW1]; simp [go_sem]
    have HW1 : Hid (Below w.heap.size w W1) := by rw [hW1]; exact bl_alloc (bl_refl _)
    have zw : w.heap.size < W1.heap.size := World.block_lt_of_cell? _ _ k0
    clear hW1
    go_loopg [1, 13] 0 (fun gk s1 s13 wx => gk = 0 ∧ s1 = .int .u64 0 ∧ s13 = .int .i64 65 ∧ wx = W1)
    case atStart => exact ⟨rfl, rfl, rfl, rfl⟩
    case round =>
      obtain ⟨rfl, rfl, rfl, hwr⟩ := hrel
      subst hwr
      go_upto_region 30 with fail
      refine wp_named (fun W2 hW2 => ?_)
      have hc := byte_conv_at W2 w.heap.size 64 48 (by omega) (by rw [hW2]; exact World.cell?_setCell_same _ _ _ k0)
      have HW2 : Hid (Below w.heap.size w W2) := by rw [hW2]; exact bl_set HW1.out (by simp)
      have zw2 : w.heap.size < W2.heap.size := by rw [hW2]; simpa using zw
      clear hW2 k0 k1 zw
      go_wp2
      exact bodyPost_ret (v := .tuple #[.slice none 0 0, .string (hexB 0)]) (by simp [results, Tryz.results319, go_sem] <;> rfl) rfl ⟨rfl, HW2.out⟩
  · go_enter Tryz.func319, Tryz.ntmps319
    go_wp2_with (first | (go_at_call 341; refine (C3.out _).mono ?_; rintro e w1 ⟨rfl, hw1⟩; subst hw1) | (go_at_call 342; refine (C4.out _ (bl_alloc (bl_refl _))).mono ?_; rintro e w1 ⟨rfl, hw1⟩; subst hw1) | fail)
    refine wp_named (fun W1 hW1 => ?_)
    have k0 : W1.cell? ⟨w.heap.size, 64, none⟩ = some (.int .u8 0) := by rw [hW1]; simp [go_sem]; rfl
    have k1 : W1.frozen? ⟨w.heap.size, 64, none⟩ = false := by rw [hW1]; simp [go_sem]
    have HW1 : Hid (Below w.heap.size w W1) := by rw [hW1]; exact bl_alloc (bl_refl _)
    have zw : w.heap.size < W1.heap.size := World.block_lt_of_cell? _ _ k0
    clear hW1
    go_loopg [1, 13] 0 (fun gk s1 s13 wx => gk = 0 ∧ s1 = .int .u64 1 ∧ s13 = .int .i64 65 ∧ wx = W1)
    case atStart => exact ⟨rfl, rfl, rfl, rfl⟩
    case round =>
      obtain ⟨rfl, rfl, rfl, hwr⟩ := hrel
      subst hwr
      go_upto_region 30 with fail
      refine wp_named (fun W2 hW2 => ?_)
      have hc := byte_conv_at W2 w.heap.size 64 49 (by omega) (by rw [hW2]; exact World.cell?_setCell_same _ _ _ k0)
      have HW2 : Hid (Below w.heap.size w W2) := by rw [hW2]; exact bl_set HW1.out (by simp)
      have zw2 : w.heap.size < W2.heap.size := by rw [hW2]; simpa using zw
      clear hW2 k0 k1 zw
      go_wp2
      exact bodyPost_ret (v := .tuple #[.slice none 0 0, .string (hexB 1)]) (by simp [results, Tryz.results319, go_sem] <;> rfl) rfl ⟨rfl, HW2.out⟩
  · go_enter Tryz.func319, Tryz.ntmps319
    go_wp2_with (first | (go_at_call 341; refine (C3.out _).mono ?_; rintro e w1 ⟨rfl, hw1⟩; subst hw1) | (go_at_call 342; refine (C4.out _ (bl_alloc (bl_refl _))).mono ?_; rintro e w1 ⟨rfl, hw1⟩; subst hw1) | fail)
    refine wp_named (fun W1 hW1 => ?_)
    have k0 : W1.cell? ⟨w.heap.size, 64, none⟩ = some (.int .u8 0) := by rw [hW1]; simp [go_sem]; rfl
    have k1 : W1.frozen? ⟨w.heap.size, 64, none⟩ = false := by rw [hW1]; simp [go_sem]
    have HW1 : Hid (Below w.heap.size w W1) := by rw [hW1]; exact bl_alloc (bl_refl _)
    have zw : w.heap.size < W1.heap.size := World.block_lt_of_cell? _ _ k0
    clear hW1
    go_loopg [1, 13] 0 (fun gk s1 s13 wx => gk = 0 ∧ s1 = .int .u64 2 ∧ s13 = .int .i64 65 ∧ wx = W1)
    case atStart => exact ⟨rfl, rfl, rfl, rfl⟩
    case round =>
      obtain ⟨rfl, rfl, rfl, hwr⟩ := hrel
      subst hwr
      go_upto_region 30 with fail
      refine wp_named (fun W2 hW2 => ?_)
      have hc := byte_conv_at W2 w.heap.size 64 50 (by omega) (by rw [hW2]; exact World.cell?_setCell_same _ _ _ k0)
      have HW2 : Hid (Below w.heap.size w W2) := by rw [hW2]; exact bl_set HW1.out (by simp)
      have zw2 : w.heap.size < W2.heap.size := by rw [hW2]; simpa using zw
      clear hW2 k0 k1 zw
      go_wp2
      exact bodyPost_ret (v := .tuple #[.slice none 0 0, .string (hexB 2)]) (by simp [results, Tryz.results319, go_sem] <;> rfl) rfl ⟨rfl, HW2.out⟩
  · go_enter Tryz.func319, Tryz.ntmps319
    go_wp2_with (first | (go_at_call 341; refine (C3.out _).mono ?_; rintro e w1 ⟨rfl, hw1⟩; subst hw1) | (go_at_call 342; refine (C4.out _ (bl_alloc (bl_refl _))).mono ?_; rintro e w1 ⟨rfl, hw1⟩; subst hw1) | fail)
    refine wp_named (fun W1 hW1 => ?_)
    have k0 : W1.cell? ⟨w.heap.size, 64, none⟩ = some (.int .u8 0) := by rw [hW1]; simp [go_sem]; rfl
    have k1 : W1.frozen? ⟨w.heap.size, 64, none⟩ = false := by rw [hW1]; simp [go_sem]
    have HW1 : Hid (Below w.heap.size w W1) := by rw [hW1]; exact bl_alloc (bl_refl _)
    have zw : w.heap.size < W1.heap.size := World.block_lt_of_cell? _ _ k0
    clear hW1
    go_loopg [1, 13] 0 (fun gk s1 s13 wx => gk = 0 ∧ s1 = .int .u64 3 ∧ s13 = .int .i64 65 ∧ wx = W1)
    case atStart => exact ⟨rfl, rfl, rfl, rfl⟩
    case round =>
      obtain ⟨rfl, rfl, rfl, hwr⟩ := hrel
      subst hwr
      go_upto_region 30 with fail
      refine wp_named (fun W2 hW2 => ?_)
      have hc := byte_conv_at W2 w.heap.size 64 51 (by omega) (by rw [hW2]; exact World.cell?_setCell_same _ _ _ k0)
      have HW2 : Hid (Below w.heap.size w W2) := by rw [hW2]; exact bl_set HW1.out (by simp)
      have zw2 : w.heap.size < W2.heap.size := by rw [hW2]; simpa using zw
      clear hW2 k0 k1 zw
      go_wp2
      exact bodyPost_ret (v := .tuple #[.slice none 0 0, .string (hexB 3)]) (by simp [results, Tryz.results319, go_sem] <;> rfl) rfl ⟨rfl, HW2.out⟩
  · go_enter Tryz.func319, Tryz.ntmps319
    go_wp2_with (first | (go_at_call 341; refine (C3.out _).mono ?_; rintro e w1 ⟨rfl, hw1⟩; subst hw1) | (go_at_call 342; refine (C4.out _ (bl_alloc (bl_refl _))).mono ?_; rintro e w1 ⟨rfl, hw1⟩; subst hw1) | fail)
    refine wp_named (fun W1 hW1 => ?_)
    have k0 : W1.cell? ⟨w.heap.size, 64, none⟩ = some (.int .u8 0) := by rw [hW1]; simp [go_sem]; rfl
    have k1 : W1.frozen? ⟨w.heap.size, 64, none⟩ = false := by rw [hW1]; simp [go_sem]
    have HW1 : Hid (Below w.heap.size w W1) := by rw [hW1]; exact bl_alloc (bl_refl _)
    have zw : w.heap.size < W1.heap.size := World.block_lt_of_cell? _ _ k0
    clear hW1
    go_loopg [1, 13] 0 (fun gk s1 s13 wx => gk = 0 ∧ s1 = .int .u64 4 ∧ s13 = .int .i64 65 ∧ wx = W1)
    case atStart => exact ⟨rfl, rfl, rfl, rfl⟩
    case round =>
      obtain ⟨rfl, rfl, rfl, hwr⟩ := hrel
      subst hwr
      go_upto_region 30 with fail
      refine wp_named (fun W2 hW2 => ?_)
      have hc := byte_conv_at W2 w.heap.size 64 52 (by omega) (by rw [hW2]; exact World.cell?_setCell_same _ _ _ k0)
      have HW2 : Hid (Below w.heap.size w W2) := by rw [hW2]; exact bl_set HW1.out (by simp)
      have zw2 : w.heap.size < W2.heap.size := by rw [hW2]; simpa using zw
      clear hW2 k0 k1 zw
      go_wp2
      exact bodyPost_ret (v := .tuple #[.slice none 0 0, .string (hexB 4)]) (by simp [results, Tryz.results319, go_sem] <;> rfl) rfl ⟨rfl, HW2.out⟩
  · go_enter Tryz.func319, Tryz.ntmps319
    go_wp2_with (first | (go_at_call 341; refine (C3.out _).mono ?_; rintro e w1 ⟨rfl, hw1⟩; subst hw1) | (go_at_call 342; refine (C4.out _ (bl_alloc (bl_refl _))).mono ?_; rintro e w1 ⟨rfl, hw1⟩; subst hw1) | fail)
    refine wp_named (fun W1 hW1 => ?_)
    have k0 : W1.cell? ⟨w.heap.size, 64, none⟩ = some (.int .u8 0) := by rw [hW1]; simp [go_sem]; rfl
    have k1 : W1.frozen? ⟨w.heap.size, 64, none⟩ = false := by rw [hW1]; simp [go_sem]
    have HW1 : Hid (Below w.heap.size w W1) := by rw [hW1]; exact bl_alloc (bl_refl _)
    have zw : w.heap.size < W1.heap.size := World.block_lt_of_cell? _ _ k0
    clear hW1
    go_loopg [1, 13] 0 (fun gk s1 s13 wx => gk = 0 ∧ s1 = .int .u64 5 ∧ s13 = .int .i64 65 ∧ wx = W1)
    case atStart => exact ⟨rfl, rfl, rfl, rfl⟩
    case round =>
      obtain ⟨rfl, rfl, rfl, hwr⟩ := hrel
      subst hwr
      go_upto_region 30 with fail
      refine wp_named (fun W2 hW2 => ?_)
      have hc := byte_conv_at W2 w.heap.size 64 53 (by omega) (by rw [hW2]; exact World.cell?_setCell_same _ _ _ k0)
      have HW2 : Hid (Below w.heap.size w W2) := by rw [hW2]; exact bl_set HW1.out (by simp)
      have zw2 : w.heap.size < W2.heap.size := by rw [hW2]; simpa using zw
      clear hW2 k0 k1 zw
      go_wp2
      exact bodyPost_ret (v := .tuple #[.slice none 0 0, .string (hexB 5)]) (by simp [results, Tryz.results319, go_sem] <;> rfl) rfl ⟨rfl, HW2.out⟩
  · go_enter Tryz.func319, Tryz.ntmps319
    go_wp2_with (first | (go_at_call 341; refine (C3.out _).mono ?_; rintro e w1 ⟨rfl, hw1⟩; subst hw1) | (go_at_call 342; refine (C4.out _ (bl_alloc (bl_refl _))).mono ?_; rintro e w1 ⟨rfl, hw1⟩; subst hw1) | fail)
    refine wp_named (fun W1 hW1 => ?_)
    have k0 : W1.cell? ⟨w.heap.size, 64, none⟩ = some (.int .u8 0) := by rw [hW1]; simp [go_sem]; rfl
    have k1 : W1.frozen? ⟨w.heap.size, 64, none⟩ = false := by rw [hW1]; simp [go_sem]
    have HW1 : Hid (Below w.heap.size w W1) := by rw [hW1]; exact bl_alloc (bl_refl _)
    have zw : w.heap.size < W1.heap.size := World.block_lt_of_cell? _ _ k0
    clear hW1
    go_loopg [1, 13] 0 (fun gk s1 s13 wx => gk = 0 ∧ s1 = .int .u64 6 ∧ s13 = .int .i64 65 ∧ wx = W1)
    case atStart => exact ⟨rfl, rfl, rfl, rfl⟩
    case round =>
      obtain ⟨rfl, rfl, rfl, hwr⟩ := hrel
      subst hwr
      go_upto_region 30 with fail
      refine wp_named (fun W2 hW2 => ?_)
      have hc := byte_conv_at W2 w.heap.size 64 54 (by omega) (by rw [hW2]; exact World.cell?_setCell_same _ _ _ k0)
      have HW2 : Hid (Below w.heap.size w W2) := by rw [hW2]; exact bl_set HW1.out (by simp)
      have zw2 : w.heap.size < W2.heap.size := by rw [hW2]; simpa using zw
      clear hW2 k0 k1 zw
      go_wp2
      exact bodyPost_ret (v := .tuple #[.slice none 0 0, .string (hexB 6)]) (by simp [results, Tryz.results319, go_sem] <;> rfl) rfl ⟨rfl, HW2.out⟩
  · go_enter Tryz.func319, Tryz.ntmps319
    go_wp2_with (first | (go_at_call 341; refine (C3.out _).mono ?_; rintro e w1 ⟨rfl, hw1⟩; subst hw1) | (go_at_call 342; refine (C4.out _ (bl_alloc (bl_refl _))).mono ?_; rintro e w1 ⟨rfl, hw1⟩; subst hw1) | fail)
    refine wp_named (fun W1 hW1 => ?_)
    have k0 : W1.cell? ⟨w.heap.size, 64, none⟩ = some (.int .u8 0) := by rw [hW1]; simp [go_sem]; rfl
    have k1 : W1.frozen? ⟨w.heap.size, 64, none⟩ = false := by rw [hW1]; simp [go_sem]
    have HW1 : Hid (Below w.heap.size w W1) := by rw [hW1]; exact bl_alloc (bl_refl _)
    have zw : w.heap.size < W1.heap.size := World.block_lt_of_cell? _ _ k0
    clear hW1
    go_loopg [1, 13] 0 (fun gk s1 s13 wx => gk = 0 ∧ s1 = .int .u64 7 ∧ s13 = .int .i64 65 ∧ wx = W1)
    case atStart => exact ⟨rfl, rfl, rfl, rfl⟩
    case round =>
      obtain ⟨rfl, rfl, rfl, hwr⟩ := hrel
      subst hwr
      go_upto_region 30 with fail
      refine wp_named (fun W2 hW2 => ?_)
      have hc := byte_conv_at W2 w.heap.size 64 55 (by omega) (by rw [hW2]; exact World.cell?_setCell_same _ _ _ k0)
      have HW2 : Hid (Below w.heap.size w W2) := by rw [hW2]; exact bl_set HW1.out (by simp)
      have zw2 : w.heap.size < W2.heap.size := by rw [hW2]; simpa using zw
      clear hW2 k0 k1 zw
      go_wp2
      exact bodyPost_ret (v := .tuple #[.slice none 0 0, .string (hexB 7)]) (by simp [results, Tryz.results319, go_sem] <;> rfl) rfl ⟨rfl, HW2.out⟩
  · go_enter Tryz.func319, Tryz.ntmps319
    go_wp2_with (first | (go_at_call 341; refine (C3.out _).mono ?_; rintro e w1 ⟨rfl, hw1⟩; subst hw1) | (go_at_call 342; refine (C4.out _ (bl_alloc (bl_refl _))).mono ?_; rintro e w1 ⟨rfl, hw1⟩; subst hw1) | fail)
    refine wp_named (fun W1 hW1 => ?_)
    have k0 : W1.cell? ⟨w.heap.size, 64, none⟩ = some (.int .u8 0) := by rw [hW1]; simp [go_sem]; rfl
    have k1 : W1.frozen? ⟨w.heap.size, 64, none⟩ = false := by rw [hW1]; simp [go_sem]
    have HW1 : Hid (Below w.heap.size w W1) := by rw [hW1]; exact bl_alloc (bl_refl _)
    have zw : w.heap.size < W1.heap.size := World.block_lt_of_cell? _ _ k0
    clear hW1
    go_loopg [1, 13] 0 (fun gk s1 s13 wx => gk = 0 ∧ s1 = .int .u64 8 ∧ s13 = .int .i64 65 ∧ wx = W1)
    case atStart => exact ⟨rfl, rfl, rfl, rfl⟩
    case round =>
      obtain ⟨rfl, rfl, rfl, hwr⟩ := hrel
      subst hwr
      go_upto_region 30 with fail
      refine wp_named (fun W2 hW2 => ?_)
      have hc := byte_conv_at W2 w.heap.size 64 56 (by omega) (by rw [hW2]; exact World.cell?_setCell_same _ _ _ k0)
      have HW2 : Hid (Below w.heap.size w W2) := by rw [hW2]; exact bl_set HW1.out (by simp)
      have zw2 : w.heap.size < W2.heap.size := by rw [hW2]; simpa using zw
      clear hW2 k0 k1 zw
      go_wp2
      exact bodyPost_ret (v := .tuple #[.slice none 0 0, .string (hexB 8)]) (by simp [results, Tryz.results319, go_sem] <;> rfl) rfl ⟨rfl, HW2.out⟩
  · go_enter Tryz.func319, Tryz.ntmps319
    go_wp2_with (first | (go_at_call 341; refine (C3.out _).mono ?_; rintro e w1 ⟨rfl, hw1⟩; subst hw1) | (go_at_call 342; refine (C4.out _ (bl_alloc (bl_refl _))).mono ?_; rintro e w1 ⟨rfl, hw1⟩; subst hw1) | fail)
    refine wp_named (fun W1 hW1 => ?_)
    have k0 : W1.cell? ⟨w.heap.size, 64, none⟩ = some (.int .u8 0) := by rw [hW1]; simp [go_sem]; rfl
    have k1 : W1.frozen? ⟨w.heap.size, 64, none⟩ = false := by rw [hW1]; simp [go_sem]
    have HW1 : Hid (Below w.heap.size w W1) := by rw [hW1]; exact bl_alloc (bl_refl _)
    have zw : w.heap.size < W1.heap.size := World.block_lt_of_cell? _ _ k0
    clear hW1
    go_loopg [1, 13] 0 (fun gk s1 s13 wx => gk = 0 ∧ s1 = .int .u64 9 ∧ s13 = .int .i64 65 ∧ wx = W1)
    case atStart => exact ⟨rfl, rfl, rfl, rfl⟩
    case round =>
      obtain ⟨rfl, rfl, rfl, hwr⟩ := hrel
      subst hwr
      go_upto_region 30 with fail
      refine wp_named (fun W2 hW2 => ?_)
      have hc := byte_conv_at W2 w.heap.size 64 57 (by omega) (by rw [hW2]; exact World.cell?_setCell_same _ _ _ k0)
      have HW2 : Hid (Below w.heap.size w W2) := by rw [hW2]; exact bl_set HW1.out (by simp)
      have zw2 : w.heap.size < W2.heap.size := by rw [hW2]; simpa using zw
      clear hW2 k0 k1 zw
      go_wp2
      exact bodyPost_ret (v := .tuple #[.slice none 0 0, .string (hexB 9)]) (by simp [results, Tryz.results319, go_sem] <;> rfl) rfl ⟨rfl, HW2.out⟩
  · go_enter Tryz.func319, Tryz.ntmps319
    go_wp2_with (first | (go_at_call 341; refine (C3.out _).mono ?_; rintro e w1 ⟨rfl, hw1⟩; subst hw1) | (go_at_call 342; refine (C4.out _ (bl_alloc (bl_refl _))).mono ?_; rintro e w1 ⟨rfl, hw1⟩; subst hw1) | fail)
    refine wp_named (fun W1 hW1 => ?_)
    have k0 : W1.cell? ⟨w.heap.size, 64, none⟩ = some (.int .u8 0) := by rw [hW1]; simp [go_sem]; rfl
    have k1 : W1.frozen? ⟨w.heap.size, 64, none⟩ = false := by rw [hW1]; simp [go_sem]
    have HW1 : Hid (Below w.heap.size w W1) := by rw [hW1]; exact bl_alloc (bl_refl _)
    have zw : w.heap.size < W1.heap.size := World.block_lt_of_cell? _ _ k0
    clear hW1
    go_loopg [1, 13] 0 (fun gk s1 s13 wx => gk = 0 ∧ s1 = .int .u64 10 ∧ s13 = .int .i64 65 ∧ wx = W1)
    case atStart => exact ⟨rfl, rfl, rfl, rfl⟩
    case round =>
      obtain ⟨rfl, rfl, rfl, hwr⟩ := hrel
      subst hwr
      go_upto_region 30 with fail
      refine wp_named (fun W2 hW2 => ?_)
      have hc := byte_conv_at W2 w.heap.size 64 97 (by omega) (by rw [hW2]; exact World.cell?_setCell_same _ _ _ k0)
      have HW2 : Hid (Below w.heap.size w W2) := by rw [hW2]; exact bl_set HW1.out (by simp)
      have zw2 : w.heap.size < W2.heap.size := by rw [hW2]; simpa using zw
      clear hW2 k0 k1 zw
      go_wp2
      exact bodyPost_ret (v := .tuple #[.slice none 0 0, .string (hexB 10)]) (by simp [results, Tryz.results319, go_sem] <;> rfl) rfl ⟨rfl, HW2.out⟩
  · go_enter Tryz.func319, Tryz.ntmps319
    go_wp2_with (first | (go_at_call 341; refine (C3.out _).mono ?_; rintro e w1 ⟨rfl, hw1⟩; subst hw1) | (go_at_call 342; refine (C4.out _ (bl_alloc (bl_refl _))).mono ?_; rintro e w1 ⟨rfl, hw1⟩; subst hw1) | fail)
    refine wp_named (fun W1 hW1 => ?_)
    have k0 : W1.cell? ⟨w.heap.size, 64, none⟩ = some (.int .u8 0) := by rw [hW1]; simp [go_sem]; rfl
    have k1 : W1.frozen? ⟨w.heap.size, 64, none⟩ = false := by rw [hW1]; simp [go_sem]
    have HW1 : Hid (Below w.heap.size w W1) := by rw [hW1]; exact bl_alloc (bl_refl _)
    have zw : w.heap.size < W1.heap.size := World.block_lt_of_cell? _ _ k0
    clear hW1
    go_loopg [1, 13] 0 (fun gk s1 s13 wx => gk = 0 ∧ s1 = .int .u64 11 ∧ s13 = .int .i64 65 ∧ wx = W1)
    case atStart => exact ⟨rfl, rfl, rfl, rfl⟩
    case round =>
      obtain ⟨rfl, rfl, rfl, hwr⟩ := hrel
      subst hwr
      go_upto_region 30 with fail
      refine wp_named (fun W2 hW2 => ?_)
      have hc := byte_conv_at W2 w.heap.size 64 98 (by omega) (by rw [hW2]; exact World.cell?_setCell_same _ _ _ k0)
      have HW2 : Hid (Below w.heap.size w W2) := by rw [hW2]; exact bl_set HW1.out (by simp)
      have zw2 : w.heap.size < W2.heap.size := by rw [hW2]; simpa using zw
      clear hW2 k0 k1 zw
      go_wp2
      exact bodyPost_ret (v := .tuple #[.slice none 0 0, .string (hexB 11)]) (by simp [results, Tryz.results319, go_sem] <;> rfl) rfl ⟨rfl, HW2.out⟩
  · go_enter Tryz.func319, Tryz.ntmps319
    go_wp2_with (first | (go_at_call 341; refine (C3.out _).mono ?_; rintro e w1 ⟨rfl, hw1⟩; subst hw1) | (go_at_call 342; refine (C4.out _ (bl_alloc (bl_refl _))).mono ?_; rintro e w1 ⟨rfl, hw1⟩; subst hw1) | fail)
    refine wp_named (fun W1 hW1 => ?_)
    have k0 : W1.cell? ⟨w.heap.size, 64, none⟩ = some (.int .u8 0) := by rw [hW1]; simp [go_sem]; rfl
    have k1 : W1.frozen? ⟨w.heap.size, 64, none⟩ = false := by rw [hW1]; simp [go_sem]
    have HW1 : Hid (Below w.heap.size w W1) := by rw [hW1]; exact bl_alloc (bl_refl _)
    have zw : w.heap.size < W1.heap.size := World.block_lt_of_cell? _ _ k0
    clear hW1
    go_loopg [1, 13] 0 (fun gk s1 s13 wx => gk = 0 ∧ s1 = .int .u64 12 ∧ s13 = .int .i64 65 ∧ wx = W1)
    case atStart => exact ⟨rfl, rfl, rfl, rfl⟩
    case round =>
      obtain ⟨rfl, rfl, rfl, hwr⟩ := hrel
      subst hwr
      go_upto_region 30 with fail
      refine wp_named (fun W2 hW2 => ?_)
      have hc := byte_conv_at W2 w.heap.size 64 99 (by omega) (by rw [hW2]; exact World.cell?_setCell_same _ _ _ k0)
      have HW2 : Hid (Below w.heap.size w W2) := by rw [hW2]; exact bl_set HW1.out (by simp)
      have zw2 : w.heap.size < W2.heap.size := by rw [hW2]; simpa using zw
      clear hW2 k0 k1 zw
      go_wp2
      exact bodyPost_ret (v := .tuple #[.slice none 0 0, .string (hexB 12)]) (by simp [results, Tryz.results319, go_sem] <;> rfl) rfl ⟨rfl, HW2.out⟩
  · go_enter Tryz.func319, Tryz.ntmps319
    go_wp2_with (first | (go_at_call 341; refine (C3.out _).mono ?_; rintro e w1 ⟨rfl, hw1⟩; subst hw1) | (go_at_call 342; refine (C4.out _ (bl_alloc (bl_refl _))).mono ?_; rintro e w1 ⟨rfl, hw1⟩; subst hw1) | fail)
    refine wp_named (fun W1 hW1 => ?_)
    have k0 : W1.cell? ⟨w.heap.size, 64, none⟩ = some (.int .u8 0) := by rw [hW1]; simp [go_sem]; rfl
    have k1 : W1.frozen? ⟨w.heap.size, 64, none⟩ = false := by rw [hW1]; simp [go_sem]
    have HW1 : Hid (Below w.heap.size w W1) := by rw [hW1]; exact bl_alloc (bl_refl _)
    have zw : w.heap.size < W1.heap.size := World.block_lt_of_cell? _ _ k0
    clear hW1
    go_loopg [1, 13] 0 (fun gk s1 s13 wx => gk = 0 ∧ s1 = .int .u64 13 ∧ s13 = .int .i64 65 ∧ wx = W1)
    case atStart => exact ⟨rfl, rfl, rfl, rfl⟩
    case round =>
      obtain ⟨rfl, rfl, rfl, hwr⟩ := hrel
      subst hwr
      go_upto_region 30 with fail
      refine wp_named (fun W2 hW2 => ?_)
      have hc := byte_conv_at W2 w.heap.size 64 100 (by omega) (by rw [hW2]; exact World.cell?_setCell_same _ _ _ k0)
      have HW2 : Hid (Below w.heap.size w W2) := by rw [hW2]; exact bl_set HW1.out (by simp)
      have zw2 : w.heap.size < W2.heap.size := by rw [hW2]; simpa using zw
      clear hW2 k0 k1 zw
      go_wp2
      exact bodyPost_ret (v := .tuple #[.slice none 0 0, .string (hexB 13)]) (by simp [results, Tryz.results319, go_sem] <;> rfl) rfl ⟨rfl, HW2.out⟩
  · go_enter Tryz.func319, Tryz.ntmps319
    go_wp2_with (first | (go_at_call 341; refine (C3.out _).mono ?_; rintro e w1 ⟨rfl, hw1⟩; subst hw1) | (go_at_call 342; refine (C4.out _ (bl_alloc (bl_refl _))).mono ?_; rintro e w1 ⟨rfl, hw1⟩; subst hw1) | fail)
    refine wp_named (fun W1 hW1 => ?_)
    have k0 : W1.cell? ⟨w.heap.size, 64, none⟩ = some (.int .u8 0) := by rw [hW1]; simp [go_sem]; rfl
    have k1 : W1.frozen? ⟨w.heap.size, 64, none⟩ = false := by rw [hW1]; simp [go_sem]
    have HW1 : Hid (Below w.heap.size w W1) := by rw [hW1]; exact bl_alloc (bl_refl _)
    have zw : w.heap.size < W1.heap.size := World.block_lt_of_cell? _ _ k0
    clear hW1
    go_loopg [1, 13] 0 (fun gk s1 s13 wx => gk = 0 ∧ s1 = .int .u64 14 ∧ s13 = .int .i64 65 ∧ wx = W1)
    case atStart => exact ⟨rfl, rfl, rfl, rfl⟩
    case round =>
      obtain ⟨rfl, rfl, rfl, hwr⟩ := hrel
      subst hwr
      go_upto_region 30 with fail
      refine wp_named (fun W2 hW2 => ?_)
      have hc := byte_conv_at W2 w.heap.size 64 101 (by omega) (by rw [hW2]; exact World.cell?_setCell_same _ _ _ k0)
      have HW2 : Hid (Below w.heap.size w W2) := by rw [hW2]; exact bl_set HW1.out (by simp)
      have zw2 : w.heap.size < W2.heap.size := by rw [hW2]; simpa using zw
      clear hW2 k0 k1 zw
      go_wp2
      exact bodyPost_ret (v := .tuple #[.slice none 0 0, .string (hexB 14)]) (by simp [results, Tryz.results319, go_sem] <;> rfl) rfl ⟨rfl, HW2.out⟩
  · go_enter Tryz.func319, Tryz.ntmps319
    go_wp2_with (first | (go_at_call 341; refine (C3.out _).mono ?_; rintro e w1 ⟨rfl, hw1⟩; subst hw1) | (go_at_call 342; refine (C4.out _ (bl_alloc (bl_refl _))).mono ?_; rintro e w1 ⟨rfl, hw1⟩; subst hw1) | fail)
    refine wp_named (fun W1 hW1 => ?_)
    have k0 : W1.cell? ⟨w.heap.size, 64, none⟩ = some (.int .u8 0) := by rw [hW1]; simp [go_sem]; rfl
    have k1 : W1.frozen? ⟨w.heap.size, 64, none⟩ = false := by rw [hW1]; simp [go_sem]
    have HW1 : Hid (Below w.heap.size w W1) := by rw [hW1]; exact bl_alloc (bl_refl _)
    have zw : w.heap.size < W1.heap.size := World.block_lt_of_cell? _ _ k0
    clear hW1
    go_loopg [1, 13] 0 (fun gk s1 s13 wx => gk = 0 ∧ s1 = .int .u64 15 ∧ s13 = .int .i64 65 ∧ wx = W1)
    case atStart => exact ⟨rfl, rfl, rfl, rfl⟩
    case round =>
      obtain ⟨rfl, rfl, rfl, hwr⟩ := hrel
      subst hwr
      go_upto_region 30 with fail
      refine wp_named (fun W2 hW2 => ?_)
      have hc := byte_conv_at W2 w.heap.size 64 102 (by omega) (by rw [hW2]; exact World.cell?_setCell_same _ _ _ k0)
      have HW2 : Hid (Below w.heap.size w W2) := by rw [hW2]; exact bl_set HW1.out (by simp)
      have zw2 : w.heap.size < W2.heap.size := by rw [hW2]; simpa using zw
      clear hW2 k0 k1 zw
      go_wp2
      exact bodyPost_ret (v := .tuple #[.slice none 0 0, .string (hexB 15)]) (by simp [results, Tryz.results319, go_sem] <;> rfl) rfl ⟨rfl, HW2.out⟩
set_option maxRecDepth 100000 in
set_option maxHeartbeats 3200000 in
theorem fmt144_16 (n : Nat) (w : World) (hn : n < 16) (hT : Tz16 w) : Calls Tryz.prog 303 #[.int .i64 (n : Int), .int .i64 16] w fun e w' => e = .returned (.string (hexB n)) ∧ Below w.heap.size w w' := by
  have C : Hid (∀ V : World, Below w.heap.size w V → Calls Tryz.prog 319 #[.slice none 0 0, .int .u64 (n : Int), .int .i64 16, .bool false, .bool false] V fun e w' => e = .returned (.tuple #[.slice none 0 0, .string (hexB n)]) ∧ Below V.heap.size V w') := fun V hV => formatBits_16 n V hn (hT.kept hV)
  have n0 : (0 : Int) ≤ (n : Int) := by omega
  have n1 : (n : Int) < 16 := by omega
  have n2 : ¬ (n : Int) < 0 := by omega
  clear hT
  go_enter Tryz.func303, Tryz.ntmps303
  go_wp2_with (go_at_call 319; refine (C.out _ (bl_refl _)).mono ?_; rintro e w1 ⟨rfl, hb1⟩; have HB1 : Hid (Below w.heap.size w w1) := hb1; clear hb1)
  go_ret
  exact ⟨rfl, HB1.out⟩
set_option maxRecDepth 100000 in
set_option maxHeartbeats 3200000 in
theorem fmt130_16 (n : Nat) (w : World) (hn : n < 16) (hT : Tz16 w) : Calls Tryz.prog 269 #[.int .i64 (n : Int), .int .i64 16] w fun e w' => e = .returned (.string (hexB n)) ∧ Below w.heap.size w w' := by
  have C : Hid (∀ V : World, Below w.heap.size w V → Calls Tryz.prog 303 #[.int .i64 (n : Int), .int .i64 16] V fun e w' => e = .returned (.string (hexB n)) ∧ Below V.heap.size V w') := fun V hV => fmt144_16 n V hn (hT.kept hV)
  have n0 : (0 : Int) ≤ (n : Int) := by omega
  have n1 : (n : Int) < 16 := by omega
  have n2 : ¬ (n : Int) < 0 := by omega
  clear hT
  go_enter Tryz.func269, Tryz.ntmps269
  go_wp2_with (go_at_call 303; refine (C.out _ (bl_refl _)).mono ?_; rintro e w1 ⟨rfl, hb1⟩; have HB1 : Hid (Below w.heap.size w w1) := hb1; clear hb1)
  go_ret
  exact ⟨rfl, HB1.out⟩
set_option maxRecDepth 100000 in
set_option maxHeartbeats 3200000 in
theorem letter_any (n : Nat) (w : World) (hn : n < 16) (hT : Tz16 w) : Calls Tryz.prog 238 #[.int .i64 (n : Int)] w fun e w' => e = .returned (.string (hexB n)) ∧ Below w.heap.size w w' := by
  have C : Hid (∀ V : World, Below w.heap.size w V → Calls Tryz.prog 269 #[.int .i64 (n : Int), .int .i64 16] V fun e w' => e = .returned (.string (hexB n)) ∧ Below V.heap.size V w') := fun V hV => fmt130_16 n V hn (hT.kept hV)
  clear hT
  go_enter Tryz.func238, Tryz.ntmps238
  go_wp2_with (go_at_call 269; refine (C.out _ (bl_refl _)).mono ?_; rintro e w1 ⟨rfl, hb1⟩; have HB1 : Hid (Below w.heap.size w w1) := hb1; clear hb1)
  go_ret
  exact ⟨rfl, HB1.out⟩

theorem snq_of {w : World} {a : Option Addr} {l : List Seen9} (h : SnRow w a l) : SnQ w a l := fun i hi => by
  rw [sn_at l i hi]
  exact h i hi
theorem snq_row {w : World} {a : Option Addr} {l : List Seen9} (h : SnQ w a l) : SnRow w a l := fun i hi => by
  have := h i hi
  rw [sn_at l i hi] at this
  exact this
theorem allS_mem {S : List ((Int × Int × Int) × List (Int × Int × Int))} {s : (Int × Int × Int) × List (Int × Int × Int)} (h : s ∈ S) : s.2.length ≤ (allS S).length := by
  induction S with
  | nil => cases h
  | cons a S ih =>
    have e : (allS (a :: S)).length = a.2.length + (allS S).length := by simp [allS]
    rcases List.mem_cons.1 h with rfl | h
    · omega
    · have := ih h
      omega
theorem allS_many {S : List ((Int × Int × Int) × List (Int × Int × Int))} (h : ∀ s ∈ S, s.2 ≠ []) : S.length ≤ (allS S).length := by
  induction S with
  | nil => simp
  | cons a S ih =>
    have e : (allS (a :: S)).length = a.2.length + (allS S).length := by simp [allS]
    have h1 := List.length_pos_iff.2 (h a (by simp))
    have := ih fun s hs => h s (List.mem_cons_of_mem _ hs)
    simp only [List.length_cons]
    omega
theorem tops_at {S : List ((Int × Int × Int) × List (Int × Int × Int))} {L : List (Int × Int × Int)} {M : Nat → M6} {i : Nat} (h : i < S.length) : sn (tops S L M S.length) i = seenOf L M S[i] := by
  rw [sn_at _ _ (by rw [tops_len (Nat.le_refl _)]; exact h)]
  simp [tops]
theorem tops_place {S : List ((Int × Int × Int) × List (Int × Int × Int))} {L : List (Int × Int × Int)} {M : Nat → M6} (h1 : ∀ i, i < L.length → MOk1 L M i) (hs : StOk L (plF (pls L M L.length)) S) {i : Nat} (hi : i < S.length) : triT S[i].1 = true := by
  have hm := List.getElem_mem hi
  obtain ⟨t, ht⟩ := List.exists_mem_of_ne_nil _ (hs.ne _ hm)
  obtain ⟨k, hk, _, e⟩ := hs.pl _ hm t ht
  rw [← e]
  have : plF (pls L M L.length) k = mvt (M k) (L.getD k (0, 0, 0)) := by
    unfold plF pls
    rw [List.getD_eq_getElem?_getD, List.getElem?_map, List.getElem?_range hk]
    rfl
  rw [this]
  exact (h1 k hk).2
theorem viewTells_any (W H : Int) (a c mp sp : Option Addr) (ca cc n mn mc sc : Nat) (zs ks : List Int) (M : Nat → M6) (S : List ((Int × Int × Int) × List (Int × Int × Int))) (w : World) (hz : Row w a zs) (hk : Row w c ks) (hn : ks.length = n * 5) (h1 : zs.length ≤ 17592186044416) (h2 : n ≤ 3518437208883) (hM : MRowG w mp mn M) (hmn : mn ≤ 2932031007402) (hS : SRowG w sp S) (hSl : S.length ≤ 2932031007402) (hSe : ∀ s ∈ S, s.2.length ≤ 5864062014805) (hs0 : Steps w) (hT : Tz16 w) :
    Calls Tryz.prog 5 #[.agg #[.int .i64 W, .int .i64 H, .slice a zs.length ca, .slice c n cc, .slice mp mn mc, .slice sp S.length sc]] w fun e w' => e = .returned (.bool true) ∧ Below w.heap.size w w' := by
  have hcopy := state_copy W H a c mp sp ca cc n mn mc sc zs ks M S w hz hk hn h1 h2 hM hmn hS hSl hSe hs0
  let OK : World → Value → Prop := fun V u => ∃ a' ca' b' cb' ma mc' t u', u = .agg #[.int .i64 W, .int .i64 H, .slice a' zs.length ca', .slice b' n cb', .slice ma mn mc', .slice t S.length u'] ∧ CopyAt V mn zs ks M S a' b' ma t
  have hO : Hid (∀ (V V' : World) (u : Value), OK V u → Below V.heap.size V V' → OK V' u) := fun V V' u ⟨a', ca', b', cb', ma, mc', t, u', e, h⟩ hb => ⟨a', ca', b', cb', ma, mc', t, u', e, h.kept hb⟩
  have hU : Hid (∀ (V : World) (u : Value), OK V u → IsSt u) := fun V u ⟨a', ca', b', cb', ma, mc', t, u', e, h⟩ => ⟨W, H, a', b', ma, t, _, ca', _, cb', _, mc', _, u', e⟩
  have C7 : Hid (∀ V : World, Below w.heap.size w V → Calls Tryz.prog 9 #[.agg #[.int .i64 W, .int .i64 H, .slice a zs.length ca, .slice c n cc, .slice mp mn mc, .slice sp S.length sc]] V fun e w' => ∃ u, e = .returned u ∧ OK w' u ∧ Below V.heap.size V w') := fun V hV => (hcopy V hV).mono fun e w' ⟨a', ca', b', cb', ma, mc', t, u, he, hc, hb⟩ => ⟨_, he, ⟨a', ca', b', cb', ma, mc', t, u, rfl, hc⟩, hb⟩
  rcases state_either W H a c mp sp ca cc n mn mc sc zs ks M S w hz hk hn h1 h2 hM hmn hS hSl hSe hs0 with ⟨q8, q22⟩ | ⟨Wn, Hn, b, off, rfl, rfl, rfl, hW, hH, hl, hm, hJ, hC, hok, q8, q22⟩
  · refine viewNo_all W H a c mp sp zs.length ca n cc mn mc S.length sc OK w hO hU C7 (fun V u hV ho => ?_) (fun V u hV ho => ?_) q8
    · obtain ⟨a', ca', b', cb', ma, mc', t, u', rfl, hc⟩ := ho
      exact top_no W H a' b' ma t zs.length ca' n cb' mn mc' S.length u' V (fun V3 hV3 => q22 V3 a' b' ma t ca' cb' mc' u' (bl_via hV hV3) (hc.kept hV3))
    · obtain ⟨a', ca', b', cb', ma, mc', t, u', rfl, hc⟩ := ho
      exact thick_no W H a' b' ma t zs.length ca' n cb' mn mc' S.length u' V (fun V3 hV3 => q22 V3 a' b' ma t ca' cb' mc' u' (bl_via hV hV3) (hc.kept hV3))
  · have hlen : (ty zs Wn Hn).length ≤ 256 := by have := ty_len zs Wn Hn hW.2; omega
    have hnd := ty_nodup zs Wn Hn
    have hbd := ty_bd (zs := zs) hW.2 hH.2
    obtain ⟨hmnL, hmok, hst⟩ := hok
    subst hmnL
    have hal := hst.al
    have hSb : ∀ s ∈ S, s.2.length ≤ 300 := fun s hs => by have := allS_mem hs; omega
    have hS3 : S.length ≤ 300 := by have := allS_many hst.ne; omega
    have hS0 : 0 < S.length := by
      rcases Nat.eq_zero_or_pos S.length with e | e
      · have : S = [] := List.length_eq_zero_iff.1 e
        subst this
        have hp := hJ.1
        simp [allS] at hal
        omega
      · exact e
    have hSm : ∀ s ∈ S, ∀ t ∈ s.2, t ∈ ty zs Wn Hn := fun s hs t ht => by
      obtain ⟨i, hi, e, _⟩ := hst.pl s hs t ht
      exact e ▸ List.getElem_mem hi
    have htl : (tops S (ty zs Wn Hn) M S.length).length = S.length := tops_len (Nat.le_refl _)
    have hb : ∀ i, i < (tops S (ty zs Wn Hn) M S.length).length → (-1000000 ≤ sx (tops S (ty zs Wn Hn) M S.length) i ∧ sx (tops S (ty zs Wn Hn) M S.length) i ≤ 1000000) ∧ (-1000000 ≤ sy (tops S (ty zs Wn Hn) M S.length) i ∧ sy (tops S (ty zs Wn Hn) M S.length) i ≤ 1000000) ∧ 0 ≤ (sn (tops S (ty zs Wn Hn) M S.length) i).1.2.2 ∧ (sn (tops S (ty zs Wn Hn) M S.length) i).1.2.2 ≤ 3 := fun i hi => by
      rw [htl] at hi
      have h3 := tops_place hmok.1 hst hi
      unfold sx sy
      rw [tops_at hi]
      simp only [triT, triB, decide_eq_true_eq] at h3
      simp only [seenOf]
      omega
    have hau := up_of (l := tops S (ty zs Wn Hn) M S.length) (fun i j hij hj => by
      rw [htl] at hj
      rw [tops_at hj, tops_at (show i < S.length by omega)]
      exact (List.pairwise_iff_getElem.1 (up_pair hst.up)) i j (by omega) hj hij)
    refine viewOk_all (Wn : Int) (Hn : Int) (some ⟨b, off, none⟩) c mp sp zs.length ca n cc _ mc S.length sc OK (thk S S.length : Int) S.length (tops S (ty zs Wn Hn) M S.length) htl.symm hS0 hS3 hb hau.1 hau.2 w hO hU C7 (fun V u hV ho => ?_) (fun V u hV ho => ?_) q8 (fun V hV => ?_) (fun V hV => ?_) (fun b2 bc V hV hq => ?_) (fun b2 bc V hV hq => ?_)
      (letters_clS w Tz16 hT (fun V V' h hb => h.kept hb) letters_none (fun a b sa sb V h1 h2 CA CB => letters_some a b sa sb V h1 h2 CA CB) (fun n V h hT => letter_any n V h hT))
    · obtain ⟨a', ca', b', cb', ma, mc', t, u', rfl, hc⟩ := ho
      refine (top_ok (Wn : Int) (Hn : Int) a' b' ma t zs.length ca' n cb' _ mc' S.length u' (ty zs Wn Hn).length V (ty zs Wn Hn) (kdn ks n) M S (fun i hi => (hmok.1 i hi).1) rfl hlen hnd (ty_up zs Wn Hn) hc.2.2.2 rfl hS3 hSm hst.ne hSb (fun V3 hV3 => q22 V3 a' b' ma t ca' cb' mc' u' (bl_via hV hV3) (hc.kept hV3))).mono fun e w' h => ?_
      obtain ⟨v, he, ho, hB⟩ := h
      obtain ⟨a9, c9, rfl, hr⟩ := own_seen ho
      rw [htl] at he
      exact ⟨a9, c9, he, snq_of hr, hB⟩
    · obtain ⟨a', ca', b', cb', ma, mc', t, u', rfl, hc⟩ := ho
      exact thick_ok (Wn : Int) (Hn : Int) a' b' ma t zs.length ca' n cb' _ mc' S.length u' S V hc.2.2.2 rfl hSl (fun V3 hV3 => (q22 V3 a' b' ma t ca' cb' mc' u' (bl_via hV hV3) (hc.kept hV3)).mono fun e w' ⟨ad, k, ra, rk, gm, cm, pa, pc, f, he, hp, hB⟩ => ⟨_, _, _, _, _, _, _, _, _, _, _, f, he, hB⟩)
    · refine (topOf_any (Wn : Int) (Hn : Int) (some ⟨b, off, none⟩) c mp sp zs.length ca n cc mc S.length sc (ty zs Wn Hn).length V (ty zs Wn Hn) M S (fun V2 hV2 => (trisOf_any Wn Hn b off ca zs (.slice c n cc) V2 (hz.kept (bl_via hV hV2)) hW hH hl hm).mono fun e w' ⟨v, he, ho, hb⟩ => by
            obtain ⟨a9, c9, rfl, hT⟩ := own_tris ho
            exact ⟨a9, c9, he, hT, hb⟩) (hM.kept hV) (fun i hi => (hmok.1 i hi).1) rfl hlen (hS.kept hV) rfl hS3 hSm hst.ne hSb).mono fun e w' h => ?_
      obtain ⟨v, he, ho, hB⟩ := h
      obtain ⟨a9, c9, rfl, hr⟩ := own_seen ho
      rw [htl] at he
      exact ⟨a9, c9, he, snq_of hr, hB⟩
    · exact thickOf_any (Wn : Int) (Hn : Int) (some ⟨b, off, none⟩) c mp sp zs.length ca n cc _ mc S.length sc S V (hS.kept hV) rfl hSl
    · refine (cellsOf_any b2 bc S.length (tops S (ty zs Wn Hn) M S.length) V (snq_row hq) htl.symm hS3 (fun s hs => by
        obtain ⟨i, hi, rfl⟩ := List.mem_iff_getElem.1 hs
        have := (hb i hi).2.2
        rw [sn_at _ _ hi] at this
        exact this)).mono fun e w' h => ?_
      obtain ⟨r, he, hlk, hB⟩ := h
      refine ⟨r, he, fun wx x y hx => ?_, hB⟩
      have e := cv_is (tops S (ty zs Wn Hn) M S.length) x y (fun i => cvb (tops S (ty zs Wn Hn) M S.length) i (x, y)) rfl (fun i => rfl) (tops S (ty zs Wn Hn) M S.length).length
      have h9 := hlk wx x y hx
      rw [e] at h9
      exact h9
    · refine (width_any b2 bc S.length (tops S (ty zs Wn Hn) M S.length) V (snq_row hq) htl.symm hS0 hS3).mono fun e w' ⟨he, hB⟩ => ⟨?_, hB⟩
      rw [he, ← mn_is (sx (tops S (ty zs Wn Hn) M S.length)) (wst (tops S (ty zs Wn Hn) M S.length)) rfl (fun i => rfl), ← mx_is (sx (tops S (ty zs Wn Hn) M S.length)) (est (tops S (ty zs Wn Hn) M S.length)) rfl (fun i => rfl), htl]
end Go.Proofs.YtnpboeodhpenmaaGreatDoor
