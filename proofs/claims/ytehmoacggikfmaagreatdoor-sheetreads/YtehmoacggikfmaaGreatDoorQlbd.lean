/- A part of the proof of sheetReads_holds. -/
import Derived.Test.YtehmoacggikfmaaGreatDoorQlbc
import Derived.Lib.OthersKept
namespace Go.Proofs.YtehmoacggikfmaaGreatDoor
open Go.RowKit

set_option maxRecDepth 100000 in
set_option maxHeartbeats 3200000 in
theorem within_any (rb W H a b : Nat) (w : World) (hc2 : w.cell? ⟨rb, 2, none⟩ = some (.int .i64 (W : Int))) (hc3 : w.cell? ⟨rb, 3, none⟩ = some (.int .i64 (H : Int))) (hW : W ≤ 8) (hH : H ≤ 8) (ha : a < 1000) (hb : b < 1000) :
    Calls Tryz.prog 47 #[.pointer (some ⟨rb, 0, none⟩), .agg #[.int .i64 (a : Int), .int .i64 (b : Int)]] w fun e w' => e = .returned (.bool (wthn W H a b)) ∧ Below w.heap.size w w' := by
  have hlt : rb < w.heap.size := World.block_lt_of_cell? _ _ hc2
  have hn1 : ¬ rb = w.heap.size := by omega
  have hn2 : ¬ w.heap.size = rb := by omega
  have m1 : IntKind.i64.wrap (2 * (W : Int)) = 2 * (W : Int) := by rw [IntKind.wrap_i64]; omega
  have m2 : IntKind.i64.wrap (2 * (H : Int)) = 2 * (H : Int) := by rw [IntKind.wrap_i64]; omega
  have t1 : Int.tmod (a : Int) 2 = ((a % 2 : Nat) : Int) := by rw [Int.tmod_eq_emod_of_nonneg (by omega)]; omega
  have t2 : Int.tmod (b : Int) 2 = ((b % 2 : Nat) : Int) := by rw [Int.tmod_eq_emod_of_nonneg (by omega)]; omega
  by_cases h1 : a ≤ 2 * W
  · have c1 : (a : Int) ≤ 2 * (W : Int) := by omega
    by_cases h2 : b ≤ 2 * H
    · have c2 : (b : Int) ≤ 2 * (H : Int) := by omega
      by_cases h3 : a % 2 = b % 2
      · have c3 : ((a % 2 : Nat) : Int) = ((b % 2 : Nat) : Int) := by omega
        have c4 : ((a : Int) % 2 == (b : Int) % 2) = true := by rw [beq_iff_eq]; omega
        have he : wthn W H a b = true := (by simp [wthn, h1, h2, h3])
        have HE : Hid (wthn W H a b = true) := he
        clear he
        clear h3
        go_enter Tryz.func47, Tryz.ntmps47
        go_wp2
        go_quiet (fail)
        go_wp2
        go_ret
        exact ⟨by rw [HE.out]; rfl, (by first | exact bl_drewN (bl_alloc (bl_refl _)) | exact bl_alloc (bl_refl _))⟩
      · have c3 : ¬ ((a % 2 : Nat) : Int) = ((b % 2 : Nat) : Int) := by omega
        have c4 : ((a : Int) % 2 == (b : Int) % 2) = false := by rw [beq_eq_false_iff_ne]; omega
        have he : wthn W H a b = false := (by simp [wthn, h1, h2, h3])
        have HE : Hid (wthn W H a b = false) := he
        clear he
        clear h3
        go_enter Tryz.func47, Tryz.ntmps47
        go_wp2
        go_quiet (fail)
        go_wp2
        go_ret
        exact ⟨by rw [HE.out]; rfl, (by first | exact bl_drewN (bl_alloc (bl_refl _)) | exact bl_alloc (bl_refl _))⟩
    · have c2 : ¬ (b : Int) ≤ 2 * (H : Int) := by omega
      have he : wthn W H a b = false := (by simp [wthn, h1, h2])
      have HE : Hid (wthn W H a b = false) := he
      clear he
      go_enter Tryz.func47, Tryz.ntmps47
      go_wp2
      refine wp_region_held_drew (S := fun w' => w'.cell? ⟨rb, 2, none⟩ = some (.int .i64 (W : Int)) ∧ w'.cell? ⟨rb, 3, none⟩ = some (.int .i64 (H : Int)) ∧ w'.cell? ⟨w.heap.size, 0, none⟩ = some (.int .i64 (a : Int)) ∧ w'.cell? ⟨w.heap.size, 1, none⟩ = some (.int .i64 (b : Int))) (by kernel_rfl) (by refine ⟨?_, ?_, ?_, ?_⟩ <;> (simp [go_sem, *]; done)) (fun hHeld => ?_)
      try simp only [Act.put, List.getElem_toArray, List.getElem_cons_succ, List.getElem_cons_zero, List.setIfInBounds_toArray, List.set_cons_zero, List.set_cons_succ]
      refine wpAnyH_take (i := 0) (v := .pointer (some ⟨w.heap.size, 0, none⟩)) rfl (by kernel_rfl) (by kernel_rfl) (by kernel_rfl) (fun _ _ _ h => h) (Or.inl ⟨by rfl, ?hyy⟩) (by assumption) ?_
      case hyy => (intro w' hSw; (try dsimp only at hSw); go_simp)
      try simp only [Act.put, List.getElem_toArray, List.getElem_cons_zero, List.setIfInBounds_toArray, List.set_cons_zero, List.set_cons_succ]
      refine wpAnyH_take (i := 1) (v := .int .i64 (a : Int)) rfl (by kernel_rfl) (by kernel_rfl) (by kernel_rfl) (fun _ _ _ h => h) (Or.inl ⟨by rfl, ?hyy⟩) (by assumption) ?_
      case hyy => (intro w' hSw; (try dsimp only at hSw); go_simp)
      try simp only [Act.put, List.getElem_toArray, List.getElem_cons_succ, List.getElem_cons_zero, List.setIfInBounds_toArray, List.set_cons_zero, List.set_cons_succ]
      refine wpAnyH_take (i := 2) (v := .pointer (some ⟨rb, 0, none⟩)) rfl (by kernel_rfl) (by kernel_rfl) (by kernel_rfl) (fun _ _ _ h => h) (Or.inl ⟨by rfl, ?hyy⟩) (by assumption) ?_
      case hyy => (intro w' hSw; (try dsimp only at hSw); go_simp)
      try simp only [Act.put, List.getElem_toArray, List.getElem_cons_succ, List.getElem_cons_zero, List.setIfInBounds_toArray, List.set_cons_zero, List.set_cons_succ]
      refine wpAnyH_take (i := 3) (v := .pointer (some ⟨rb, 0, none⟩)) rfl (by kernel_rfl) (by kernel_rfl) (by kernel_rfl) (fun _ _ _ h => h) (Or.inl ⟨by rfl, ?hyy⟩) (by assumption) ?_
      case hyy => (intro w' hSw; (try dsimp only at hSw); go_simp)
      try simp only [Act.put, List.getElem_toArray, List.getElem_cons_succ, List.getElem_cons_zero, List.setIfInBounds_toArray, List.set_cons_zero, List.set_cons_succ]
      refine wpAnyH_take (i := 4) (v := .pointer (some ⟨rb, 2, none⟩)) rfl (by kernel_rfl) (by kernel_rfl) (by kernel_rfl) (fun _ _ _ h => h) (Or.inl ⟨by rfl, ?hyy⟩) (by assumption) ?_
      case hyy => (intro w' hSw; (try dsimp only at hSw); go_simp)
      try simp only [Act.put, List.getElem_toArray, List.getElem_cons_succ, List.getElem_cons_zero, List.setIfInBounds_toArray, List.set_cons_zero, List.set_cons_succ]
      refine wpAnyH_take (i := 5) (v := .int .i64 (W : Int)) rfl (by kernel_rfl) (by kernel_rfl) (by kernel_rfl) (fun _ _ _ h => h) (Or.inl ⟨by rfl, ?hyy⟩) (by assumption) ?_
      case hyy => (intro w' hSw; (try dsimp only at hSw); go_simp)
      try simp only [Act.put, List.getElem_toArray, List.getElem_cons_succ, List.getElem_cons_zero, List.setIfInBounds_toArray, List.set_cons_zero, List.set_cons_succ]
      refine wpAnyH_take (i := 6) (v := .int .i64 (2 * (W : Int))) rfl (by kernel_rfl) (by kernel_rfl) (by kernel_rfl) (fun _ _ _ h => h) (Or.inl ⟨by rfl, ?hyy⟩) (by assumption) ?_
      case hyy => (intro w' hSw; (try dsimp only at hSw); go_simp)
      try simp only [Act.put, List.getElem_toArray, List.getElem_cons_succ, List.getElem_cons_zero, List.setIfInBounds_toArray, List.set_cons_zero, List.set_cons_succ]
      refine wpAnyH_take (i := 7) (v := .bool true) rfl (by kernel_rfl) (by kernel_rfl) (by kernel_rfl) (fun _ _ _ h => h) (Or.inl ⟨by rfl, ?hyy⟩) (by assumption) ?_
      case hyy => (intro w' hSw; (try dsimp only at hSw); go_simp)
      try simp only [Act.put, List.getElem_toArray, List.getElem_cons_succ, List.getElem_cons_zero, List.setIfInBounds_toArray, List.set_cons_zero, List.set_cons_succ]
      refine wpAnyH_take (i := 8) (v := .bool true) rfl (by kernel_rfl) (by kernel_rfl) (by kernel_rfl) (fun _ _ _ h => h) (Or.inl ⟨by rfl, ?hyy⟩) (by assumption) ?_
      case hyy => (intro w' hSw; (try dsimp only at hSw); go_simp)
      try simp only [Act.put, List.getElem_toArray, List.getElem_cons_succ, List.getElem_cons_zero, List.setIfInBounds_toArray, List.set_cons_zero, List.set_cons_succ]
      refine wpAnyH_take (i := 9) (v := .pointer (some ⟨w.heap.size, 1, none⟩)) rfl (by kernel_rfl) (by kernel_rfl) (by kernel_rfl) (fun _ _ _ h => h) (Or.inl ⟨by rfl, ?hyy⟩) (by assumption) ?_
      case hyy => (intro w' hSw; (try dsimp only at hSw); go_simp)
      try simp only [Act.put, List.getElem_toArray, List.getElem_cons_succ, List.getElem_cons_zero, List.setIfInBounds_toArray, List.set_cons_zero, List.set_cons_succ]
      refine wpAnyH_take (i := 10) (v := .int .i64 (b : Int)) rfl (by kernel_rfl) (by kernel_rfl) (by kernel_rfl) (fun _ _ _ h => h) (Or.inl ⟨by rfl, ?hyy⟩) (by assumption) ?_
      case hyy => (intro w' hSw; (try dsimp only at hSw); go_simp)
      try simp only [Act.put, List.getElem_toArray, List.getElem_cons_succ, List.getElem_cons_zero, List.setIfInBounds_toArray, List.set_cons_zero, List.set_cons_succ]
      refine wpAnyH_take (i := 11) (v := .pointer (some ⟨rb, 0, none⟩)) rfl (by kernel_rfl) (by kernel_rfl) (by kernel_rfl) (fun _ _ _ h => h) (Or.inl ⟨by rfl, ?hyy⟩) (by assumption) ?_
      case hyy => (intro w' hSw; (try dsimp only at hSw); go_simp)
      try simp only [Act.put, List.getElem_toArray, List.getElem_cons_succ, List.getElem_cons_zero, List.setIfInBounds_toArray, List.set_cons_zero, List.set_cons_succ]
      refine wpAnyH_take (i := 12) (v := .pointer (some ⟨rb, 0, none⟩)) rfl (by kernel_rfl) (by kernel_rfl) (by kernel_rfl) (fun _ _ _ h => h) (Or.inl ⟨by rfl, ?hyy⟩) (by assumption) ?_
      case hyy => (intro w' hSw; (try dsimp only at hSw); go_simp)
      try simp only [Act.put, List.getElem_toArray, List.getElem_cons_succ, List.getElem_cons_zero, List.setIfInBounds_toArray, List.set_cons_zero, List.set_cons_succ]
      refine wpAnyH_take (i := 13) (v := .pointer (some ⟨rb, 3, none⟩)) rfl (by kernel_rfl) (by kernel_rfl) (by kernel_rfl) (fun _ _ _ h => h) (Or.inl ⟨by rfl, ?hyy⟩) (by assumption) ?_
      case hyy => (intro w' hSw; (try dsimp only at hSw); go_simp)
      try simp only [Act.put, List.getElem_toArray, List.getElem_cons_succ, List.getElem_cons_zero, List.setIfInBounds_toArray, List.set_cons_zero, List.set_cons_succ]
      refine wpAnyH_take (i := 14) (v := .int .i64 (H : Int)) rfl (by kernel_rfl) (by kernel_rfl) (by kernel_rfl) (fun _ _ _ h => h) (Or.inl ⟨by rfl, ?hyy⟩) (by assumption) ?_
      case hyy => (intro w' hSw; (try dsimp only at hSw); go_simp)
      try simp only [Act.put, List.getElem_toArray, List.getElem_cons_succ, List.getElem_cons_zero, List.setIfInBounds_toArray, List.set_cons_zero, List.set_cons_succ]
      refine wpAnyH_take (i := 15) (v := .int .i64 (2 * (H : Int))) rfl (by kernel_rfl) (by kernel_rfl) (by kernel_rfl) (fun _ _ _ h => h) (Or.inl ⟨by rfl, ?hyy⟩) (by assumption) ?_
      case hyy => (intro w' hSw; (try dsimp only at hSw); go_simp)
      try simp only [Act.put, List.getElem_toArray, List.getElem_cons_succ, List.getElem_cons_zero, List.setIfInBounds_toArray, List.set_cons_zero, List.set_cons_succ]
      refine wpAnyH_take (i := 16) (v := .bool false) rfl (by kernel_rfl) (by kernel_rfl) (by kernel_rfl) (fun _ _ _ h => h) (Or.inl ⟨by rfl, ?hyy⟩) (by assumption) ?_
      case hyy => (intro w' hSw; (try dsimp only at hSw); go_simp)
      try simp only [Act.put, List.getElem_toArray, List.getElem_cons_succ, List.getElem_cons_zero, List.setIfInBounds_toArray, List.set_cons_zero, List.set_cons_succ]
      refine wpAnyH_take (i := 17) (v := .bool false) rfl (by kernel_rfl) (by kernel_rfl) (by kernel_rfl) (fun _ _ _ h => h) (Or.inl ⟨by rfl, ?hyy⟩) (by assumption) ?_
      case hyy => (intro w' hSw; (try dsimp only at hSw); go_simp)
      try simp only [Act.put, List.getElem_toArray, List.getElem_cons_succ, List.getElem_cons_zero, List.setIfInBounds_toArray, List.set_cons_zero, List.set_cons_succ]
      refine wpAnyH_take (i := 18) (v := .bool false) rfl (by kernel_rfl) (by kernel_rfl) (by kernel_rfl) (fun _ _ _ h => h) (Or.inl ⟨by rfl, ?hyy⟩) (by assumption) ?_
      case hyy => (intro w' hSw; (try dsimp only at hSw); go_simp)
      try simp only [Act.put, List.getElem_toArray, List.getElem_cons_succ, List.getElem_cons_zero, List.setIfInBounds_toArray, List.set_cons_zero, List.set_cons_succ]
      refine wpAnyH_take (i := 19) (v := undef) rfl (by kernel_rfl) (by kernel_rfl) (by kernel_rfl) (fun _ _ _ h => h) (Or.inr ⟨by rfl, rfl⟩) (by assumption) ?_
      try simp only [Act.put, List.getElem_toArray, List.getElem_cons_succ, List.getElem_cons_zero, List.setIfInBounds_toArray, List.set_cons_zero, List.set_cons_succ]
      refine wpAnyH_take (i := 20) (v := undef) rfl (by kernel_rfl) (by kernel_rfl) (by kernel_rfl) (fun _ _ _ h => h) (Or.inr ⟨by rfl, rfl⟩) (by assumption) ?_
      try simp only [Act.put, List.getElem_toArray, List.getElem_cons_succ, List.getElem_cons_zero, List.setIfInBounds_toArray, List.set_cons_zero, List.set_cons_succ]
      refine wpAnyH_take (i := 21) (v := undef) rfl (by kernel_rfl) (by kernel_rfl) (by kernel_rfl) (fun _ _ _ h => h) (Or.inr ⟨by rfl, rfl⟩) (by assumption) ?_
      try simp only [Act.put, List.getElem_toArray, List.getElem_cons_succ, List.getElem_cons_zero, List.setIfInBounds_toArray, List.set_cons_zero, List.set_cons_succ]
      refine wpAnyH_take (i := 22) (v := undef) rfl (by kernel_rfl) (by kernel_rfl) (by kernel_rfl) (fun _ _ _ h => h) (Or.inr ⟨by rfl, rfl⟩) (by assumption) ?_
      try simp only [Act.put, List.getElem_toArray, List.getElem_cons_succ, List.getElem_cons_zero, List.setIfInBounds_toArray, List.set_cons_zero, List.set_cons_succ]
      refine wpAnyH_take (i := 23) (v := undef) rfl (by kernel_rfl) (by kernel_rfl) (by kernel_rfl) (fun _ _ _ h => h) (Or.inr ⟨by rfl, rfl⟩) (by assumption) ?_
      try simp only [Act.put, List.getElem_toArray, List.getElem_cons_succ, List.getElem_cons_zero, List.setIfInBounds_toArray, List.set_cons_zero, List.set_cons_succ]
      refine wpAnyH_take (i := 24) (v := undef) rfl (by kernel_rfl) (by kernel_rfl) (by kernel_rfl) (fun _ _ _ h => h) (Or.inr ⟨by rfl, rfl⟩) (by assumption) ?_
      try simp only [Act.put, List.getElem_toArray, List.getElem_cons_succ, List.getElem_cons_zero, List.setIfInBounds_toArray, List.set_cons_zero, List.set_cons_succ]
      refine wpAnyH_take (i := 25) (v := undef) rfl (by kernel_rfl) (by kernel_rfl) (by kernel_rfl) (fun _ _ _ h => h) (Or.inr ⟨by rfl, rfl⟩) (by assumption) ?_
      try simp only [Act.put, List.getElem_toArray, List.getElem_cons_succ, List.getElem_cons_zero, List.setIfInBounds_toArray, List.set_cons_zero, List.set_cons_succ]
      refine wpAnyH_take (i := 26) (v := .bool false) rfl (by kernel_rfl) (by kernel_rfl) (by kernel_rfl) (fun _ _ _ h => h) (Or.inl ⟨by rfl, ?hyy⟩) (by assumption) ?_
      case hyy => (intro w' hSw; (try dsimp only at hSw); go_simp)
      try simp only [Act.put, List.getElem_toArray, List.getElem_cons_succ, List.getElem_cons_zero, List.setIfInBounds_toArray, List.set_cons_zero, List.set_cons_succ]
      refine wpAnyH_take (i := 27) (v := .bool false) rfl (by kernel_rfl) (by kernel_rfl) (by kernel_rfl) (fun _ _ _ h => h) (Or.inl ⟨by rfl, ?hyy⟩) (by assumption) ?_
      case hyy => (intro w' hSw; (try dsimp only at hSw); go_simp)
      try simp only [Act.put, List.getElem_toArray, List.getElem_cons_succ, List.getElem_cons_zero, List.setIfInBounds_toArray, List.set_cons_zero, List.set_cons_succ]
      refine wpAnyH_done (by kernel_rfl) ?_ _
      go_wp2
      go_ret
      exact ⟨by rw [HE.out]; rfl, bl_drew (bl_alloc (bl_refl _))⟩
  · have c1 : ¬ (a : Int) ≤ 2 * (W : Int) := by omega
    have he : wthn W H a b = false := (by simp [wthn, h1])
    have HE : Hid (wthn W H a b = false) := he
    clear he
    go_enter Tryz.func47, Tryz.ntmps47
    go_wp2
    refine wp_region_held_drew (S := fun w' => w'.cell? ⟨rb, 2, none⟩ = some (.int .i64 (W : Int)) ∧ w'.cell? ⟨rb, 3, none⟩ = some (.int .i64 (H : Int)) ∧ w'.cell? ⟨w.heap.size, 0, none⟩ = some (.int .i64 (a : Int)) ∧ w'.cell? ⟨w.heap.size, 1, none⟩ = some (.int .i64 (b : Int))) (by kernel_rfl) (by refine ⟨?_, ?_, ?_, ?_⟩ <;> (simp [go_sem, *]; done)) (fun hHeld => ?_)
    try simp only [Act.put, List.getElem_toArray, List.getElem_cons_succ, List.getElem_cons_zero, List.setIfInBounds_toArray, List.set_cons_zero, List.set_cons_succ]
    refine wpAnyH_take (i := 0) (v := .pointer (some ⟨w.heap.size, 0, none⟩)) rfl (by kernel_rfl) (by kernel_rfl) (by kernel_rfl) (fun _ _ _ h => h) (Or.inl ⟨by rfl, ?hyy⟩) (by assumption) ?_
    case hyy => (intro w' hSw; (try dsimp only at hSw); go_simp)
    try simp only [Act.put, List.getElem_toArray, List.getElem_cons_zero, List.setIfInBounds_toArray, List.set_cons_zero, List.set_cons_succ]
    refine wpAnyH_take (i := 1) (v := .int .i64 (a : Int)) rfl (by kernel_rfl) (by kernel_rfl) (by kernel_rfl) (fun _ _ _ h => h) (Or.inl ⟨by rfl, ?hyy⟩) (by assumption) ?_
    case hyy => (intro w' hSw; (try dsimp only at hSw); go_simp)
    try simp only [Act.put, List.getElem_toArray, List.getElem_cons_succ, List.getElem_cons_zero, List.setIfInBounds_toArray, List.set_cons_zero, List.set_cons_succ]
    refine wpAnyH_take (i := 2) (v := .pointer (some ⟨rb, 0, none⟩)) rfl (by kernel_rfl) (by kernel_rfl) (by kernel_rfl) (fun _ _ _ h => h) (Or.inl ⟨by rfl, ?hyy⟩) (by assumption) ?_
    case hyy => (intro w' hSw; (try dsimp only at hSw); go_simp)
    try simp only [Act.put, List.getElem_toArray, List.getElem_cons_succ, List.getElem_cons_zero, List.setIfInBounds_toArray, List.set_cons_zero, List.set_cons_succ]
    refine wpAnyH_take (i := 3) (v := .pointer (some ⟨rb, 0, none⟩)) rfl (by kernel_rfl) (by kernel_rfl) (by kernel_rfl) (fun _ _ _ h => h) (Or.inl ⟨by rfl, ?hyy⟩) (by assumption) ?_
    case hyy => (intro w' hSw; (try dsimp only at hSw); go_simp)
    try simp only [Act.put, List.getElem_toArray, List.getElem_cons_succ, List.getElem_cons_zero, List.setIfInBounds_toArray, List.set_cons_zero, List.set_cons_succ]
    refine wpAnyH_take (i := 4) (v := .pointer (some ⟨rb, 2, none⟩)) rfl (by kernel_rfl) (by kernel_rfl) (by kernel_rfl) (fun _ _ _ h => h) (Or.inl ⟨by rfl, ?hyy⟩) (by assumption) ?_
    case hyy => (intro w' hSw; (try dsimp only at hSw); go_simp)
    try simp only [Act.put, List.getElem_toArray, List.getElem_cons_succ, List.getElem_cons_zero, List.setIfInBounds_toArray, List.set_cons_zero, List.set_cons_succ]
    refine wpAnyH_take (i := 5) (v := .int .i64 (W : Int)) rfl (by kernel_rfl) (by kernel_rfl) (by kernel_rfl) (fun _ _ _ h => h) (Or.inl ⟨by rfl, ?hyy⟩) (by assumption) ?_
    case hyy => (intro w' hSw; (try dsimp only at hSw); go_simp)
    try simp only [Act.put, List.getElem_toArray, List.getElem_cons_succ, List.getElem_cons_zero, List.setIfInBounds_toArray, List.set_cons_zero, List.set_cons_succ]
    refine wpAnyH_take (i := 6) (v := .int .i64 (2 * (W : Int))) rfl (by kernel_rfl) (by kernel_rfl) (by kernel_rfl) (fun _ _ _ h => h) (Or.inl ⟨by rfl, ?hyy⟩) (by assumption) ?_
    case hyy => (intro w' hSw; (try dsimp only at hSw); go_simp)
    try simp only [Act.put, List.getElem_toArray, List.getElem_cons_succ, List.getElem_cons_zero, List.setIfInBounds_toArray, List.set_cons_zero, List.set_cons_succ]
    refine wpAnyH_take (i := 7) (v := .bool false) rfl (by kernel_rfl) (by kernel_rfl) (by kernel_rfl) (fun _ _ _ h => h) (Or.inl ⟨by rfl, ?hyy⟩) (by assumption) ?_
    case hyy => (intro w' hSw; (try dsimp only at hSw); go_simp)
    try simp only [Act.put, List.getElem_toArray, List.getElem_cons_succ, List.getElem_cons_zero, List.setIfInBounds_toArray, List.set_cons_zero, List.set_cons_succ]
    refine wpAnyH_take (i := 8) (v := .bool false) rfl (by kernel_rfl) (by kernel_rfl) (by kernel_rfl) (fun _ _ _ h => h) (Or.inl ⟨by rfl, ?hyy⟩) (by assumption) ?_
    case hyy => (intro w' hSw; (try dsimp only at hSw); go_simp)
    try simp only [Act.put, List.getElem_toArray, List.getElem_cons_succ, List.getElem_cons_zero, List.setIfInBounds_toArray, List.set_cons_zero, List.set_cons_succ]
    refine wpAnyH_take (i := 9) (v := undef) rfl (by kernel_rfl) (by kernel_rfl) (by kernel_rfl) (fun _ _ _ h => h) (Or.inr ⟨by rfl, rfl⟩) (by assumption) ?_
    try simp only [Act.put, List.getElem_toArray, List.getElem_cons_succ, List.getElem_cons_zero, List.setIfInBounds_toArray, List.set_cons_zero, List.set_cons_succ]
    refine wpAnyH_take (i := 10) (v := undef) rfl (by kernel_rfl) (by kernel_rfl) (by kernel_rfl) (fun _ _ _ h => h) (Or.inr ⟨by rfl, rfl⟩) (by assumption) ?_
    try simp only [Act.put, List.getElem_toArray, List.getElem_cons_succ, List.getElem_cons_zero, List.setIfInBounds_toArray, List.set_cons_zero, List.set_cons_succ]
    refine wpAnyH_take (i := 11) (v := undef) rfl (by kernel_rfl) (by kernel_rfl) (by kernel_rfl) (fun _ _ _ h => h) (Or.inr ⟨by rfl, rfl⟩) (by assumption) ?_
    try simp only [Act.put, List.getElem_toArray, List.getElem_cons_succ, List.getElem_cons_zero, List.setIfInBounds_toArray, List.set_cons_zero, List.set_cons_succ]
    refine wpAnyH_take (i := 12) (v := undef) rfl (by kernel_rfl) (by kernel_rfl) (by kernel_rfl) (fun _ _ _ h => h) (Or.inr ⟨by rfl, rfl⟩) (by assumption) ?_
    try simp only [Act.put, List.getElem_toArray, List.getElem_cons_succ, List.getElem_cons_zero, List.setIfInBounds_toArray, List.set_cons_zero, List.set_cons_succ]
    refine wpAnyH_take (i := 13) (v := undef) rfl (by kernel_rfl) (by kernel_rfl) (by kernel_rfl) (fun _ _ _ h => h) (Or.inr ⟨by rfl, rfl⟩) (by assumption) ?_
    try simp only [Act.put, List.getElem_toArray, List.getElem_cons_succ, List.getElem_cons_zero, List.setIfInBounds_toArray, List.set_cons_zero, List.set_cons_succ]
    refine wpAnyH_take (i := 14) (v := undef) rfl (by kernel_rfl) (by kernel_rfl) (by kernel_rfl) (fun _ _ _ h => h) (Or.inr ⟨by rfl, rfl⟩) (by assumption) ?_
    try simp only [Act.put, List.getElem_toArray, List.getElem_cons_succ, List.getElem_cons_zero, List.setIfInBounds_toArray, List.set_cons_zero, List.set_cons_succ]
    refine wpAnyH_take (i := 15) (v := undef) rfl (by kernel_rfl) (by kernel_rfl) (by kernel_rfl) (fun _ _ _ h => h) (Or.inr ⟨by rfl, rfl⟩) (by assumption) ?_
    try simp only [Act.put, List.getElem_toArray, List.getElem_cons_succ, List.getElem_cons_zero, List.setIfInBounds_toArray, List.set_cons_zero, List.set_cons_succ]
    refine wpAnyH_take (i := 16) (v := undef) rfl (by kernel_rfl) (by kernel_rfl) (by kernel_rfl) (fun _ _ _ h => h) (Or.inr ⟨by rfl, rfl⟩) (by assumption) ?_
    try simp only [Act.put, List.getElem_toArray, List.getElem_cons_succ, List.getElem_cons_zero, List.setIfInBounds_toArray, List.set_cons_zero, List.set_cons_succ]
    refine wpAnyH_take (i := 17) (v := .bool false) rfl (by kernel_rfl) (by kernel_rfl) (by kernel_rfl) (fun _ _ _ h => h) (Or.inl ⟨by rfl, ?hyy⟩) (by assumption) ?_
    case hyy => (intro w' hSw; (try dsimp only at hSw); go_simp)
    try simp only [Act.put, List.getElem_toArray, List.getElem_cons_succ, List.getElem_cons_zero, List.setIfInBounds_toArray, List.set_cons_zero, List.set_cons_succ]
    refine wpAnyH_take (i := 18) (v := .bool false) rfl (by kernel_rfl) (by kernel_rfl) (by kernel_rfl) (fun _ _ _ h => h) (Or.inl ⟨by rfl, ?hyy⟩) (by assumption) ?_
    case hyy => (intro w' hSw; (try dsimp only at hSw); go_simp)
    try simp only [Act.put, List.getElem_toArray, List.getElem_cons_succ, List.getElem_cons_zero, List.setIfInBounds_toArray, List.set_cons_zero, List.set_cons_succ]
    refine wpAnyH_take (i := 19) (v := undef) rfl (by kernel_rfl) (by kernel_rfl) (by kernel_rfl) (fun _ _ _ h => h) (Or.inr ⟨by rfl, rfl⟩) (by assumption) ?_
    try simp only [Act.put, List.getElem_toArray, List.getElem_cons_succ, List.getElem_cons_zero, List.setIfInBounds_toArray, List.set_cons_zero, List.set_cons_succ]
    refine wpAnyH_take (i := 20) (v := undef) rfl (by kernel_rfl) (by kernel_rfl) (by kernel_rfl) (fun _ _ _ h => h) (Or.inr ⟨by rfl, rfl⟩) (by assumption) ?_
    try simp only [Act.put, List.getElem_toArray, List.getElem_cons_succ, List.getElem_cons_zero, List.setIfInBounds_toArray, List.set_cons_zero, List.set_cons_succ]
    refine wpAnyH_take (i := 21) (v := undef) rfl (by kernel_rfl) (by kernel_rfl) (by kernel_rfl) (fun _ _ _ h => h) (Or.inr ⟨by rfl, rfl⟩) (by assumption) ?_
    try simp only [Act.put, List.getElem_toArray, List.getElem_cons_succ, List.getElem_cons_zero, List.setIfInBounds_toArray, List.set_cons_zero, List.set_cons_succ]
    refine wpAnyH_take (i := 22) (v := undef) rfl (by kernel_rfl) (by kernel_rfl) (by kernel_rfl) (fun _ _ _ h => h) (Or.inr ⟨by rfl, rfl⟩) (by assumption) ?_
    try simp only [Act.put, List.getElem_toArray, List.getElem_cons_succ, List.getElem_cons_zero, List.setIfInBounds_toArray, List.set_cons_zero, List.set_cons_succ]
    refine wpAnyH_take (i := 23) (v := undef) rfl (by kernel_rfl) (by kernel_rfl) (by kernel_rfl) (fun _ _ _ h => h) (Or.inr ⟨by rfl, rfl⟩) (by assumption) ?_
    try simp only [Act.put, List.getElem_toArray, List.getElem_cons_succ, List.getElem_cons_zero, List.setIfInBounds_toArray, List.set_cons_zero, List.set_cons_succ]
    refine wpAnyH_take (i := 24) (v := undef) rfl (by kernel_rfl) (by kernel_rfl) (by kernel_rfl) (fun _ _ _ h => h) (Or.inr ⟨by rfl, rfl⟩) (by assumption) ?_
    try simp only [Act.put, List.getElem_toArray, List.getElem_cons_succ, List.getElem_cons_zero, List.setIfInBounds_toArray, List.set_cons_zero, List.set_cons_succ]
    refine wpAnyH_take (i := 25) (v := undef) rfl (by kernel_rfl) (by kernel_rfl) (by kernel_rfl) (fun _ _ _ h => h) (Or.inr ⟨by rfl, rfl⟩) (by assumption) ?_
    try simp only [Act.put, List.getElem_toArray, List.getElem_cons_succ, List.getElem_cons_zero, List.setIfInBounds_toArray, List.set_cons_zero, List.set_cons_succ]
    refine wpAnyH_take (i := 26) (v := .bool false) rfl (by kernel_rfl) (by kernel_rfl) (by kernel_rfl) (fun _ _ _ h => h) (Or.inl ⟨by rfl, ?hyy⟩) (by assumption) ?_
    case hyy => (intro w' hSw; (try dsimp only at hSw); go_simp)
    try simp only [Act.put, List.getElem_toArray, List.getElem_cons_succ, List.getElem_cons_zero, List.setIfInBounds_toArray, List.set_cons_zero, List.set_cons_succ]
    refine wpAnyH_take (i := 27) (v := .bool false) rfl (by kernel_rfl) (by kernel_rfl) (by kernel_rfl) (fun _ _ _ h => h) (Or.inl ⟨by rfl, ?hyy⟩) (by assumption) ?_
    case hyy => (intro w' hSw; (try dsimp only at hSw); go_simp)
    try simp only [Act.put, List.getElem_toArray, List.getElem_cons_succ, List.getElem_cons_zero, List.setIfInBounds_toArray, List.set_cons_zero, List.set_cons_succ]
    refine wpAnyH_done (by kernel_rfl) ?_ _
    go_wp2
    go_ret
    exact ⟨by rw [HE.out]; rfl, bl_drew (bl_alloc (bl_refl _))⟩
end Go.Proofs.YtehmoacggikfmaaGreatDoor
namespace Go.Proofs.YtehmoacggikfmaaGreatDoor
open Go.RowKit Go.Lib

def kr (r : Nat) : Int := if r = 109 ∨ r = 8743 then 1 else if r = 118 ∨ r = 8744 then 2 else 0
def kdR (s : ByteArray) : Int := if s.size = 0 then 0 else if (Utf8.decode s 0).2 < s.size then 0 else kr (Utf8.decode s 0).1
set_option maxHeartbeats 2000000 in
theorem dec_three (s : ByteArray) (h : 128 ≤ (s.get! 0).toNat) (hr : (Utf8.decode s 0).1 = 8743 ∨ (Utf8.decode s 0).1 = 8744) : (Utf8.decode s 0).2 = 3 ∧ (s.get! 0).toNat = 226 ∧ (s.get! 1).toNat = 136 ∧ (s.get! 2).toNat + 8576 = (Utf8.decode s 0).1 := by
  have h0 : 128 ≤ (s.get! (0 + 0)).toNat := h
  have b0 := (s.get! (0 + 0)).toNat_lt
  have b1 := (s.get! (0 + 1)).toNat_lt
  have b2 := (s.get! (0 + 2)).toNat_lt
  revert hr
  unfold Utf8.decode Utf8.runeError
  simp only [Bool.and_eq_true, decide_eq_true_eq, beq_iff_eq]
  repeat' split
  all_goals (intro hr; first | (exfalso; omega) | skip)
  · dsimp only at *
    simp only [Nat.zero_add] at *
    refine ⟨trivial, ?_, ?_, ?_⟩ <;> omega
theorem list_get (s : ByteArray) (i : Nat) (h : i < s.size) : s.data.toList[i]'(by simpa using h) = s.get! i := by
  have := get_list s i h
  rw [List.getElem?_eq_getElem (by simpa using h)] at this
  exact Option.some.inj this
theorem u8_is {c : UInt8} {n : Nat} (d : UInt8) (h : c.toNat = n) (hd : d.toNat = n) : c = d := UInt8.toNat_inj.1 (h.trans hd.symm)
set_option maxHeartbeats 2000000 in
theorem kdR_kdW (s : ByteArray) : kdR s = kdW s.data.toList := by
  have hl : s.data.toList.length = s.size := Array.length_toList
  unfold kdR
  by_cases h0 : s.size = 0
  · rw [if_pos h0]
    have : s.data.toList = [] := List.eq_nil_of_length_eq_zero (by omega)
    rw [this]
    rfl
  rw [if_neg h0]
  by_cases h7 : (s.get! 0).toNat < 128
  · have hd := decode_ascii s 0 h7
    rw [hd]
    by_cases h1 : 1 < s.size
    · rw [if_pos h1]
      unfold kdW
      have g0 := list_get s 0 (by omega)
      rw [if_neg, if_neg]
      · rintro (e | e)
        · rw [e] at hl; simp at hl; omega
        · have : (s.get! 0).toNat = 226 := by rw [← g0]; simp [e]
          omega
      · rintro (e | e)
        · rw [e] at hl; simp at hl; omega
        · have : (s.get! 0).toNat = 226 := by rw [← g0]; simp [e]
          omega
    · rw [if_neg h1]
      have g0 := list_get s 0 (by omega)
      have e1 : s.data.toList = [s.get! 0] := by
        apply List.ext_getElem
        · rw [hl, List.length_singleton]
          omega
        · intro i h1 h2
          have hi : i = 0 := by simpa using h2
          subst hi
          exact g0
      rw [e1]
      generalize s.get! 0 = c at *
      have hc := c.toNat_lt
      have k1 : c = 109 ↔ c.toNat = 109 := ⟨fun e => by rw [e]; rfl, fun e => u8_is 109 e rfl⟩
      have k2 : c = 118 ↔ c.toNat = 118 := ⟨fun e => by rw [e]; rfl, fun e => u8_is 118 e rfl⟩
      unfold kr kdW
      simp only [List.cons.injEq, and_true, reduceCtorEq, and_false, or_false, k1, k2]
      have : ¬ c.toNat = 8743 := by omega
      have : ¬ c.toNat = 8744 := by omega
      simp only [*, or_false]
  · have hw := decode_wide s 0 (by omega) (by omega)
    have g0 := list_get s 0 (by omega)
    by_cases hr : (Utf8.decode s 0).1 = 8743 ∨ (Utf8.decode s 0).1 = 8744
    · obtain ⟨d1, d2, d3, d4⟩ := dec_three s (by omega) hr
      have hsz : 3 ≤ s.size := by have := hw.2.2.1; omega
      by_cases h3 : (Utf8.decode s 0).2 < s.size
      · rw [if_pos h3]
        unfold kdW
        rw [if_neg, if_neg]
        · rintro (e | e) <;> (rw [e] at hl; simp at hl; omega)
        · rintro (e | e) <;> (rw [e] at hl; simp at hl; omega)
      · rw [if_neg h3]
        have g1 := list_get s 1 (by omega)
        have g2 := list_get s 2 (by omega)
        have e1 : s.data.toList = [s.get! 0, s.get! 1, s.get! 2] := by
          apply List.ext_getElem
          · rw [hl]
            simp
            omega
          · intro i h1 h2
            have hi : i = 0 ∨ i = 1 ∨ i = 2 := by simp at h2; omega
            rcases hi with rfl | rfl | rfl
            · exact g0
            · exact g1
            · exact g2
        rw [e1, u8_is 226 d2 rfl, u8_is 136 d3 rfl]
        rcases hr with hr | hr
        · rw [hr, u8_is 167 (show (s.get! 2).toNat = 167 by omega) rfl]
          decide
        · rw [hr, u8_is 168 (show (s.get! 2).toNat = 168 by omega) rfl]
          decide
    · have hz : kr (Utf8.decode s 0).1 = 0 := by
        unfold kr
        rw [if_neg (by omega), if_neg (by omega)]
      have hk : kdW s.data.toList = 0 := by
        unfold kdW
        have n3 : ∀ l : List UInt8, s.data.toList = l → s = ⟨l.toArray⟩ := fun l e => by
          cases s
          subst e
          simp
        rw [if_neg, if_neg]
        · rintro (e | e)
          · have : (s.get! 0).toNat = 118 := by rw [← g0]; simp [e]
            omega
          · exact hr (Or.inr (by rw [n3 _ e]; rfl))
        · rintro (e | e)
          · have : (s.get! 0).toNat = 109 := by rw [← g0]; simp [e]
            omega
          · exact hr (Or.inl (by rw [n3 _ e]; rfl))
      rw [hk]
      split
      · rfl
      · exact hz
theorem dec_le (s : ByteArray) (h : 0 < s.size) : 1 ≤ (Utf8.decode s 0).2 := by
  by_cases h7 : (s.get! 0).toNat < 128
  · rw [decode_ascii s 0 h7]
    exact Nat.le_refl _
  · exact (decode_wide s 0 h (by omega)).2.1
/-- The iterator over a word. -/
def IT (w wx : World) (s : ByteArray) (pos : Nat) : Prop := wx.heap[w.heap.size]? = some (.stringIter s pos) ∧ Below w.heap.size w wx
set_option maxRecDepth 100000 in
set_option maxHeartbeats 3200000 in
theorem kindOf_code (s : ByteArray) (w : World) : Calls Tryz.prog 46 #[.string s] w fun e w' => e = .returned (.int .i64 (kdW s.data.toList)) ∧ Below w.heap.size w w' := by
  obtain ⟨R, hR⟩ : ∃ R, R = (Utf8.decode s 0).1 := ⟨_, rfl⟩
  obtain ⟨n, hn⟩ : ∃ n, n = (Utf8.decode s 0).2 := ⟨_, rfl⟩
  have HK : Hid (kdW s.data.toList = if s.size = 0 then 0 else if n < s.size then 0 else kr R) := by
    show kdW s.data.toList = _
    rw [← kdR_kdW, hR, hn]
    rfl
  have HN : Hid (0 < s.size → 1 ≤ n) := fun h => by rw [hn]; exact dec_le s h
  have HT0 : Hid (IT w (w.alloc (.stringIter s 0)) s 0) := ⟨Array.getElem?_push_size, bl_alloc (bl_refl _)⟩
  go_enter Tryz.func46, Tryz.ntmps46
  go_wp2
  go_loopg [3] 2 (fun g s3 wx => ∃ pos : Nat, ((g = 2 ∧ pos = 0 ∧ s3 = .int .i64 0) ∨ (g = 1 ∧ pos = n ∧ 0 < s.size ∧ s3 = .int .i64 (kr R))) ∧ IT w wx s pos)
  case atStart => exact ⟨0, Or.inl ⟨rfl, rfl, rfl⟩, HT0.out⟩
  case round =>
    obtain ⟨pos, hst, hit⟩ := hrel
    have HIT : Hid (IT w wr s pos) := hit
    clear hit HT0
    rcases hst with ⟨rfl, rfl, rfl⟩ | ⟨rfl, rfl, hs0, rfl⟩
    · by_cases h0 : 0 < s.size
      · have hnx := fun ty => Lib.run_next_any_at (P := Tryz.prog) wr w.heap.size s 0 ty HIT.out.1 h0
        rw [← hR, ← hn] at hnx
        obtain ⟨w1, hw1⟩ : ∃ v, v = wr.iterAt w.heap.size s (0 + n) := ⟨_, rfl⟩
        rw [← hw1] at hnx
        have HI1 : Hid (IT w w1 s n) := by
          show IT w w1 s n
          rw [hw1, Nat.zero_add]
          exact ⟨Lib.iterAt_heap _ _ _ _ _ HIT.out.1, Lib.below_iterAt HIT.out.2 (Nat.le_refl _) _ _⟩
        clear hw1 hR hn
        have hcs : R = 109 ∨ R = 8743 ∨ R = 118 ∨ R = 8744 ∨ (R ≠ 109 ∧ R ≠ 8743 ∧ R ≠ 118 ∧ R ≠ 8744) := by omega
        rcases hcs with hr | hr | hr | hr | ⟨r1, r2, r3, r4⟩
        · have q109 : ((R : Int) == 109) = true := by rw [beq_iff_eq]; omega
          have HKR : Hid (kr R = 1) := by
            show kr R = 1
            unfold kr
            split
            · first | rfl | (exfalso; omega)
            · split
              · first | rfl | (exfalso; omega)
              · first | rfl | (exfalso; omega)
          go_wp2_with (fail)
          go_roundg 1
          case measure => omega
          case rel => exact ⟨n, Or.inr ⟨rfl, rfl, h0, by rw [HKR.out]⟩, HI1.out⟩
        · have q109 : ((R : Int) == 109) = false := by rw [beq_eq_false_iff_ne]; omega
          have q8743 : ((R : Int) == 8743) = true := by rw [beq_iff_eq]; omega
          have HKR : Hid (kr R = 1) := by
            show kr R = 1
            unfold kr
            split
            · first | rfl | (exfalso; omega)
            · split
              · first | rfl | (exfalso; omega)
              · first | rfl | (exfalso; omega)
          go_wp2_with (fail)
          go_roundg 1
          case measure => omega
          case rel => exact ⟨n, Or.inr ⟨rfl, rfl, h0, by rw [HKR.out]⟩, HI1.out⟩
        · have q109 : ((R : Int) == 109) = false := by rw [beq_eq_false_iff_ne]; omega
          have q8743 : ((R : Int) == 8743) = false := by rw [beq_eq_false_iff_ne]; omega
          have q118 : ((R : Int) == 118) = true := by rw [beq_iff_eq]; omega
          have HKR : Hid (kr R = 2) := by
            show kr R = 2
            unfold kr
            split
            · first | rfl | (exfalso; omega)
            · split
              · first | rfl | (exfalso; omega)
              · first | rfl | (exfalso; omega)
          go_wp2_with (fail)
          go_roundg 1
          case measure => omega
          case rel => exact ⟨n, Or.inr ⟨rfl, rfl, h0, by rw [HKR.out]⟩, HI1.out⟩
        · have q109 : ((R : Int) == 109) = false := by rw [beq_eq_false_iff_ne]; omega
          have q8743 : ((R : Int) == 8743) = false := by rw [beq_eq_false_iff_ne]; omega
          have q118 : ((R : Int) == 118) = false := by rw [beq_eq_false_iff_ne]; omega
          have q8744 : ((R : Int) == 8744) = true := by rw [beq_iff_eq]; omega
          have HKR : Hid (kr R = 2) := by
            show kr R = 2
            unfold kr
            split
            · first | rfl | (exfalso; omega)
            · split
              · first | rfl | (exfalso; omega)
              · first | rfl | (exfalso; omega)
          go_wp2_with (fail)
          go_roundg 1
          case measure => omega
          case rel => exact ⟨n, Or.inr ⟨rfl, rfl, h0, by rw [HKR.out]⟩, HI1.out⟩
        · have q109 : ((R : Int) == 109) = false := by rw [beq_eq_false_iff_ne]; omega
          have q8743 : ((R : Int) == 8743) = false := by rw [beq_eq_false_iff_ne]; omega
          have q118 : ((R : Int) == 118) = false := by rw [beq_eq_false_iff_ne]; omega
          have q8744 : ((R : Int) == 8744) = false := by rw [beq_eq_false_iff_ne]; omega
          have HKR : Hid (kr R = 0) := by
            show kr R = 0
            unfold kr
            split
            · first | rfl | (exfalso; omega)
            · split
              · first | rfl | (exfalso; omega)
              · first | rfl | (exfalso; omega)
          go_wp2_with (fail)
          go_roundg 1
          case measure => omega
          case rel => exact ⟨n, Or.inr ⟨rfl, rfl, h0, by rw [HKR.out]⟩, HI1.out⟩
      · have hnx := fun ty => Lib.run_next_end_at (P := Tryz.prog) wr w.heap.size s 0 ty HIT.out.1 h0
        have HZ : Hid (kdW s.data.toList = 0) := by
          show kdW s.data.toList = 0
          rw [HK.out, if_pos (by omega)]
        clear hR hn
        go_wp2_with (fail)
        go_ret
        exact ⟨by rw [HZ.out]; rfl, HIT.out.2⟩
    · by_cases h2 : pos < s.size
      · have hnx := fun ty => Lib.run_next_any_at (P := Tryz.prog) wr w.heap.size s pos ty HIT.out.1 h2
        obtain ⟨w1, hw1⟩ : ∃ v, v = wr.iterAt w.heap.size s (pos + (Utf8.decode s pos).2) := ⟨_, rfl⟩
        rw [← hw1] at hnx
        have HB1 : Hid (Below w.heap.size w w1) := by
          show Below w.heap.size w w1
          rw [hw1]
          exact Lib.below_iterAt HIT.out.2 (Nat.le_refl _) _ _
        have c1 : 0 < (pos : Int) := by have := HN.out hs0; omega
        have HZ : Hid (kdW s.data.toList = 0) := by
          show kdW s.data.toList = 0
          rw [HK.out, if_neg (by omega), if_pos h2]
        clear hw1 hR hn
        go_wp2_with (fail)
        go_ret
        exact ⟨by rw [HZ.out]; rfl, HB1.out⟩
      · have hnx := fun ty => Lib.run_next_end_at (P := Tryz.prog) wr w.heap.size s pos ty HIT.out.1 h2
        have HZ : Hid (kdW s.data.toList = kr R) := by
          show kdW s.data.toList = kr R
          rw [HK.out, if_neg (by omega), if_neg h2]
        clear hR hn
        go_wp2_with (fail)
        go_ret
        exact ⟨by rw [HZ.out]; rfl, HIT.out.2⟩
end Go.Proofs.YtehmoacggikfmaaGreatDoor
