/- A crease's line: what is refused. -/
import Derived.Test.YtehmoacggikfmaaGreatDoorQlbg
namespace Go.Proofs.YtehmoacggikfmaaGreatDoor
open Go.RowKit

set_option maxRecDepth 100000 in
set_option maxHeartbeats 1600000 in
theorem rc_len (rb A : Nat) (n : Int) (ws : List (List UInt8)) (w : World) (h5 : ws.length ≠ 5) (hc : w.cell? ⟨rb, 1, none⟩ = some (.int .i64 n)) :
    Calls Tryz.prog 28 #[.pointer (some ⟨rb, 0, none⟩), .slice (some ⟨A, 0, none⟩) ws.length ws.length] w fun e w' => e = PF 1 n ∧ Below w.heap.size w w' := by
  have k5 : ((ws.length : Int) == 5) = false := by rw [beq_eq_false_iff_ne]; omega
  have k6 : ((ws.length : Int) != 5) = true := by rw [bne_iff_ne]; omega
  have k7 : ¬ (ws.length : Int) = 5 := by omega
  clear h5
  go_enter Tryz.func28, Tryz.ntmps28
  go_wp2_with (first | (go_at_call 23; (with_reducible refine (refuse_yes _ _ _ _ hc).mono ?_); rintro e w2 ⟨rfl, hw2⟩; have hw2b := hw2.symm; clear hw2; subst hw2b) | fail)
  simp [bodyPost, PF]
  exact bl_refl _
set_option maxRecDepth 100000 in
set_option maxHeartbeats 1600000 in
theorem rc_kind (rb A : Nat) (n : Int) (x0 x1 x2 x3 x4 : List UInt8) (w : World) (hs : SR w A [x0, x1, x2, x3, x4]) (hc : w.cell? ⟨rb, 1, none⟩ = some (.int .i64 n)) (hkd : kdW x0 = 0) :
    Calls Tryz.prog 28 #[.pointer (some ⟨rb, 0, none⟩), .slice (some ⟨A, 0, none⟩) 5 5] w fun e w' => e = PF 1 n ∧ Below w.heap.size w w' := by
  have s0 : w.cell? ⟨A, 0, none⟩ = some (.string (bs x0)) := hs 0 (by simp)
  have s1 : w.cell? ⟨A, 1, none⟩ = some (.string (bs x1)) := hs 1 (by simp)
  have s2 : w.cell? ⟨A, 2, none⟩ = some (.string (bs x2)) := hs 2 (by simp)
  have s3 : w.cell? ⟨A, 3, none⟩ = some (.string (bs x3)) := hs 3 (by simp)
  have s4 : w.cell? ⟨A, 4, none⟩ = some (.string (bs x4)) := hs 4 (by simp)
  have K46 : Hid (∀ V : World, Calls Tryz.prog 46 #[.string (bs x0)] V fun e w' => e = .returned (.int .i64 0) ∧ Below V.heap.size V w') := fun V => by
    have h9 := kindOf_code (bs x0) V
    rw [bs_data, hkd] at h9
    exact h9
  clear hs hkd
  go_enter Tryz.func28, Tryz.ntmps28
  go_wp2_with (first | (go_at_call 46; (with_reducible refine (K46.out _).mono ?_); rintro e w3 ⟨rfl, hbb⟩; have hc3 := cl_kept hbb hc; have e1 := cl_kept hbb s1; have e2 := cl_kept hbb s2; have e3 := cl_kept hbb s3; have e4 := cl_kept hbb s4; have HB3 : Hid (Below w.heap.size w w3) := hbb; clear hbb) | (go_at_call 23; (with_reducible refine (refuse_yes _ _ _ _ hc3).mono ?_); rintro e w2 ⟨rfl, hw2⟩; have hw2b := hw2.symm; clear hw2; subst hw2b) | (go_at_call 23; (with_reducible refine (refuse_no _ _ _).mono ?_); rintro e w2 ⟨rfl, hw2⟩; have hw2b := hw2.symm; clear hw2; subst hw2b) | fail)
  simp [bodyPost, PF]
  exact HB3.out
set_option maxRecDepth 100000 in
set_option maxHeartbeats 3200000 in
theorem rc_num1 (rb A : Nat) (n : Int) (x0 x1 x2 x3 x4 : List UInt8) (w : World) (hs : SR w A [x0, x1, x2, x3, x4]) (hc : w.cell? ⟨rb, 1, none⟩ = some (.int .i64 n)) (K : Int) (hkd : kdW x0 = K) (hK : K ≠ 0) (hn : num x1 = none) :
    Calls Tryz.prog 28 #[.pointer (some ⟨rb, 0, none⟩), .slice (some ⟨A, 0, none⟩) 5 5] w fun e w' => e = PF 1 n ∧ Below w.heap.size w w' := by
  have s0 : w.cell? ⟨A, 0, none⟩ = some (.string (bs x0)) := hs 0 (by simp)
  have s1 : w.cell? ⟨A, 1, none⟩ = some (.string (bs x1)) := hs 1 (by simp)
  have s2 : w.cell? ⟨A, 2, none⟩ = some (.string (bs x2)) := hs 2 (by simp)
  have s3 : w.cell? ⟨A, 3, none⟩ = some (.string (bs x3)) := hs 3 (by simp)
  have s4 : w.cell? ⟨A, 4, none⟩ = some (.string (bs x4)) := hs 4 (by simp)
  have K46 : Hid (∀ V : World, Calls Tryz.prog 46 #[.string (bs x0)] V fun e w' => e = .returned (.int .i64 K) ∧ Below V.heap.size V w') := fun V => by
    have h9 := kindOf_code (bs x0) V
    rw [bs_data, hkd] at h9
    exact h9
  have NX : Hid (∀ V : World, V.cell? ⟨rb, 1, none⟩ = some (.int .i64 n) → Calls Tryz.prog 24 #[.pointer (some ⟨rb, 0, none⟩), .string (bs x1)] V fun e w' => e = PF 1 n ∧ Below V.heap.size V w') := fun V h => rnumber_no rb (bs x1) n V hn h
  have q0 : (K == 0) = false := by simpa using hK
  clear hs hkd hn
  go_enter Tryz.func28, Tryz.ntmps28
  go_wp2_with (first | (go_at_call 46; (with_reducible refine (K46.out _).mono ?_); rintro e w3 ⟨rfl, hbb⟩; have hc3 := cl_kept hbb hc; have e1 := cl_kept hbb s1; have e2 := cl_kept hbb s2; have e3 := cl_kept hbb s3; have e4 := cl_kept hbb s4; have HB3 : Hid (Below w.heap.size w w3) := hbb; clear hbb) | (go_at_call 23; (with_reducible refine (refuse_no _ _ _).mono ?_); rintro e w2 ⟨rfl, hw2⟩; have hw2b := hw2.symm; clear hw2; subst hw2b) | fail)
  refine wp_region_held_drew (S := fun w' => w'.cell? ⟨A, 1, none⟩ = some (.string (bs x1)) ∧ w'.cell? ⟨A, 2, none⟩ = some (.string (bs x2))) (by kernel_rfl) ⟨dr_old e1, dr_old e2⟩ (fun hHeld => ?_)
  try simp only [Act.put, List.getElem_toArray, List.getElem_cons_succ, List.getElem_cons_zero, List.setIfInBounds_toArray, List.set_cons_zero, List.set_cons_succ]
  refine wpAnyH_take (i := 0) (v := .pointer (some ⟨rb, 0, none⟩)) rfl (by kernel_rfl) (by kernel_rfl) (by kernel_rfl) (fun _ _ _ h => h) (Or.inl ⟨by rfl, ?hyy⟩) (by assumption) ?_
  case hyy => (intro w' hSw; (try dsimp only at hSw); go_simp)
  try simp only [Act.put, List.getElem_toArray, List.getElem_cons_zero, List.setIfInBounds_toArray, List.set_cons_zero, List.set_cons_succ]
  refine wpAnyH_take (i := 1) (v := .slice (some ⟨A, 0, none⟩) 5 5) rfl (by kernel_rfl) (by kernel_rfl) (by kernel_rfl) (fun _ _ _ h => h) (Or.inl ⟨by rfl, ?hyy⟩) (by assumption) ?_
  case hyy => (intro w' hSw; (try dsimp only at hSw); go_simp)
  try simp only [Act.put, List.getElem_toArray, List.getElem_cons_succ, List.getElem_cons_zero, List.setIfInBounds_toArray, List.set_cons_zero, List.set_cons_succ]
  refine wpAnyH_take (i := 2) (v := .pointer (some ⟨A, 1, none⟩)) rfl (by kernel_rfl) (by kernel_rfl) (by kernel_rfl) (fun _ _ _ h => h) (Or.inl ⟨by rfl, ?hyy⟩) (by assumption) ?_
  case hyy => (intro w' hSw; (try dsimp only at hSw); go_simp)
  try simp only [Act.put, List.getElem_toArray, List.getElem_cons_succ, List.getElem_cons_zero, List.setIfInBounds_toArray, List.set_cons_zero, List.set_cons_succ]
  refine wpAnyH_take (i := 3) (v := .string (bs x1)) rfl (by kernel_rfl) (by kernel_rfl) (by kernel_rfl) (fun _ _ _ h => h) (Or.inl ⟨by rfl, ?hyy⟩) (by assumption) ?_
  case hyy => (intro w' hSw; (try dsimp only at hSw); go_simp)
  try simp only [Act.put, List.getElem_toArray, List.getElem_cons_succ, List.getElem_cons_zero, List.setIfInBounds_toArray, List.set_cons_zero, List.set_cons_succ]
  refine wpAnyH_take (i := 5) (v := .pointer (some ⟨rb, 0, none⟩)) rfl (by kernel_rfl) (by kernel_rfl) (by kernel_rfl) (fun _ _ _ h => h) (Or.inl ⟨by rfl, ?hyy⟩) (by assumption) ?_
  case hyy => (intro w' hSw; (try dsimp only at hSw); go_simp)
  try simp only [Act.put, List.getElem_toArray, List.getElem_cons_succ, List.getElem_cons_zero, List.setIfInBounds_toArray, List.set_cons_zero, List.set_cons_succ]
  refine wpAnyH_take (i := 6) (v := .slice (some ⟨A, 0, none⟩) 5 5) rfl (by kernel_rfl) (by kernel_rfl) (by kernel_rfl) (fun _ _ _ h => h) (Or.inl ⟨by rfl, ?hyy⟩) (by assumption) ?_
  case hyy => (intro w' hSw; (try dsimp only at hSw); go_simp)
  try simp only [Act.put, List.getElem_toArray, List.getElem_cons_succ, List.getElem_cons_zero, List.setIfInBounds_toArray, List.set_cons_zero, List.set_cons_succ]
  refine wpAnyH_take (i := 7) (v := .pointer (some ⟨A, 2, none⟩)) rfl (by kernel_rfl) (by kernel_rfl) (by kernel_rfl) (fun _ _ _ h => h) (Or.inl ⟨by rfl, ?hyy⟩) (by assumption) ?_
  case hyy => (intro w' hSw; (try dsimp only at hSw); go_simp)
  try simp only [Act.put, List.getElem_toArray, List.getElem_cons_succ, List.getElem_cons_zero, List.setIfInBounds_toArray, List.set_cons_zero, List.set_cons_succ]
  refine wpAnyH_take (i := 8) (v := .string (bs x2)) rfl (by kernel_rfl) (by kernel_rfl) (by kernel_rfl) (fun _ _ _ h => h) (Or.inl ⟨by rfl, ?hyy⟩) (by assumption) ?_
  case hyy => (intro w' hSw; (try dsimp only at hSw); go_simp)
  try simp only [Act.put, List.getElem_toArray, List.getElem_cons_succ, List.getElem_cons_zero, List.setIfInBounds_toArray, List.set_cons_zero, List.set_cons_succ]
  refine wpAnyH_ready (rs := [4, 11]) (by kernel_rfl) (by simp) ?_
  refine AllReadyH.cons rfl (fun K0_0 hK0_0 => ?_) (AllReadyH.cons rfl (fun K0_1 hK0_1 => ?_) AllReadyH.nil)
  · go_simp
    refine (NX.out _ (cl_kept (bl_drew (bl_refl _)) hc3)).mono ?_
    rintro e w6 ⟨rfl, hbb⟩
    have HA6 : Hid (Below w.heap.size w w6) := bl_via HB3.out (bl_via (bl_drew (bl_refl _)) hbb)
    simp +zetaDelta [bodyPost, PF]
    exact HA6.out
  · go_simp
    refine hK0_1.out _ _ ⟨cl_kept (bl_alloc (bl_drew (bl_refl _))) e1, cl_kept (bl_alloc (bl_drew (bl_refl _))) e2⟩ (fun _ => ?_)
    try simp only [Act.put, List.getElem_toArray, List.getElem_cons_succ, List.getElem_cons_zero, List.setIfInBounds_toArray, List.set_cons_zero, List.set_cons_succ]
    refine wpAnyH_ready (rs := [4]) (by kernel_rfl) (by simp) ?_
    refine AllReadyH.cons rfl (fun K1_0 hK1_0 => ?_) AllReadyH.nil
    go_simp
    refine (NX.out _ (cl_kept (bl_alloc (bl_drew (bl_refl _))) hc3)).mono ?_
    rintro e w6 ⟨rfl, hbb⟩
    have HA6 : Hid (Below w.heap.size w w6) := bl_via HB3.out (bl_via (bl_alloc (bl_drew (bl_refl _))) hbb)
    simp +zetaDelta [bodyPost, PF]
    exact HA6.out
set_option maxRecDepth 100000 in
set_option maxHeartbeats 3200000 in
theorem rc_num2 (rb A : Nat) (n : Int) (x0 x1 x2 x3 x4 : List UInt8) (w : World) (hs : SR w A [x0, x1, x2, x3, x4]) (hc : w.cell? ⟨rb, 1, none⟩ = some (.int .i64 n)) (K : Int) (hkd : kdW x0 = K) (hK : K ≠ 0) (v1 : Nat) (h1 : num x1 = some v1) (hn : num x2 = none) :
    Calls Tryz.prog 28 #[.pointer (some ⟨rb, 0, none⟩), .slice (some ⟨A, 0, none⟩) 5 5] w fun e w' => e = PF 1 n ∧ Below w.heap.size w w' := by
  have s0 : w.cell? ⟨A, 0, none⟩ = some (.string (bs x0)) := hs 0 (by simp)
  have s1 : w.cell? ⟨A, 1, none⟩ = some (.string (bs x1)) := hs 1 (by simp)
  have s2 : w.cell? ⟨A, 2, none⟩ = some (.string (bs x2)) := hs 2 (by simp)
  have s3 : w.cell? ⟨A, 3, none⟩ = some (.string (bs x3)) := hs 3 (by simp)
  have s4 : w.cell? ⟨A, 4, none⟩ = some (.string (bs x4)) := hs 4 (by simp)
  have K46 : Hid (∀ V : World, Calls Tryz.prog 46 #[.string (bs x0)] V fun e w' => e = .returned (.int .i64 K) ∧ Below V.heap.size V w') := fun V => by
    have h9 := kindOf_code (bs x0) V
    rw [bs_data, hkd] at h9
    exact h9
  have N1 : Hid (∀ V : World, Calls Tryz.prog 24 #[.pointer (some ⟨rb, 0, none⟩), .string (bs x1)] V fun e w' => e = .returned (.int .i64 (v1 : Int)) ∧ Below V.heap.size V w') := fun V => rnumber_yes rb (bs x1) v1 V h1
  have NX : Hid (∀ V : World, V.cell? ⟨rb, 1, none⟩ = some (.int .i64 n) → Calls Tryz.prog 24 #[.pointer (some ⟨rb, 0, none⟩), .string (bs x2)] V fun e w' => e = PF 1 n ∧ Below V.heap.size V w') := fun V h => rnumber_no rb (bs x2) n V hn h
  have q0 : (K == 0) = false := by simpa using hK
  clear hs hkd hn h1
  go_enter Tryz.func28, Tryz.ntmps28
  go_wp2_with (first | (go_at_call 46; (with_reducible refine (K46.out _).mono ?_); rintro e w3 ⟨rfl, hbb⟩; have hc3 := cl_kept hbb hc; have e1 := cl_kept hbb s1; have e2 := cl_kept hbb s2; have e3 := cl_kept hbb s3; have e4 := cl_kept hbb s4; have HB3 : Hid (Below w.heap.size w w3) := hbb; clear hbb) | (go_at_call 23; (with_reducible refine (refuse_no _ _ _).mono ?_); rintro e w2 ⟨rfl, hw2⟩; have hw2b := hw2.symm; clear hw2; subst hw2b) | fail)
  refine wp_region_held_drew (S := fun w' => w'.cell? ⟨A, 1, none⟩ = some (.string (bs x1)) ∧ w'.cell? ⟨A, 2, none⟩ = some (.string (bs x2))) (by kernel_rfl) ⟨dr_old e1, dr_old e2⟩ (fun hHeld => ?_)
  try simp only [Act.put, List.getElem_toArray, List.getElem_cons_succ, List.getElem_cons_zero, List.setIfInBounds_toArray, List.set_cons_zero, List.set_cons_succ]
  refine wpAnyH_take (i := 0) (v := .pointer (some ⟨rb, 0, none⟩)) rfl (by kernel_rfl) (by kernel_rfl) (by kernel_rfl) (fun _ _ _ h => h) (Or.inl ⟨by rfl, ?hyy⟩) (by assumption) ?_
  case hyy => (intro w' hSw; (try dsimp only at hSw); go_simp)
  try simp only [Act.put, List.getElem_toArray, List.getElem_cons_zero, List.setIfInBounds_toArray, List.set_cons_zero, List.set_cons_succ]
  refine wpAnyH_take (i := 1) (v := .slice (some ⟨A, 0, none⟩) 5 5) rfl (by kernel_rfl) (by kernel_rfl) (by kernel_rfl) (fun _ _ _ h => h) (Or.inl ⟨by rfl, ?hyy⟩) (by assumption) ?_
  case hyy => (intro w' hSw; (try dsimp only at hSw); go_simp)
  try simp only [Act.put, List.getElem_toArray, List.getElem_cons_succ, List.getElem_cons_zero, List.setIfInBounds_toArray, List.set_cons_zero, List.set_cons_succ]
  refine wpAnyH_take (i := 2) (v := .pointer (some ⟨A, 1, none⟩)) rfl (by kernel_rfl) (by kernel_rfl) (by kernel_rfl) (fun _ _ _ h => h) (Or.inl ⟨by rfl, ?hyy⟩) (by assumption) ?_
  case hyy => (intro w' hSw; (try dsimp only at hSw); go_simp)
  try simp only [Act.put, List.getElem_toArray, List.getElem_cons_succ, List.getElem_cons_zero, List.setIfInBounds_toArray, List.set_cons_zero, List.set_cons_succ]
  refine wpAnyH_take (i := 3) (v := .string (bs x1)) rfl (by kernel_rfl) (by kernel_rfl) (by kernel_rfl) (fun _ _ _ h => h) (Or.inl ⟨by rfl, ?hyy⟩) (by assumption) ?_
  case hyy => (intro w' hSw; (try dsimp only at hSw); go_simp)
  try simp only [Act.put, List.getElem_toArray, List.getElem_cons_succ, List.getElem_cons_zero, List.setIfInBounds_toArray, List.set_cons_zero, List.set_cons_succ]
  refine wpAnyH_take (i := 5) (v := .pointer (some ⟨rb, 0, none⟩)) rfl (by kernel_rfl) (by kernel_rfl) (by kernel_rfl) (fun _ _ _ h => h) (Or.inl ⟨by rfl, ?hyy⟩) (by assumption) ?_
  case hyy => (intro w' hSw; (try dsimp only at hSw); go_simp)
  try simp only [Act.put, List.getElem_toArray, List.getElem_cons_succ, List.getElem_cons_zero, List.setIfInBounds_toArray, List.set_cons_zero, List.set_cons_succ]
  refine wpAnyH_take (i := 6) (v := .slice (some ⟨A, 0, none⟩) 5 5) rfl (by kernel_rfl) (by kernel_rfl) (by kernel_rfl) (fun _ _ _ h => h) (Or.inl ⟨by rfl, ?hyy⟩) (by assumption) ?_
  case hyy => (intro w' hSw; (try dsimp only at hSw); go_simp)
  try simp only [Act.put, List.getElem_toArray, List.getElem_cons_succ, List.getElem_cons_zero, List.setIfInBounds_toArray, List.set_cons_zero, List.set_cons_succ]
  refine wpAnyH_take (i := 7) (v := .pointer (some ⟨A, 2, none⟩)) rfl (by kernel_rfl) (by kernel_rfl) (by kernel_rfl) (fun _ _ _ h => h) (Or.inl ⟨by rfl, ?hyy⟩) (by assumption) ?_
  case hyy => (intro w' hSw; (try dsimp only at hSw); go_simp)
  try simp only [Act.put, List.getElem_toArray, List.getElem_cons_succ, List.getElem_cons_zero, List.setIfInBounds_toArray, List.set_cons_zero, List.set_cons_succ]
  refine wpAnyH_take (i := 8) (v := .string (bs x2)) rfl (by kernel_rfl) (by kernel_rfl) (by kernel_rfl) (fun _ _ _ h => h) (Or.inl ⟨by rfl, ?hyy⟩) (by assumption) ?_
  case hyy => (intro w' hSw; (try dsimp only at hSw); go_simp)
  try simp only [Act.put, List.getElem_toArray, List.getElem_cons_succ, List.getElem_cons_zero, List.setIfInBounds_toArray, List.set_cons_zero, List.set_cons_succ]
  refine wpAnyH_ready (rs := [4, 11]) (by kernel_rfl) (by simp) ?_
  refine AllReadyH.cons rfl (fun K0_0 hK0_0 => ?_) (AllReadyH.cons rfl (fun K0_1 hK0_1 => ?_) AllReadyH.nil)
  · go_simp
    refine (N1.out _).mono ?_
    rintro e w50 ⟨rfl, hb50⟩
    have hz0 := bl_via (bl_drew (bl_refl _)) hb50
    refine hK0_0.out _ _ ⟨cl_kept hz0 e1, cl_kept hz0 e2⟩ (fun _ => ?_)
    try simp only [Act.put, List.getElem_toArray, List.getElem_cons_succ, List.getElem_cons_zero, List.setIfInBounds_toArray, List.set_cons_zero, List.set_cons_succ]
    refine wpAnyH_ready (rs := [9, 11]) (by kernel_rfl) (by simp) ?_
    refine AllReadyH.cons rfl (fun K1_0 hK1_0 => ?_) (AllReadyH.cons rfl (fun K1_1 hK1_1 => ?_) AllReadyH.nil)
    · go_simp
      refine (NX.out _ (cl_kept (hz0) hc3)).mono ?_
      rintro e w6 ⟨rfl, hbb⟩
      have HA6 : Hid (Below w.heap.size w w6) := bl_via HB3.out (bl_via (hz0) hbb)
      simp +zetaDelta [bodyPost, PF]
      exact HA6.out
    · go_simp
      refine hK1_1.out _ _ ⟨cl_kept (bl_alloc (hz0)) e1, cl_kept (bl_alloc (hz0)) e2⟩ (fun _ => ?_)
      try simp only [Act.put, List.getElem_toArray, List.getElem_cons_succ, List.getElem_cons_zero, List.setIfInBounds_toArray, List.set_cons_zero, List.set_cons_succ]
      refine wpAnyH_ready (rs := [9]) (by kernel_rfl) (by simp) ?_
      refine AllReadyH.cons rfl (fun K2_0 hK2_0 => ?_) AllReadyH.nil
      go_simp
      refine (NX.out _ (cl_kept (bl_alloc (hz0)) hc3)).mono ?_
      rintro e w6 ⟨rfl, hbb⟩
      have HA6 : Hid (Below w.heap.size w w6) := bl_via HB3.out (bl_via (bl_alloc (hz0)) hbb)
      simp +zetaDelta [bodyPost, PF]
      exact HA6.out
  · go_simp
    refine hK0_1.out _ _ ⟨cl_kept (bl_alloc (bl_drew (bl_refl _))) e1, cl_kept (bl_alloc (bl_drew (bl_refl _))) e2⟩ (fun _ => ?_)
    try simp only [Act.put, List.getElem_toArray, List.getElem_cons_succ, List.getElem_cons_zero, List.setIfInBounds_toArray, List.set_cons_zero, List.set_cons_succ]
    refine wpAnyH_ready (rs := [4]) (by kernel_rfl) (by simp) ?_
    refine AllReadyH.cons rfl (fun K3_0 hK3_0 => ?_) AllReadyH.nil
    go_simp
    refine (N1.out _).mono ?_
    rintro e w53 ⟨rfl, hb53⟩
    have hz3 := bl_via (bl_alloc (bl_drew (bl_refl _))) hb53
    refine hK3_0.out _ _ ⟨cl_kept hz3 e1, cl_kept hz3 e2⟩ (fun _ => ?_)
    try simp only [Act.put, List.getElem_toArray, List.getElem_cons_succ, List.getElem_cons_zero, List.setIfInBounds_toArray, List.set_cons_zero, List.set_cons_succ]
    refine wpAnyH_ready (rs := [9]) (by kernel_rfl) (by simp) ?_
    refine AllReadyH.cons rfl (fun K4_0 hK4_0 => ?_) AllReadyH.nil
    go_simp
    refine (NX.out _ (cl_kept (hz3) hc3)).mono ?_
    rintro e w6 ⟨rfl, hbb⟩
    have HA6 : Hid (Below w.heap.size w w6) := bl_via HB3.out (bl_via (hz3) hbb)
    simp +zetaDelta [bodyPost, PF]
    exact HA6.out
end Go.Proofs.YtehmoacggikfmaaGreatDoor
