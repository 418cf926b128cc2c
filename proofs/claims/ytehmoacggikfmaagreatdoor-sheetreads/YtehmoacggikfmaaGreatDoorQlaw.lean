/- The first line: the sizes. -/
import Derived.Test.YtehmoacggikfmaaGreatDoorQlau
namespace Go.Proofs.YtehmoacggikfmaaGreatDoor
open Go.RowKit

set_option maxRecDepth 100000 in
theorem maySide_yes (n : Int) (w : World) (h1 : 1 ≤ n) (h8 : n ≤ 8) : Calls Tryz.prog 25 #[.int .i64 n] w fun e w' => e = .returned (.bool true) ∧ w' = w := by
  go_enter Tryz.func25, Tryz.ntmps25
  go_wp2_with (fail)
  go_ret
  exact ⟨rfl, rfl⟩
set_option maxRecDepth 100000 in
theorem maySide_no (n : Int) (w : World) (h : n < 1 ∨ 8 < n) : Calls Tryz.prog 25 #[.int .i64 n] w fun e w' => e = .returned (.bool false) ∧ w' = w := by
  by_cases h1 : 1 ≤ n
  · have h8 : ¬ n ≤ 8 := by omega
    clear h
    go_enter Tryz.func25, Tryz.ntmps25
    go_wp2_with (fail)
    go_ret
    exact ⟨rfl, rfl⟩
  · clear h
    go_enter Tryz.func25, Tryz.ntmps25
    go_wp2_with (fail)
    go_ret
    exact ⟨rfl, rfl⟩
/-- Some cells of one block have changed, and nothing else that lay. -/
def Chg (w wx : World) (rb : Nat) (os : List Nat) : Prop := w.grownBy wx (some rb) ∧ (∀ o, o ∉ os → wx.cell? ⟨rb, o, none⟩ = w.cell? ⟨rb, o, none⟩) ∧ (∀ o, wx.frozen? ⟨rb, o, none⟩ = w.frozen? ⟨rb, o, none⟩) ∧ rb < w.heap.size
theorem Adv.chg {w wx : World} {rb : Nat} {a : Int} (h : Adv w wx rb a) (hl : rb < w.heap.size) : Chg w wx rb [1] := ⟨h.1, fun o ho => h.2.2.1 o (by simpa using ho), h.2.2.2, hl⟩
theorem Chg.kept {w wr wx : World} {rb : Nat} {os : List Nat} (h : Chg w wr rb os) (hb : Below wr.heap.size wr wx) : Chg w wx rb os := by
  have hl : rb < wr.heap.size := Nat.lt_of_lt_of_le h.2.2.2 h.1.size
  exact ⟨gb_below h.1 hb, fun o ho => (hb.cell (p := ⟨rb, o, none⟩) hl).trans (h.2.1 o ho), fun o => (hb.frozen (p := ⟨rb, o, none⟩) hl).trans (h.2.2.1 o), h.2.2.2⟩
theorem Chg.set {w wx : World} {rb : Nat} {os : List Nat} (h : Chg w wx rb os) (o : Nat) (v : Value) : Chg w (wx.setCell ⟨rb, o, none⟩ v) rb (o :: os) := by
  refine ⟨gb_then h.1 (grown_cell wx rb o _), fun k hk => ?_, fun k => ?_, h.2.2.2⟩
  · have h1 : k ≠ o ∧ k ∉ os := by simpa using hk
    rw [← h.2.1 k h1.2]
    simp [go_sem]
  · rw [← h.2.2.1 k]
    simp [go_sem]
theorem Chg.mono {w wx : World} {rb : Nat} {os ps : List Nat} (h : Chg w wx rb os) (hs : ∀ o ∈ os, o ∈ ps) : Chg w wx rb ps := ⟨h.1, fun o ho => h.2.1 o (fun e => ho (hs o e)), h.2.2⟩
theorem Chg.then {w wr wx : World} {rb : Nat} {os ps : List Nat} (h : Chg w wr rb os) (k : Chg wr wx rb ps) : Chg w wx rb (os ++ ps) :=
  ⟨gb_then h.1 k.1, fun o ho => by
    have h1 : o ∉ os ∧ o ∉ ps := by simpa using ho
    exact (k.2.1 o h1.2).trans (h.2.1 o h1.1), fun o => (k.2.2.1 o).trans (h.2.2.1 o), h.2.2.2⟩
/-- Words that a line has: a world behind it. -/
def WT (w w1 : World) (rb A : Nat) (n : Int) (ws : List (List UInt8)) : Prop := w.heap.size ≤ A ∧ SR w1 A ws ∧ Adv w w1 rb n
abbrev C22S (w : World) (rb : Nat) (n : Int) (ws : List (List UInt8)) : Prop := Calls Tryz.prog 22 #[.pointer (some ⟨rb, 0, none⟩)] w fun e w' => ∃ A, e = .returned (.slice (some ⟨A, 0, none⟩) ws.length ws.length) ∧ WT w w' rb A n ws
abbrev C22N (w : World) (rb : Nat) (n : Int) : Prop := Calls Tryz.prog 22 #[.pointer (some ⟨rb, 0, none⟩)] w fun e w' => e = .returned (.slice none 0 0) ∧ Adv w w' rb n

set_option maxRecDepth 100000 in
set_option maxHeartbeats 1600000 in
theorem readSize_none (rb : Nat) (n : Int) (w : World) (hC : C22N w rb n) : Calls Tryz.prog 9 #[.pointer (some ⟨rb, 0, none⟩)] w fun e w' => e = PF 1 n ∧ w.grownBy w' (some rb) := by
  have C : Hid (C22N w rb n) := hC
  clear hC
  go_enter Tryz.func9, Tryz.ntmps9
  go_wp2_with (first
    | (go_at_call 22; (with_reducible refine Calls.mono C.out ?_); rintro e w1 ⟨rfl, hA⟩; have hc := hA.2.1; have HA : Hid (Adv w w1 rb n) := hA; clear hA)
    | (go_at_call 23; (with_reducible refine (refuse_yes _ _ _ _ hc).mono ?_); rintro e w2 ⟨rfl, hw2⟩; have hw2b := hw2.symm; clear hw2; subst hw2b)
    | fail)
  simp [bodyPost, PF]
  exact HA.out.1
set_option maxRecDepth 100000 in
set_option maxHeartbeats 1600000 in
theorem readSize_many (rb : Nat) (n : Int) (ws : List (List UInt8)) (w : World) (hC : C22S w rb n ws) (h3 : ws.length ≠ 3) : Calls Tryz.prog 9 #[.pointer (some ⟨rb, 0, none⟩)] w fun e w' => e = PF 1 n ∧ w.grownBy w' (some rb) := by
  have C : Hid (C22S w rb n ws) := hC
  have k3 : ¬ (ws.length : Int) = 3 := by omega
  clear hC h3
  go_enter Tryz.func9, Tryz.ntmps9
  go_wp2_with (first
    | (go_at_call 22; (with_reducible refine Calls.mono C.out ?_); rintro e w1 ⟨A, rfl, hA⟩; have hc := hA.2.2.2.1; have HA : Hid (WT w w1 rb A n ws) := hA; clear hA)
    | (go_at_call 23; (with_reducible refine (refuse_yes _ _ _ _ hc).mono ?_); rintro e w2 ⟨rfl, hw2⟩; have hw2b := hw2.symm; clear hw2; subst hw2b)
    | fail)
  simp [bodyPost, PF]
  exact HA.out.2.2.1
theorem str_beq (x l : List UInt8) : ((bs x).toList == l) = decide (x = l) := by
  rw [bs_toList]
  by_cases h : x = l <;> simp [h]
set_option maxRecDepth 100000 in
set_option maxHeartbeats 1600000 in
theorem readSize_word (rb : Nat) (n : Int) (x y z : List UInt8) (w : World) (hC : C22S w rb n [x, y, z]) (h3 : x ≠ sheetW) : Calls Tryz.prog 9 #[.pointer (some ⟨rb, 0, none⟩)] w fun e w' => e = PF 1 n ∧ w.grownBy w' (some rb) := by
  have C : Hid (C22S w rb n [x, y, z]) := hC
  have hx : ((bs x).toList == [115, 104, 101, 101, 116]) = false := by rw [str_beq]; exact decide_eq_false h3
  clear hC h3
  go_enter Tryz.func9, Tryz.ntmps9
  go_wp2_with (first
    | (go_at_call 22; (with_reducible refine Calls.mono C.out ?_); rintro e w1 ⟨A, rfl, hA⟩; have hc := hA.2.2.2.1; have s0 : w1.cell? ⟨A, 0, none⟩ = some (.string (bs x)) := hA.2.1 0 (by simp); have s1 : w1.cell? ⟨A, 1, none⟩ = some (.string (bs y)) := hA.2.1 1 (by simp); have s2 : w1.cell? ⟨A, 2, none⟩ = some (.string (bs z)) := hA.2.1 2 (by simp); have HA : Hid (WT w w1 rb A n [x, y, z]) := hA; clear hA)
    | (go_at_call 23; (with_reducible refine (refuse_yes _ _ _ _ hc).mono ?_); rintro e w2 ⟨rfl, hw2⟩; have hw2b := hw2.symm; clear hw2; subst hw2b)
    | fail)
  simp [bodyPost, PF]
  exact HA.out.2.2.1
set_option maxRecDepth 100000 in
set_option maxHeartbeats 3200000 in
theorem readSize_numy (rb : Nat) (n : Int) (y z : List UInt8) (w : World) (hC : C22S w rb n [sheetW, y, z]) (hn : num y = none) : Calls Tryz.prog 9 #[.pointer (some ⟨rb, 0, none⟩)] w fun e w' => e = PF 1 n ∧ w.grownBy w' (some rb) := by
  have C : Hid (C22S w rb n [sheetW, y, z]) := hC
  have hx : ((bs sheetW).toList == [115, 104, 101, 101, 116]) = true := by rw [str_beq]; rfl
  have N1 : Hid (∀ (W : World), W.cell? ⟨rb, 1, none⟩ = some (.int .i64 n) → Calls Tryz.prog 24 #[.pointer (some ⟨rb, 0, none⟩), .string (bs y)] W fun e w' => e = PF 1 n ∧ Below W.heap.size W w') := fun W h => rnumber_no rb (bs y) n W hn h
  clear hC hn
  go_enter Tryz.func9, Tryz.ntmps9
  go_wp2_with (first
    | (go_at_call 22; (with_reducible refine Calls.mono C.out ?_); rintro e w1 ⟨A, rfl, hA⟩; have hc := hA.2.2.2.1; have s0 : w1.cell? ⟨A, 0, none⟩ = some (.string (bs sheetW)) := hA.2.1 0 (by simp); have s1 : w1.cell? ⟨A, 1, none⟩ = some (.string (bs y)) := hA.2.1 1 (by simp); have s2 : w1.cell? ⟨A, 2, none⟩ = some (.string (bs z)) := hA.2.1 2 (by simp); have HA : Hid (WT w w1 rb A n [sheetW, y, z]) := hA; clear hA)
    | (go_at_call 23; (with_reducible refine (refuse_no _ _ _).mono ?_); rintro e w2 ⟨rfl, hw2⟩; have hw2b := hw2.symm; clear hw2; subst hw2b)
    | fail)
  refine wp_region_held_drew (S := fun w' => w'.cell? ⟨A, 1, none⟩ = some (.string (bs y)) ∧ w'.cell? ⟨A, 2, none⟩ = some (.string (bs z))) (by kernel_rfl) ⟨dr_old s1, dr_old s2⟩ (fun hHeld => ?_)
  try simp only [Act.put, List.getElem_toArray, List.getElem_cons_succ, List.getElem_cons_zero, List.setIfInBounds_toArray, List.set_cons_zero, List.set_cons_succ]
  refine wpAnyH_take (i := 0) (v := .pointer (some ⟨rb, 0, none⟩)) rfl (by kernel_rfl) (by kernel_rfl) (by kernel_rfl) (fun _ _ _ h => h) (Or.inl ⟨by rfl, ?hyy⟩) (by assumption) ?_
  case hyy => (intro w' hSw; (try dsimp only at hSw); go_simp)
  try simp only [Act.put, List.getElem_toArray, List.getElem_cons_zero, List.setIfInBounds_toArray, List.set_cons_zero, List.set_cons_succ]
  refine wpAnyH_take (i := 1) (v := .pointer (some ⟨rb, 0, none⟩)) rfl (by kernel_rfl) (by kernel_rfl) (by kernel_rfl) (fun _ _ _ h => h) (Or.inl ⟨by rfl, ?hyy⟩) (by assumption) ?_
  case hyy => (intro w' hSw; (try dsimp only at hSw); go_simp)
  try simp only [Act.put, List.getElem_toArray, List.getElem_cons_succ, List.getElem_cons_zero, List.setIfInBounds_toArray, List.set_cons_zero, List.set_cons_succ]
  refine wpAnyH_take (i := 2) (v := .pointer (some ⟨rb, 0, none⟩)) rfl (by kernel_rfl) (by kernel_rfl) (by kernel_rfl) (fun _ _ _ h => h) (Or.inl ⟨by rfl, ?hyy⟩) (by assumption) ?_
  case hyy => (intro w' hSw; (try dsimp only at hSw); go_simp)
  try simp only [Act.put, List.getElem_toArray, List.getElem_cons_succ, List.getElem_cons_zero, List.setIfInBounds_toArray, List.set_cons_zero, List.set_cons_succ]
  refine wpAnyH_take (i := 3) (v := .slice (some ⟨A, 0, none⟩) 3 3) rfl (by kernel_rfl) (by kernel_rfl) (by kernel_rfl) (fun _ _ _ h => h) (Or.inl ⟨by rfl, ?hyy⟩) (by assumption) ?_
  case hyy => (intro w' hSw; (try dsimp only at hSw); go_simp)
  try simp only [Act.put, List.getElem_toArray, List.getElem_cons_succ, List.getElem_cons_zero, List.setIfInBounds_toArray, List.set_cons_zero, List.set_cons_succ]
  refine wpAnyH_take (i := 4) (v := .pointer (some ⟨A, 1, none⟩)) rfl (by kernel_rfl) (by kernel_rfl) (by kernel_rfl) (fun _ _ _ h => h) (Or.inl ⟨by rfl, ?hyy⟩) (by assumption) ?_
  case hyy => (intro w' hSw; (try dsimp only at hSw); go_simp)
  try simp only [Act.put, List.getElem_toArray, List.getElem_cons_succ, List.getElem_cons_zero, List.setIfInBounds_toArray, List.set_cons_zero, List.set_cons_succ]
  refine wpAnyH_take (i := 5) (v := .string (bs y)) rfl (by kernel_rfl) (by kernel_rfl) (by kernel_rfl) (fun _ _ _ h => h) (Or.inl ⟨by rfl, ?hyy⟩) (by assumption) ?_
  case hyy => (intro w' hSw; (try dsimp only at hSw); go_simp)
  try simp only [Act.put, List.getElem_toArray, List.getElem_cons_succ, List.getElem_cons_zero, List.setIfInBounds_toArray, List.set_cons_zero, List.set_cons_succ]
  refine wpAnyH_take (i := 7) (v := .pointer (some ⟨rb, 0, none⟩)) rfl (by kernel_rfl) (by kernel_rfl) (by kernel_rfl) (fun _ _ _ h => h) (Or.inl ⟨by rfl, ?hyy⟩) (by assumption) ?_
  case hyy => (intro w' hSw; (try dsimp only at hSw); go_simp)
  try simp only [Act.put, List.getElem_toArray, List.getElem_cons_succ, List.getElem_cons_zero, List.setIfInBounds_toArray, List.set_cons_zero, List.set_cons_succ]
  refine wpAnyH_take (i := 8) (v := .slice (some ⟨A, 0, none⟩) 3 3) rfl (by kernel_rfl) (by kernel_rfl) (by kernel_rfl) (fun _ _ _ h => h) (Or.inl ⟨by rfl, ?hyy⟩) (by assumption) ?_
  case hyy => (intro w' hSw; (try dsimp only at hSw); go_simp)
  try simp only [Act.put, List.getElem_toArray, List.getElem_cons_succ, List.getElem_cons_zero, List.setIfInBounds_toArray, List.set_cons_zero, List.set_cons_succ]
  refine wpAnyH_take (i := 9) (v := .pointer (some ⟨A, 2, none⟩)) rfl (by kernel_rfl) (by kernel_rfl) (by kernel_rfl) (fun _ _ _ h => h) (Or.inl ⟨by rfl, ?hyy⟩) (by assumption) ?_
  case hyy => (intro w' hSw; (try dsimp only at hSw); go_simp)
  try simp only [Act.put, List.getElem_toArray, List.getElem_cons_succ, List.getElem_cons_zero, List.setIfInBounds_toArray, List.set_cons_zero, List.set_cons_succ]
  refine wpAnyH_take (i := 10) (v := .string (bs z)) rfl (by kernel_rfl) (by kernel_rfl) (by kernel_rfl) (fun _ _ _ h => h) (Or.inl ⟨by rfl, ?hyy⟩) (by assumption) ?_
  case hyy => (intro w' hSw; (try dsimp only at hSw); go_simp)
  try simp only [Act.put, List.getElem_toArray, List.getElem_cons_succ, List.getElem_cons_zero, List.setIfInBounds_toArray, List.set_cons_zero, List.set_cons_succ]
  refine wpAnyH_ready (rs := [6]) (by kernel_rfl) (by simp) ?_
  refine AllReadyH.cons rfl (fun K hK => ?_) AllReadyH.nil
  go_simp
  refine (N1.out _ (dr_old hc)).mono ?_
  rintro e w6 ⟨rfl, hb⟩
  have HA6 : Hid (Adv w w6 rb n) := HA.out.2.2.kept (bl_via (bl_drew (bl_refl _)) hb)
  simp +zetaDelta [bodyPost, PF]
  exact HA6.out.1
set_option maxRecDepth 100000 in
set_option maxHeartbeats 3200000 in
theorem readSize_numz (rb : Nat) (n : Int) (y z : List UInt8) (Y : Nat) (w : World) (hC : C22S w rb n [sheetW, y, z]) (hn : num z = none) (hy : num y = some Y) : Calls Tryz.prog 9 #[.pointer (some ⟨rb, 0, none⟩)] w fun e w' => e = PF 1 n ∧ w.grownBy w' (some rb) := by
  have C : Hid (C22S w rb n [sheetW, y, z]) := hC
  have hx : ((bs sheetW).toList == [115, 104, 101, 101, 116]) = true := by rw [str_beq]; rfl
  have N1 : Hid (∀ (W : World), W.cell? ⟨rb, 1, none⟩ = some (.int .i64 n) → Calls Tryz.prog 24 #[.pointer (some ⟨rb, 0, none⟩), .string (bs z)] W fun e w' => e = PF 1 n ∧ Below W.heap.size W w') := fun W h => rnumber_no rb (bs z) n W hn h
  have N0 : Hid (∀ (W : World), Calls Tryz.prog 24 #[.pointer (some ⟨rb, 0, none⟩), .string (bs y)] W fun e w' => e = .returned (.int .i64 (Y : Int)) ∧ Below W.heap.size W w') := fun W => rnumber_yes rb (bs y) Y W hy
  clear hC hn hy
  go_enter Tryz.func9, Tryz.ntmps9
  go_wp2_with (first
    | (go_at_call 22; (with_reducible refine Calls.mono C.out ?_); rintro e w1 ⟨A, rfl, hA⟩; have hc := hA.2.2.2.1; have s0 : w1.cell? ⟨A, 0, none⟩ = some (.string (bs sheetW)) := hA.2.1 0 (by simp); have s1 : w1.cell? ⟨A, 1, none⟩ = some (.string (bs y)) := hA.2.1 1 (by simp); have s2 : w1.cell? ⟨A, 2, none⟩ = some (.string (bs z)) := hA.2.1 2 (by simp); have HA : Hid (WT w w1 rb A n [sheetW, y, z]) := hA; clear hA)
    | (go_at_call 23; (with_reducible refine (refuse_no _ _ _).mono ?_); rintro e w2 ⟨rfl, hw2⟩; have hw2b := hw2.symm; clear hw2; subst hw2b)
    | fail)
  refine wp_region_held_drew (S := fun w' => w'.cell? ⟨A, 1, none⟩ = some (.string (bs y)) ∧ w'.cell? ⟨A, 2, none⟩ = some (.string (bs z))) (by kernel_rfl) ⟨dr_old s1, dr_old s2⟩ (fun hHeld => ?_)
  try simp only [Act.put, List.getElem_toArray, List.getElem_cons_succ, List.getElem_cons_zero, List.setIfInBounds_toArray, List.set_cons_zero, List.set_cons_succ]
  refine wpAnyH_take (i := 0) (v := .pointer (some ⟨rb, 0, none⟩)) rfl (by kernel_rfl) (by kernel_rfl) (by kernel_rfl) (fun _ _ _ h => h) (Or.inl ⟨by rfl, ?hyy⟩) (by assumption) ?_
  case hyy => (intro w' hSw; (try dsimp only at hSw); go_simp)
  try simp only [Act.put, List.getElem_toArray, List.getElem_cons_zero, List.setIfInBounds_toArray, List.set_cons_zero, List.set_cons_succ]
  refine wpAnyH_take (i := 1) (v := .pointer (some ⟨rb, 0, none⟩)) rfl (by kernel_rfl) (by kernel_rfl) (by kernel_rfl) (fun _ _ _ h => h) (Or.inl ⟨by rfl, ?hyy⟩) (by assumption) ?_
  case hyy => (intro w' hSw; (try dsimp only at hSw); go_simp)
  try simp only [Act.put, List.getElem_toArray, List.getElem_cons_succ, List.getElem_cons_zero, List.setIfInBounds_toArray, List.set_cons_zero, List.set_cons_succ]
  refine wpAnyH_take (i := 2) (v := .pointer (some ⟨rb, 0, none⟩)) rfl (by kernel_rfl) (by kernel_rfl) (by kernel_rfl) (fun _ _ _ h => h) (Or.inl ⟨by rfl, ?hyy⟩) (by assumption) ?_
  case hyy => (intro w' hSw; (try dsimp only at hSw); go_simp)
  try simp only [Act.put, List.getElem_toArray, List.getElem_cons_succ, List.getElem_cons_zero, List.setIfInBounds_toArray, List.set_cons_zero, List.set_cons_succ]
  refine wpAnyH_take (i := 3) (v := .slice (some ⟨A, 0, none⟩) 3 3) rfl (by kernel_rfl) (by kernel_rfl) (by kernel_rfl) (fun _ _ _ h => h) (Or.inl ⟨by rfl, ?hyy⟩) (by assumption) ?_
  case hyy => (intro w' hSw; (try dsimp only at hSw); go_simp)
  try simp only [Act.put, List.getElem_toArray, List.getElem_cons_succ, List.getElem_cons_zero, List.setIfInBounds_toArray, List.set_cons_zero, List.set_cons_succ]
  refine wpAnyH_take (i := 4) (v := .pointer (some ⟨A, 1, none⟩)) rfl (by kernel_rfl) (by kernel_rfl) (by kernel_rfl) (fun _ _ _ h => h) (Or.inl ⟨by rfl, ?hyy⟩) (by assumption) ?_
  case hyy => (intro w' hSw; (try dsimp only at hSw); go_simp)
  try simp only [Act.put, List.getElem_toArray, List.getElem_cons_succ, List.getElem_cons_zero, List.setIfInBounds_toArray, List.set_cons_zero, List.set_cons_succ]
  refine wpAnyH_take (i := 5) (v := .string (bs y)) rfl (by kernel_rfl) (by kernel_rfl) (by kernel_rfl) (fun _ _ _ h => h) (Or.inl ⟨by rfl, ?hyy⟩) (by assumption) ?_
  case hyy => (intro w' hSw; (try dsimp only at hSw); go_simp)
  try simp only [Act.put, List.getElem_toArray, List.getElem_cons_succ, List.getElem_cons_zero, List.setIfInBounds_toArray, List.set_cons_zero, List.set_cons_succ]
  refine wpAnyH_take (i := 7) (v := .pointer (some ⟨rb, 0, none⟩)) rfl (by kernel_rfl) (by kernel_rfl) (by kernel_rfl) (fun _ _ _ h => h) (Or.inl ⟨by rfl, ?hyy⟩) (by assumption) ?_
  case hyy => (intro w' hSw; (try dsimp only at hSw); go_simp)
  try simp only [Act.put, List.getElem_toArray, List.getElem_cons_succ, List.getElem_cons_zero, List.setIfInBounds_toArray, List.set_cons_zero, List.set_cons_succ]
  refine wpAnyH_take (i := 8) (v := .slice (some ⟨A, 0, none⟩) 3 3) rfl (by kernel_rfl) (by kernel_rfl) (by kernel_rfl) (fun _ _ _ h => h) (Or.inl ⟨by rfl, ?hyy⟩) (by assumption) ?_
  case hyy => (intro w' hSw; (try dsimp only at hSw); go_simp)
  try simp only [Act.put, List.getElem_toArray, List.getElem_cons_succ, List.getElem_cons_zero, List.setIfInBounds_toArray, List.set_cons_zero, List.set_cons_succ]
  refine wpAnyH_take (i := 9) (v := .pointer (some ⟨A, 2, none⟩)) rfl (by kernel_rfl) (by kernel_rfl) (by kernel_rfl) (fun _ _ _ h => h) (Or.inl ⟨by rfl, ?hyy⟩) (by assumption) ?_
  case hyy => (intro w' hSw; (try dsimp only at hSw); go_simp)
  try simp only [Act.put, List.getElem_toArray, List.getElem_cons_succ, List.getElem_cons_zero, List.setIfInBounds_toArray, List.set_cons_zero, List.set_cons_succ]
  refine wpAnyH_take (i := 10) (v := .string (bs z)) rfl (by kernel_rfl) (by kernel_rfl) (by kernel_rfl) (fun _ _ _ h => h) (Or.inl ⟨by rfl, ?hyy⟩) (by assumption) ?_
  case hyy => (intro w' hSw; (try dsimp only at hSw); go_simp)
  try simp only [Act.put, List.getElem_toArray, List.getElem_cons_succ, List.getElem_cons_zero, List.setIfInBounds_toArray, List.set_cons_zero, List.set_cons_succ]
  refine wpAnyH_ready (rs := [6]) (by kernel_rfl) (by simp) ?_
  refine AllReadyH.cons rfl (fun K hK => ?_) AllReadyH.nil
  go_simp
  refine (N0.out _).mono ?_
  rintro e w5 ⟨rfl, hb⟩
  have hb5 := bl_via (bl_drew (bl_refl _)) hb
  refine hK.out _ _ ⟨cl_kept hb5 s1, cl_kept hb5 s2⟩ (fun hHeld2 => ?_)
  try simp only [Act.put, List.getElem_toArray, List.getElem_cons_succ, List.getElem_cons_zero, List.setIfInBounds_toArray, List.set_cons_zero, List.set_cons_succ]
  have rd : Region.ready .any #[] #[] = [] := rfl
  refine wpAnyH_ready (rs := [11]) (by kernel_rfl) (by simp) ?_
  refine AllReadyH.cons rfl (fun K2 hK2 => ?_) AllReadyH.nil
  go_simp
  refine (N1.out _ (cl_kept hb5 hc)).mono ?_
  rintro e w6 ⟨rfl, hb6⟩
  have HA6 : Hid (Adv w w6 rb n) := HA.out.2.2.kept (bl_via hb5 hb6)
  simp +zetaDelta [bodyPost, PF]
  exact HA6.out.1
set_option maxRecDepth 100000 in
set_option maxHeartbeats 6400000 in
theorem readSize_ok (rb : Nat) (n : Int) (y z : List UInt8) (Y Z : Nat) (v2 v3 : Value) (w : World) (hC : C22S w rb n [sheetW, y, z]) (hy : num y = some Y) (hz : num z = some Z) (hc2 : w.cell? ⟨rb, 2, none⟩ = some v2) (hc3 : w.cell? ⟨rb, 3, none⟩ = some v3) (hf : ∀ o, w.frozen? ⟨rb, o, none⟩ = false) (hY : 1 ≤ Y ∧ Y ≤ 8) (hZ : 1 ≤ Z ∧ Z ≤ 8) : Calls Tryz.prog 9 #[.pointer (some ⟨rb, 0, none⟩)] w fun e w' => e = .returned (.tuple #[]) ∧ Chg w w' rb [3, 2, 1] ∧ w'.cell? ⟨rb, 1, none⟩ = some (.int .i64 n) ∧ w'.cell? ⟨rb, 2, none⟩ = some (.int .i64 (Y : Int)) ∧ w'.cell? ⟨rb, 3, none⟩ = some (.int .i64 (Z : Int)) := by
  have C : Hid (C22S w rb n [sheetW, y, z]) := hC
  have hx : ((bs sheetW).toList == [115, 104, 101, 101, 116]) = true := by rw [str_beq]; rfl
  have N0 : Hid (∀ (W : World), Calls Tryz.prog 24 #[.pointer (some ⟨rb, 0, none⟩), .string (bs y)] W fun e w' => e = .returned (.int .i64 (Y : Int)) ∧ Below W.heap.size W w') := fun W => rnumber_yes rb (bs y) Y W hy
  have N1 : Hid (∀ (W : World), Calls Tryz.prog 24 #[.pointer (some ⟨rb, 0, none⟩), .string (bs z)] W fun e w' => e = .returned (.int .i64 (Z : Int)) ∧ Below W.heap.size W w') := fun W => rnumber_yes rb (bs z) Z W hz
  have HC2 : Hid (w.cell? ⟨rb, 2, none⟩ = some v2 ∧ w.cell? ⟨rb, 3, none⟩ = some v3) := ⟨hc2, hc3⟩
  have HF : Hid (∀ o, w.frozen? ⟨rb, o, none⟩ = false) := hf
  have HLT : Hid (rb < w.heap.size) := World.block_lt_of_cell? _ _ hc2
  have M1 : Hid (∀ W : World, Calls Tryz.prog 25 #[.int .i64 (Y : Int)] W fun e w' => e = .returned (.bool true) ∧ w' = W) := fun W => maySide_yes _ W (by omega) (by omega)
  have M2 : Hid (∀ W : World, Calls Tryz.prog 25 #[.int .i64 (Z : Int)] W fun e w' => e = .returned (.bool true) ∧ w' = W) := fun W => maySide_yes _ W (by omega) (by omega)
  clear hC hy hz hc2 hc3 hf hY hZ
  go_enter Tryz.func9, Tryz.ntmps9
  go_wp2_with (first
    | (go_at_call 22; (with_reducible refine Calls.mono C.out ?_); rintro e w1 ⟨A, rfl, hA⟩; have hc := hA.2.2.2.1; have s1 : w1.cell? ⟨A, 1, none⟩ = some (.string (bs y)) := hA.2.1 1 (by simp); have s2 : w1.cell? ⟨A, 2, none⟩ = some (.string (bs z)) := hA.2.1 2 (by simp); have s0 : w1.cell? ⟨A, 0, none⟩ = some (.string (bs sheetW)) := hA.2.1 0 (by simp); have c2 : w1.cell? ⟨rb, 2, none⟩ = some v2 := (hA.2.2.2.2.1 2 (by decide)).trans HC2.out.1; have c3 : w1.cell? ⟨rb, 3, none⟩ = some v3 := (hA.2.2.2.2.1 3 (by decide)).trans HC2.out.2; have f2 : w1.frozen? ⟨rb, 2, none⟩ = false := (hA.2.2.2.2.2 2).trans (HF.out 2); have f3 : w1.frozen? ⟨rb, 3, none⟩ = false := (hA.2.2.2.2.2 3).trans (HF.out 3); have HA : Hid (WT w w1 rb A n [sheetW, y, z]) := hA; clear hA)
    | (go_at_call 23; (with_reducible refine (refuse_no _ _ _).mono ?_); rintro e w2 ⟨rfl, hw2⟩; have hw2b := hw2.symm; clear hw2; subst hw2b)
    | fail)
  go_region_held3 (fun w' => w'.cell? ⟨A, 1, none⟩ = some (.string (bs y)) ∧ w'.cell? ⟨A, 2, none⟩ = some (.string (bs z)))
    (first | exact ⟨dr_old s1, dr_old s2⟩ | exact ⟨t1, t2⟩ | exact ⟨r1, r2⟩ | (refine ⟨?_, ?_⟩ <;> (simp [go_sem, *]; done)))
    (first
      | ((go_at_call 24; (with_reducible refine (N0.out _).mono ?_); rintro e w5 ⟨rfl, hb⟩; have hb5 := bl_via (bl_drew (bl_refl _)) hb; clear hb; have t1 := cl_kept hb5 s1; have t2 := cl_kept hb5 s2; have HB5 : Hid (Below w1.heap.size w1 w5) := hb5; clear hb5))
      | ((go_at_call 24; (with_reducible refine (N1.out _).mono ?_); rintro e w6 ⟨rfl, hb⟩; have hb6 : Below w1.heap.size w1 w6 := bl_via HB5.out hb; clear hb; have r1 := cl_kept hb6 s1; have r2 := cl_kept hb6 s2; have rc := cl_kept hb6 hc; have rc2 := cl_kept hb6 c2; have rc3 := cl_kept hb6 c3; have rf2 : w6.frozen? ⟨rb, 2, none⟩ = false := (hb6.frozen (p := ⟨rb, 2, none⟩) (World.block_lt_of_cell? _ _ c2)).trans f2; have rf3 : w6.frozen? ⟨rb, 3, none⟩ = false := (hb6.frozen (p := ⟨rb, 3, none⟩) (World.block_lt_of_cell? _ _ c3)).trans f3; have hne : ¬ A = rb := (by have := HA.out.1; have := HLT.out; omega); have hne2 : ¬ rb = A := (by have := HA.out.1; have := HLT.out; omega); have HA6 : Hid (Chg w w6 rb [1] ∧ w6.cell? ⟨rb, 1, none⟩ = some (.int .i64 n)) := ⟨(HA.out.2.2.chg HLT.out).kept hb6, rc⟩; clear hb6))
      | fail)
  clear s0 s1 s2 c2 c3 f2 f3 t1 t2 hc
  have hcn : ((w6.setCell ⟨rb, 2, none⟩ (.int .i64 (Y : Int))).setCell ⟨rb, 3, none⟩ (.int .i64 (Z : Int))).cell? ⟨rb, 1, none⟩ = some (.int .i64 n) := by simp [go_sem, rc]
  go_wp2_with (first
    | (go_at_call 25; (with_reducible refine (M1.out _).mono ?_); rintro e w7 ⟨rfl, hw7⟩; have hw7b := hw7.symm; clear hw7; subst hw7b)
    | (go_at_call 25; (with_reducible refine (M2.out _).mono ?_); rintro e w7 ⟨rfl, hw7⟩; have hw7b := hw7.symm; clear hw7; subst hw7b)
    | (go_at_call 23; (with_reducible refine (refuse_no _ _ _).mono ?_); rintro e w2 ⟨rfl, hw2⟩; have hw2b := hw2.symm; clear hw2; subst hw2b)
    | fail)
  first | go_ret | go_end0
  refine ⟨rfl, (HA6.out.1.set 2 _).set 3 _, hcn, ?_, ?_⟩
  · simp [go_sem, rc2]
  · simp [go_sem, rc3]
set_option maxRecDepth 100000 in
set_option maxHeartbeats 6400000 in
theorem readSize_outy (rb : Nat) (n : Int) (y z : List UInt8) (Y Z : Nat) (v2 v3 : Value) (w : World) (hC : C22S w rb n [sheetW, y, z]) (hy : num y = some Y) (hz : num z = some Z) (hc2 : w.cell? ⟨rb, 2, none⟩ = some v2) (hc3 : w.cell? ⟨rb, 3, none⟩ = some v3) (hf : ∀ o, w.frozen? ⟨rb, o, none⟩ = false) (hY : Y < 1 ∨ 8 < Y) : Calls Tryz.prog 9 #[.pointer (some ⟨rb, 0, none⟩)] w fun e w' => e = PF 3 n ∧ w.grownBy w' (some rb) := by
  have C : Hid (C22S w rb n [sheetW, y, z]) := hC
  have hx : ((bs sheetW).toList == [115, 104, 101, 101, 116]) = true := by rw [str_beq]; rfl
  have N0 : Hid (∀ (W : World), Calls Tryz.prog 24 #[.pointer (some ⟨rb, 0, none⟩), .string (bs y)] W fun e w' => e = .returned (.int .i64 (Y : Int)) ∧ Below W.heap.size W w') := fun W => rnumber_yes rb (bs y) Y W hy
  have N1 : Hid (∀ (W : World), Calls Tryz.prog 24 #[.pointer (some ⟨rb, 0, none⟩), .string (bs z)] W fun e w' => e = .returned (.int .i64 (Z : Int)) ∧ Below W.heap.size W w') := fun W => rnumber_yes rb (bs z) Z W hz
  have HC2 : Hid (w.cell? ⟨rb, 2, none⟩ = some v2 ∧ w.cell? ⟨rb, 3, none⟩ = some v3) := ⟨hc2, hc3⟩
  have HF : Hid (∀ o, w.frozen? ⟨rb, o, none⟩ = false) := hf
  have HLT : Hid (rb < w.heap.size) := World.block_lt_of_cell? _ _ hc2
  have M1 : Hid (∀ W : World, Calls Tryz.prog 25 #[.int .i64 (Y : Int)] W fun e w' => e = .returned (.bool false) ∧ w' = W) := fun W => maySide_no _ W (by omega)
  clear hC hy hz hc2 hc3 hf hY
  go_enter Tryz.func9, Tryz.ntmps9
  go_wp2_with (first
    | (go_at_call 22; (with_reducible refine Calls.mono C.out ?_); rintro e w1 ⟨A, rfl, hA⟩; have hc := hA.2.2.2.1; have s1 : w1.cell? ⟨A, 1, none⟩ = some (.string (bs y)) := hA.2.1 1 (by simp); have s2 : w1.cell? ⟨A, 2, none⟩ = some (.string (bs z)) := hA.2.1 2 (by simp); have s0 : w1.cell? ⟨A, 0, none⟩ = some (.string (bs sheetW)) := hA.2.1 0 (by simp); have c2 : w1.cell? ⟨rb, 2, none⟩ = some v2 := (hA.2.2.2.2.1 2 (by decide)).trans HC2.out.1; have c3 : w1.cell? ⟨rb, 3, none⟩ = some v3 := (hA.2.2.2.2.1 3 (by decide)).trans HC2.out.2; have f2 : w1.frozen? ⟨rb, 2, none⟩ = false := (hA.2.2.2.2.2 2).trans (HF.out 2); have f3 : w1.frozen? ⟨rb, 3, none⟩ = false := (hA.2.2.2.2.2 3).trans (HF.out 3); have HA : Hid (WT w w1 rb A n [sheetW, y, z]) := hA; clear hA)
    | (go_at_call 23; (with_reducible refine (refuse_no _ _ _).mono ?_); rintro e w2 ⟨rfl, hw2⟩; have hw2b := hw2.symm; clear hw2; subst hw2b)
    | fail)
  go_region_held3 (fun w' => w'.cell? ⟨A, 1, none⟩ = some (.string (bs y)) ∧ w'.cell? ⟨A, 2, none⟩ = some (.string (bs z)))
    (first | exact ⟨dr_old s1, dr_old s2⟩ | exact ⟨t1, t2⟩ | exact ⟨r1, r2⟩ | (refine ⟨?_, ?_⟩ <;> (simp [go_sem, *]; done)))
    (first
      | ((go_at_call 24; (with_reducible refine (N0.out _).mono ?_); rintro e w5 ⟨rfl, hb⟩; have hb5 := bl_via (bl_drew (bl_refl _)) hb; clear hb; have t1 := cl_kept hb5 s1; have t2 := cl_kept hb5 s2; have HB5 : Hid (Below w1.heap.size w1 w5) := hb5; clear hb5))
      | ((go_at_call 24; (with_reducible refine (N1.out _).mono ?_); rintro e w6 ⟨rfl, hb⟩; have hb6 : Below w1.heap.size w1 w6 := bl_via HB5.out hb; clear hb; have r1 := cl_kept hb6 s1; have r2 := cl_kept hb6 s2; have rc := cl_kept hb6 hc; have rc2 := cl_kept hb6 c2; have rc3 := cl_kept hb6 c3; have rf2 : w6.frozen? ⟨rb, 2, none⟩ = false := (hb6.frozen (p := ⟨rb, 2, none⟩) (World.block_lt_of_cell? _ _ c2)).trans f2; have rf3 : w6.frozen? ⟨rb, 3, none⟩ = false := (hb6.frozen (p := ⟨rb, 3, none⟩) (World.block_lt_of_cell? _ _ c3)).trans f3; have hne : ¬ A = rb := (by have := HA.out.1; have := HLT.out; omega); have hne2 : ¬ rb = A := (by have := HA.out.1; have := HLT.out; omega); have HA6 : Hid (Chg w w6 rb [1] ∧ w6.cell? ⟨rb, 1, none⟩ = some (.int .i64 n)) := ⟨(HA.out.2.2.chg HLT.out).kept hb6, rc⟩; clear hb6))
      | fail)
  clear s0 s1 s2 c2 c3 f2 f3 t1 t2 hc
  have hcn : ((w6.setCell ⟨rb, 2, none⟩ (.int .i64 (Y : Int))).setCell ⟨rb, 3, none⟩ (.int .i64 (Z : Int))).cell? ⟨rb, 1, none⟩ = some (.int .i64 n) := by simp [go_sem, rc]
  go_wp2_with (first
    | (go_at_call 25; (with_reducible refine (M1.out _).mono ?_); rintro e w7 ⟨rfl, hw7⟩; have hw7b := hw7.symm; clear hw7; subst hw7b)
    | (go_at_call 23; (with_reducible refine (refuse_yes _ _ _ _ hcn).mono ?_); rintro e w2 ⟨rfl, hw2⟩; have hw2b := hw2.symm; clear hw2; subst hw2b)
    | fail)
  simp [bodyPost, PF]
  exact ((HA6.out.1.set 2 _).set 3 _).1
set_option maxRecDepth 100000 in
set_option maxHeartbeats 6400000 in
theorem readSize_outz (rb : Nat) (n : Int) (y z : List UInt8) (Y Z : Nat) (v2 v3 : Value) (w : World) (hC : C22S w rb n [sheetW, y, z]) (hy : num y = some Y) (hz : num z = some Z) (hc2 : w.cell? ⟨rb, 2, none⟩ = some v2) (hc3 : w.cell? ⟨rb, 3, none⟩ = some v3) (hf : ∀ o, w.frozen? ⟨rb, o, none⟩ = false) (hY : 1 ≤ Y ∧ Y ≤ 8) (hZ : Z < 1 ∨ 8 < Z) : Calls Tryz.prog 9 #[.pointer (some ⟨rb, 0, none⟩)] w fun e w' => e = PF 3 n ∧ w.grownBy w' (some rb) := by
  have C : Hid (C22S w rb n [sheetW, y, z]) := hC
  have hx : ((bs sheetW).toList == [115, 104, 101, 101, 116]) = true := by rw [str_beq]; rfl
  have N0 : Hid (∀ (W : World), Calls Tryz.prog 24 #[.pointer (some ⟨rb, 0, none⟩), .string (bs y)] W fun e w' => e = .returned (.int .i64 (Y : Int)) ∧ Below W.heap.size W w') := fun W => rnumber_yes rb (bs y) Y W hy
  have N1 : Hid (∀ (W : World), Calls Tryz.prog 24 #[.pointer (some ⟨rb, 0, none⟩), .string (bs z)] W fun e w' => e = .returned (.int .i64 (Z : Int)) ∧ Below W.heap.size W w') := fun W => rnumber_yes rb (bs z) Z W hz
  have HC2 : Hid (w.cell? ⟨rb, 2, none⟩ = some v2 ∧ w.cell? ⟨rb, 3, none⟩ = some v3) := ⟨hc2, hc3⟩
  have HF : Hid (∀ o, w.frozen? ⟨rb, o, none⟩ = false) := hf
  have HLT : Hid (rb < w.heap.size) := World.block_lt_of_cell? _ _ hc2
  have M1 : Hid (∀ W : World, Calls Tryz.prog 25 #[.int .i64 (Y : Int)] W fun e w' => e = .returned (.bool true) ∧ w' = W) := fun W => maySide_yes _ W (by omega) (by omega)
  have M2 : Hid (∀ W : World, Calls Tryz.prog 25 #[.int .i64 (Z : Int)] W fun e w' => e = .returned (.bool false) ∧ w' = W) := fun W => maySide_no _ W (by omega)
  clear hC hy hz hc2 hc3 hf hY hZ
  go_enter Tryz.func9, Tryz.ntmps9
  go_wp2_with (first
    | (go_at_call 22; (with_reducible refine Calls.mono C.out ?_); rintro e w1 ⟨A, rfl, hA⟩; have hc := hA.2.2.2.1; have s1 : w1.cell? ⟨A, 1, none⟩ = some (.string (bs y)) := hA.2.1 1 (by simp); have s2 : w1.cell? ⟨A, 2, none⟩ = some (.string (bs z)) := hA.2.1 2 (by simp); have s0 : w1.cell? ⟨A, 0, none⟩ = some (.string (bs sheetW)) := hA.2.1 0 (by simp); have c2 : w1.cell? ⟨rb, 2, none⟩ = some v2 := (hA.2.2.2.2.1 2 (by decide)).trans HC2.out.1; have c3 : w1.cell? ⟨rb, 3, none⟩ = some v3 := (hA.2.2.2.2.1 3 (by decide)).trans HC2.out.2; have f2 : w1.frozen? ⟨rb, 2, none⟩ = false := (hA.2.2.2.2.2 2).trans (HF.out 2); have f3 : w1.frozen? ⟨rb, 3, none⟩ = false := (hA.2.2.2.2.2 3).trans (HF.out 3); have HA : Hid (WT w w1 rb A n [sheetW, y, z]) := hA; clear hA)
    | (go_at_call 23; (with_reducible refine (refuse_no _ _ _).mono ?_); rintro e w2 ⟨rfl, hw2⟩; have hw2b := hw2.symm; clear hw2; subst hw2b)
    | fail)
  go_region_held3 (fun w' => w'.cell? ⟨A, 1, none⟩ = some (.string (bs y)) ∧ w'.cell? ⟨A, 2, none⟩ = some (.string (bs z)))
    (first | exact ⟨dr_old s1, dr_old s2⟩ | exact ⟨t1, t2⟩ | exact ⟨r1, r2⟩ | (refine ⟨?_, ?_⟩ <;> (simp [go_sem, *]; done)))
    (first
      | ((go_at_call 24; (with_reducible refine (N0.out _).mono ?_); rintro e w5 ⟨rfl, hb⟩; have hb5 := bl_via (bl_drew (bl_refl _)) hb; clear hb; have t1 := cl_kept hb5 s1; have t2 := cl_kept hb5 s2; have HB5 : Hid (Below w1.heap.size w1 w5) := hb5; clear hb5))
      | ((go_at_call 24; (with_reducible refine (N1.out _).mono ?_); rintro e w6 ⟨rfl, hb⟩; have hb6 : Below w1.heap.size w1 w6 := bl_via HB5.out hb; clear hb; have r1 := cl_kept hb6 s1; have r2 := cl_kept hb6 s2; have rc := cl_kept hb6 hc; have rc2 := cl_kept hb6 c2; have rc3 := cl_kept hb6 c3; have rf2 : w6.frozen? ⟨rb, 2, none⟩ = false := (hb6.frozen (p := ⟨rb, 2, none⟩) (World.block_lt_of_cell? _ _ c2)).trans f2; have rf3 : w6.frozen? ⟨rb, 3, none⟩ = false := (hb6.frozen (p := ⟨rb, 3, none⟩) (World.block_lt_of_cell? _ _ c3)).trans f3; have hne : ¬ A = rb := (by have := HA.out.1; have := HLT.out; omega); have hne2 : ¬ rb = A := (by have := HA.out.1; have := HLT.out; omega); have HA6 : Hid (Chg w w6 rb [1] ∧ w6.cell? ⟨rb, 1, none⟩ = some (.int .i64 n)) := ⟨(HA.out.2.2.chg HLT.out).kept hb6, rc⟩; clear hb6))
      | fail)
  clear s0 s1 s2 c2 c3 f2 f3 t1 t2 hc
  have hcn : ((w6.setCell ⟨rb, 2, none⟩ (.int .i64 (Y : Int))).setCell ⟨rb, 3, none⟩ (.int .i64 (Z : Int))).cell? ⟨rb, 1, none⟩ = some (.int .i64 n) := by simp [go_sem, rc]
  go_wp2_with (first
    | (go_at_call 25; (with_reducible refine (M1.out _).mono ?_); rintro e w7 ⟨rfl, hw7⟩; have hw7b := hw7.symm; clear hw7; subst hw7b)
    | (go_at_call 25; (with_reducible refine (M2.out _).mono ?_); rintro e w7 ⟨rfl, hw7⟩; have hw7b := hw7.symm; clear hw7; subst hw7b)
    | (go_at_call 23; (with_reducible refine (refuse_yes _ _ _ _ hcn).mono ?_); rintro e w2 ⟨rfl, hw2⟩; have hw2b := hw2.symm; clear hw2; subst hw2b)
    | fail)
  simp [bodyPost, PF]
  exact ((HA6.out.1.set 2 _).set 3 _).1
end Go.Proofs.YtehmoacggikfmaaGreatDoor
