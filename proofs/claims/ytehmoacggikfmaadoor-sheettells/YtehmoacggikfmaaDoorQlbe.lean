/- The edges of a triangle as paper has them; a sheet whose cells may not be is not laid out. -/
import Derived.Test.YtehmoacggikfmaaDoorQlav
import Derived.Test.YtehmoacggikfmaaDoorQlak
import Derived.Test.YtehmoacggikfmaaDoorQlah
namespace Go.Proofs.YtehmoacggikfmaaDoor
open Go.RowKit

set_option maxHeartbeats 1600000 in
theorem paperEdges_any (x y k : Int) (w : World) (h : triB x y k = true) (hs : Steps w) :
    Calls Tryd.prog 47 #[.agg #[.int .i64 x, .int .i64 y, .int .i64 k]] w fun e w' => e = .returned (.agg #[.int .i64 (ue0 x y k), .int .i64 (ue1 x y k), .int .i64 (ue2 x y k), .int .i64 (ue3 x y k), .int .i64 (ue4 x y k), .int .i64 (ue5 x y k), .int .i64 (ue6 x y k), .int .i64 (ue7 x y k), .int .i64 (ue8 x y k), .int .i64 (ue9 x y k), .int .i64 (ue10 x y k), .int .i64 (ue11 x y k)]) ∧ Below w.heap.size w w' := by
  have HS : Hid (Steps w) := hs
  clear hs
  go_enter Tryd.func47, Tryd.ntmps47
  go_wp2_with (go_at_call 57; refine (Edges_yes _ _ _ _ h (HS.out.kept (bl_alloc (bl_alloc (bl_refl _))))).mono ?_; rintro e w2 ⟨rfl, hb⟩; have r0 : w2.cell? ⟨w.heap.size + 1, 0, none⟩ = some (.int .i64 0) := cl_kept hb (by first | (simp [go_sem]; done) | (simp [go_sem, World.cell?_alloc_past]; done)); have f0' : w2.frozen? ⟨w.heap.size + 1, 0, none⟩ = false := (hb.frozen (p := ⟨w.heap.size + 1, 0, none⟩) (by simp <;> omega)).trans (by simp [go_sem]); have r1 : w2.cell? ⟨w.heap.size + 1, 1, none⟩ = some (.int .i64 0) := cl_kept hb (by first | (simp [go_sem]; done) | (simp [go_sem, World.cell?_alloc_past]; done)); have f1' : w2.frozen? ⟨w.heap.size + 1, 1, none⟩ = false := (hb.frozen (p := ⟨w.heap.size + 1, 1, none⟩) (by simp <;> omega)).trans (by simp [go_sem]); have r2 : w2.cell? ⟨w.heap.size + 1, 2, none⟩ = some (.int .i64 0) := cl_kept hb (by first | (simp [go_sem]; done) | (simp [go_sem, World.cell?_alloc_past]; done)); have f2' : w2.frozen? ⟨w.heap.size + 1, 2, none⟩ = false := (hb.frozen (p := ⟨w.heap.size + 1, 2, none⟩) (by simp <;> omega)).trans (by simp [go_sem]); have r3 : w2.cell? ⟨w.heap.size + 1, 3, none⟩ = some (.int .i64 0) := cl_kept hb (by first | (simp [go_sem]; done) | (simp [go_sem, World.cell?_alloc_past]; done)); have f3' : w2.frozen? ⟨w.heap.size + 1, 3, none⟩ = false := (hb.frozen (p := ⟨w.heap.size + 1, 3, none⟩) (by simp <;> omega)).trans (by simp [go_sem]); have r4 : w2.cell? ⟨w.heap.size + 1, 4, none⟩ = some (.int .i64 0) := cl_kept hb (by first | (simp [go_sem]; done) | (simp [go_sem, World.cell?_alloc_past]; done)); have f4' : w2.frozen? ⟨w.heap.size + 1, 4, none⟩ = false := (hb.frozen (p := ⟨w.heap.size + 1, 4, none⟩) (by simp <;> omega)).trans (by simp [go_sem]); have r5 : w2.cell? ⟨w.heap.size + 1, 5, none⟩ = some (.int .i64 0) := cl_kept hb (by first | (simp [go_sem]; done) | (simp [go_sem, World.cell?_alloc_past]; done)); have f5' : w2.frozen? ⟨w.heap.size + 1, 5, none⟩ = false := (hb.frozen (p := ⟨w.heap.size + 1, 5, none⟩) (by simp <;> omega)).trans (by simp [go_sem]); have r6 : w2.cell? ⟨w.heap.size + 1, 6, none⟩ = some (.int .i64 0) := cl_kept hb (by first | (simp [go_sem]; done) | (simp [go_sem, World.cell?_alloc_past]; done)); have f6' : w2.frozen? ⟨w.heap.size + 1, 6, none⟩ = false := (hb.frozen (p := ⟨w.heap.size + 1, 6, none⟩) (by simp <;> omega)).trans (by simp [go_sem]); have r7 : w2.cell? ⟨w.heap.size + 1, 7, none⟩ = some (.int .i64 0) := cl_kept hb (by first | (simp [go_sem]; done) | (simp [go_sem, World.cell?_alloc_past]; done)); have f7' : w2.frozen? ⟨w.heap.size + 1, 7, none⟩ = false := (hb.frozen (p := ⟨w.heap.size + 1, 7, none⟩) (by simp <;> omega)).trans (by simp [go_sem]); have r8 : w2.cell? ⟨w.heap.size + 1, 8, none⟩ = some (.int .i64 0) := cl_kept hb (by first | (simp [go_sem]; done) | (simp [go_sem, World.cell?_alloc_past]; done)); have f8' : w2.frozen? ⟨w.heap.size + 1, 8, none⟩ = false := (hb.frozen (p := ⟨w.heap.size + 1, 8, none⟩) (by simp <;> omega)).trans (by simp [go_sem]); have r9 : w2.cell? ⟨w.heap.size + 1, 9, none⟩ = some (.int .i64 0) := cl_kept hb (by first | (simp [go_sem]; done) | (simp [go_sem, World.cell?_alloc_past]; done)); have f9' : w2.frozen? ⟨w.heap.size + 1, 9, none⟩ = false := (hb.frozen (p := ⟨w.heap.size + 1, 9, none⟩) (by simp <;> omega)).trans (by simp [go_sem]); have r10 : w2.cell? ⟨w.heap.size + 1, 10, none⟩ = some (.int .i64 0) := cl_kept hb (by first | (simp [go_sem]; done) | (simp [go_sem, World.cell?_alloc_past]; done)); have f10' : w2.frozen? ⟨w.heap.size + 1, 10, none⟩ = false := (hb.frozen (p := ⟨w.heap.size + 1, 10, none⟩) (by simp <;> omega)).trans (by simp [go_sem]); have r11 : w2.cell? ⟨w.heap.size + 1, 11, none⟩ = some (.int .i64 0) := cl_kept hb (by first | (simp [go_sem]; done) | (simp [go_sem, World.cell?_alloc_past]; done)); have f11' : w2.frozen? ⟨w.heap.size + 1, 11, none⟩ = false := (hb.frozen (p := ⟨w.heap.size + 1, 11, none⟩) (by simp <;> omega)).trans (by simp [go_sem]); have zz0 : w.heap.size + 1 < w2.heap.size := World.block_lt_of_cell? (w := w2) (a := ⟨w.heap.size + 1, 0, none⟩) r0; have zz1 : w.heap.size + 1 < w2.heap.size + 1 := (by omega); have zz2 : w.heap.size + 1 < w2.heap.size + 1 + 1 := (by omega); have zz3 : w.heap.size + 1 < w2.heap.size + 1 + 1 + 1 := (by omega); have HB : Hid (Below w.heap.size w w2) := bl_via (bl_alloc (bl_alloc (bl_refl _))) hb; clear hb)
  refine bodyPost_ret (v := .agg #[.int .i64 (ue0 x y k), .int .i64 (ue1 x y k), .int .i64 (ue2 x y k), .int .i64 (ue3 x y k), .int .i64 (ue4 x y k), .int .i64 (ue5 x y k), .int .i64 (ue6 x y k), .int .i64 (ue7 x y k), .int .i64 (ue8 x y k), .int .i64 (ue9 x y k), .int .i64 (ue10 x y k), .int .i64 (ue11 x y k)]) ?_ rfl ⟨rfl, ?_⟩
  · first | (simp [results, Tryd.results47, go_sem, *]; done) | (simp [results, Tryd.results47, go_sem, World.cell?_alloc_past, *]; done)
  · with_reducible repeat' (first | exact HB.out | refine bl_set ?_ ?_ | refine bl_alloc ?_ | refine bl_drew ?_)
    all_goals (first | omega | (simp; done) | (simp; omega))

set_option maxHeartbeats 1600000 in
theorem lay_bad (W H : Int) (a : Option Addr) (cap : Nat) (zs : List Int) (c : Value) (w : World) (hr : Row w a zs) (hc : cellsB W H zs = false) :
    Calls Tryd.prog 12 #[.agg #[.int .i64 W, .int .i64 H, .slice a zs.length cap, c]] w fun e w' => e = .returned (.tuple #[.agg #[.slice none 0 0, .map none, .map none], .bool false]) ∧ Below w.heap.size w w' := by
  have HR : Hid (Row w a zs) := hr
  clear hr
  cases hW : sideB W
  · go_enter Tryd.func12, Tryd.ntmps12
    go_wp2_with (go_at_call 20; refine (maySide_any _ _).mono ?_; rintro e w' ⟨rfl, rfl⟩)
    refine bodyPost_ret (v := .tuple #[.agg #[.slice none 0 0, .map none, .map none], .bool false]) ?_ rfl ⟨rfl, ?_⟩
    · simp [results, Tryd.results12, go_sem]
    · with_reducible repeat' (first | exact bl_refl _ | refine bl_alloc ?_)
  cases hH : sideB H
  · go_enter Tryd.func12, Tryd.ntmps12
    go_wp2_with (go_at_call 20; refine (maySide_any _ _).mono ?_; rintro e w' ⟨rfl, rfl⟩)
    refine bodyPost_ret (v := .tuple #[.agg #[.slice none 0 0, .map none, .map none], .bool false]) ?_ rfl ⟨rfl, ?_⟩
    · simp [results, Tryd.results12, go_sem]
    · with_reducible repeat' (first | exact bl_refl _ | refine bl_alloc ?_)
  by_cases hl : (zs.length : Int) = W * H
  · have hm : maskB zs = false := by
      have := hc
      simp only [cellsB, hW, hH, decide_eq_true hl] at this
      simpa using this
    have HM : Hid (∀ W' : World, Below w.heap.size w W' → Calls Tryd.prog 21 #[.agg #[.int .i64 W, .int .i64 H, .slice a zs.length cap, c]] W' fun e w' => e = .returned (.bool false) ∧ ∃ o, w' = W'.alloc o) := fun W' hW' => hm ▸ mayMask_any W H a cap zs c W' hW hH (HR.out.kept hW') hl
    clear hm hl hc
    go_enter Tryd.func12, Tryd.ntmps12
    go_wp2_with (first | (go_at_call 20; refine (maySide_any _ _).mono ?_; rintro e w' ⟨rfl, rfl⟩) | (go_at_call 21; refine (HM.out _ (by with_reducible exact bl_alloc (bl_alloc (bl_refl _)))).mono ?_; rintro e w' ⟨rfl, o, rfl⟩))
    refine bodyPost_ret (v := .tuple #[.agg #[.slice none 0 0, .map none, .map none], .bool false]) ?_ rfl ⟨rfl, ?_⟩
    · simp [results, Tryd.results12, go_sem]
    · with_reducible repeat' (first | exact bl_refl _ | refine bl_alloc ?_)
  · have HM : Hid (∀ W' : World, Calls Tryd.prog 21 #[.agg #[.int .i64 W, .int .i64 H, .slice a zs.length cap, c]] W' fun e w' => e = .returned (.bool false) ∧ ∃ o, w' = W'.alloc o) := fun W' => mayMask_len W H a cap zs c W' hW hH hl
    clear hl hc
    go_enter Tryd.func12, Tryd.ntmps12
    go_wp2_with (first | (go_at_call 20; refine (maySide_any _ _).mono ?_; rintro e w' ⟨rfl, rfl⟩) | (go_at_call 21; refine (HM.out _).mono ?_; rintro e w' ⟨rfl, o, rfl⟩))
    refine bodyPost_ret (v := .tuple #[.agg #[.slice none 0 0, .map none, .map none], .bool false]) ?_ rfl ⟨rfl, ?_⟩
    · simp [results, Tryd.results12, go_sem]
    · with_reducible repeat' (first | exact bl_refl _ | refine bl_alloc ?_)

set_option maxHeartbeats 1600000 in
theorem May_no (W H : Int) (a : Option Addr) (cap : Nat) (zs : List Int) (c : Value) (w : World) (hcall : ∀ W' : World, Below w.heap.size w W' → Calls Tryd.prog 12 #[.agg #[.int .i64 W, .int .i64 H, .slice a zs.length cap, c]] W' fun e w' => e = .returned (.tuple #[.agg #[.slice none 0 0, .map none, .map none], .bool false]) ∧ Below W'.heap.size W' w') :
    Calls Tryd.prog 4 #[.agg #[.int .i64 W, .int .i64 H, .slice a zs.length cap, c]] w fun e w' => e = .returned (.bool false) ∧ Below w.heap.size w w' := by
  have HC : Hid (∀ W' : World, Below w.heap.size w W' → Calls Tryd.prog 12 #[.agg #[.int .i64 W, .int .i64 H, .slice a zs.length cap, c]] W' fun e w' => e = .returned (.tuple #[.agg #[.slice none 0 0, .map none, .map none], .bool false]) ∧ Below W'.heap.size W' w') := hcall
  clear hcall
  go_enter Tryd.func4, Tryd.ntmps4
  go_wp2_with (go_at_call 12; refine (HC.out _ (by with_reducible exact bl_alloc (bl_refl _))).mono ?_; rintro e w2 ⟨rfl, hb⟩; have HB : Hid (Below w.heap.size w w2) := bl_via (bl_alloc (bl_refl _)) hb; clear hb)
  go_ret
  exact ⟨rfl, bl_alloc HB.out⟩

set_option maxHeartbeats 1600000 in
theorem Tris_no (W H : Int) (a : Option Addr) (cap : Nat) (zs : List Int) (c : Value) (w : World) (hcall : ∀ W' : World, Below w.heap.size w W' → Calls Tryd.prog 12 #[.agg #[.int .i64 W, .int .i64 H, .slice a zs.length cap, c]] W' fun e w' => e = .returned (.tuple #[.agg #[.slice none 0 0, .map none, .map none], .bool false]) ∧ Below W'.heap.size W' w') :
    Calls Tryd.prog 6 #[.agg #[.int .i64 W, .int .i64 H, .slice a zs.length cap, c]] w fun e w' => e = .returned (.tuple #[.slice none 0 0, .int .i64 10]) ∧ Below w.heap.size w w' := by
  have HC : Hid (∀ W' : World, Below w.heap.size w W' → Calls Tryd.prog 12 #[.agg #[.int .i64 W, .int .i64 H, .slice a zs.length cap, c]] W' fun e w' => e = .returned (.tuple #[.agg #[.slice none 0 0, .map none, .map none], .bool false]) ∧ Below W'.heap.size W' w') := hcall
  clear hcall
  go_enter Tryd.func6, Tryd.ntmps6
  go_wp2_with (go_at_call 12; refine (HC.out _ (by with_reducible exact bl_alloc (bl_refl _))).mono ?_; rintro e w2 ⟨rfl, hb⟩; have HB : Hid (Below w.heap.size w w2) := bl_via (bl_alloc (bl_refl _)) hb; clear hb)
  go_ret2
  exact ⟨rfl, bl_alloc HB.out⟩

set_option maxHeartbeats 1600000 in
theorem Show_no (W H : Int) (a : Option Addr) (cap : Nat) (zs : List Int) (c : Value) (w : World) (hcall : ∀ W' : World, Below w.heap.size w W' → Calls Tryd.prog 12 #[.agg #[.int .i64 W, .int .i64 H, .slice a zs.length cap, c]] W' fun e w' => e = .returned (.tuple #[.agg #[.slice none 0 0, .map none, .map none], .bool false]) ∧ Below W'.heap.size W' w') :
    Calls Tryd.prog 7 #[.agg #[.int .i64 W, .int .i64 H, .slice a zs.length cap, c]] w fun e w' => e = .returned (.tuple #[.string ⟨#[]⟩, .int .i64 10]) ∧ Below w.heap.size w w' := by
  have HC : Hid (∀ W' : World, Below w.heap.size w W' → Calls Tryd.prog 4 #[.agg #[.int .i64 W, .int .i64 H, .slice a zs.length cap, c]] W' fun e w' => e = .returned (.bool false) ∧ Below W'.heap.size W' w') := fun W' hW' => May_no W H a cap zs c W' (fun W2 hW2 => hcall W2 (bl_via hW' hW2))
  clear hcall
  go_enter Tryd.func7, Tryd.ntmps7
  go_wp2_with (go_at_call 4; refine (HC.out _ (by with_reducible exact bl_alloc (bl_refl _))).mono ?_; rintro e w2 ⟨rfl, hb⟩; have HB : Hid (Below w.heap.size w w2) := bl_via (bl_alloc (bl_refl _)) hb; clear hb)
  go_ret2
  exact ⟨rfl, HB.out⟩

set_option maxHeartbeats 1600000 in
theorem sheetMay_bad (W H : Int) (a : Option Addr) (cap : Nat) (zs : List Int) (c : Value) (w : World) (hr : Row w a zs) (hc : cellsB W H zs = false) :
    Calls Tryd.prog 8 #[.agg #[.int .i64 W, .int .i64 H, .slice a zs.length cap, c]] w fun e w' => e = .returned (.bool false) ∧ Below w.heap.size w w' := by
  have HC : Hid (∀ W' : World, Below w.heap.size w W' → Calls Tryd.prog 14 #[.agg #[.int .i64 W, .int .i64 H, .slice a zs.length cap, c]] W' fun e w' => e = .returned (.bool false) ∧ ∃ o, w' = W'.alloc o) := fun W' hW' => hc ▸ cellsMay_any W H a cap zs c W' (hr.kept hW')
  clear hr hc
  go_enter Tryd.func8, Tryd.ntmps8
  go_wp2_with (go_at_call 14; refine (HC.out _ (by with_reducible exact bl_alloc (bl_refl _))).mono ?_; rintro e w2 ⟨rfl, o, rfl⟩)
  go_ret
  exact ⟨rfl, bl_alloc (bl_alloc (bl_refl _))⟩
end Go.Proofs.YtehmoacggikfmaaDoor
