import Derived.Test.YthkhiedpkmpifaaDoorPkac
import Derived.Test.YthkhiedpkmpifaaDoorPkab
/- The generic answer at maps, and the grid's Mirror. -/
namespace Go.Proofs.YthkhiedpkmpifaaDoor
open Go.RowKit

theorem make_func (fn : Fn) (first cap : Array Value) (w : World) : (Instr.makeFunc fn first cap).run Tryd.prog w = .ok (.func fn first cap) w := rfl

theorem answerMap_no (f : Value) (w : World) :
    Calls Tryd.prog 58 #[.bool false, f] w fun r w' => r = .returned (.tuple #[.agg #[.int .i64 0, .int .i64 0, .int .i64 0, .int .i64 0, .int .i64 0, .int .i64 0], .int .i64 3]) ∧ ∃ o1 o2, w' = (w.alloc o1).alloc o2 := by
  go_enter Tryd.func58, Tryd.ntmps58
  go_wp2
  exact bodyPost_ret (v := .tuple #[.agg #[.int .i64 0, .int .i64 0, .int .i64 0, .int .i64 0, .int .i64 0, .int .i64 0], .int .i64 3]) (by simp [results, Tryd.results58, go_sem]) rfl ⟨rfl, _, _, rfl⟩

theorem mirror1_yes (v c : Int) (p : Nat) (w : World) (h : lineB v c = true) (hm : mapB (mA v) (mB v) (mB v) (mD v) (mE v c) (mF v c) = true) (hp0 : w.cell? ⟨p, 0, none⟩ = some (.int .i64 v)) (hp1 : w.cell? ⟨p, 1, none⟩ = some (.int .i64 c)) :
    Calls Tryd.prog 59 #[.pointer (some ⟨p, 0, none⟩)] w fun r w' => r = .returned (.tuple #[.agg #[.int .i64 (mA v), .int .i64 (mB v), .int .i64 (mB v), .int .i64 (mD v), .int .i64 (mE v c), .int .i64 (mF v c)], .int .i64 0]) ∧ ∃ o1 o2 o3 o4 o5 o6, w' = (((((w.alloc o1).alloc o2).alloc o3).alloc o4).alloc o5).alloc o6 := by
  have hz := World.block_lt_of_cell? _ _ hp0
  go_enter Tryd.func59, Tryd.ntmps59
  go_wp2_with (first | (go_at_call 61; refine (mirror_any _ _ _ h).mono ?_; rintro e w' ⟨rfl, o1, o2, rfl⟩) | (go_at_call 60; refine (sized_yes _ _ _ _ _ _ _ hm).mono ?_; rintro e w' ⟨rfl, o3, o4, o5, rfl⟩))
  exact bodyPost_ret (v := .tuple #[.agg #[.int .i64 (mA v), .int .i64 (mB v), .int .i64 (mB v), .int .i64 (mD v), .int .i64 (mE v c), .int .i64 (mF v c)], .int .i64 0]) (by simp [results, Tryd.results59, go_sem, World.cell?_alloc_past]) rfl ⟨rfl, _, _, _, _, _, _, rfl⟩

theorem answerMirror_yes (v c : Int) (p : Nat) (w : World) (h : lineB v c = true) (hm : mapB (mA v) (mB v) (mB v) (mD v) (mE v c) (mF v c) = true) (hp0 : w.cell? ⟨p, 0, none⟩ = some (.int .i64 v)) (hp1 : w.cell? ⟨p, 1, none⟩ = some (.int .i64 c)) :
    Calls Tryd.prog 58 #[.bool true, .func (.func 59) #[] #[.pointer (some ⟨p, 0, none⟩)]] w fun r w' => r = .returned (.tuple #[.agg #[.int .i64 (mA v), .int .i64 (mB v), .int .i64 (mB v), .int .i64 (mD v), .int .i64 (mE v c), .int .i64 (mF v c)], .int .i64 0]) ∧ ∃ o1 o2 o3 o4 o5 o6 o7 o8 o9, w' = ((((((((w.alloc o1).alloc o2).alloc o3).alloc o4).alloc o5).alloc o6).alloc o7).alloc o8).alloc o9 := by
  have hz := World.block_lt_of_cell? _ _ hp0
  go_enter Tryd.func58, Tryd.ntmps58
  go_wp2_with (go_at_call 59; refine (mirror1_yes v c p _ h hm (by simp [go_sem, World.cell?_alloc_past, *]) (by simp [go_sem, World.cell?_alloc_past, *])).mono ?_; rintro e w' ⟨rfl, o1, o2, o3, o4, o5, o6, rfl⟩)
  exact bodyPost_ret (v := .tuple #[.agg #[.int .i64 (mA v), .int .i64 (mB v), .int .i64 (mB v), .int .i64 (mD v), .int .i64 (mE v c), .int .i64 (mF v c)], .int .i64 0]) (by simp [results, Tryd.results58, go_sem, World.cell?_alloc_past]) rfl ⟨rfl, _, _, _, _, _, _, _, _, _, rfl⟩

set_option maxHeartbeats 800000 in
theorem Mirror_yes (v c : Int) (w : World) (h : lineB v c = true) (hm : mapB (mA v) (mB v) (mB v) (mD v) (mE v c) (mF v c) = true) :
    Calls Tryd.prog 18 #[.agg #[.int .i64 v, .int .i64 c]] w fun r w' => r = .returned (.tuple #[.agg #[.int .i64 (mA v), .int .i64 (mB v), .int .i64 (mB v), .int .i64 (mD v), .int .i64 (mE v c), .int .i64 (mF v c)], .int .i64 0]) ∧ Below w.heap.size w w' := by
  have hmf := make_func
  go_enter Tryd.func18, Tryd.ntmps18
  go_wp2_with (first | (go_at_call 55; refine (mayLine_any _ _ _).mono ?_; rintro e w1 ⟨rfl, o0, rfl⟩) | (go_at_call 58; refine (answerMirror_yes v c _ _ h hm (by simp [go_sem, *]) (by simp [go_sem, *])).mono ?_; rintro e w' ⟨rfl, o1, o2, o3, o4, o5, o6, o7, o8, o9, rfl⟩))
  refine bodyPost_ret (v := .tuple #[.agg #[.int .i64 (mA v), .int .i64 (mB v), .int .i64 (mB v), .int .i64 (mD v), .int .i64 (mE v c), .int .i64 (mF v c)], .int .i64 0]) (by simp [results, Tryd.results18, go_sem, World.cell?_alloc_past]) rfl ⟨rfl, ?_⟩
  repeat (first | exact Below.refl _ _ | refine Below.alloc ?_ (by first | omega | (simp; omega) | (simp; done)) _)

theorem mirror1_no (v c : Int) (p : Nat) (w : World) (h : lineB v c = true) (hm : mapB (mA v) (mB v) (mB v) (mD v) (mE v c) (mF v c) = false) (hp0 : w.cell? ⟨p, 0, none⟩ = some (.int .i64 v)) (hp1 : w.cell? ⟨p, 1, none⟩ = some (.int .i64 c)) :
    Calls Tryd.prog 59 #[.pointer (some ⟨p, 0, none⟩)] w fun r w' => r = .returned (.tuple #[.agg #[.int .i64 0, .int .i64 0, .int .i64 0, .int .i64 0, .int .i64 0, .int .i64 0], .int .i64 2]) ∧ ∃ o1 o2 o3 o4 o5 o6, w' = (((((w.alloc o1).alloc o2).alloc o3).alloc o4).alloc o5).alloc o6 := by
  have hz := World.block_lt_of_cell? _ _ hp0
  go_enter Tryd.func59, Tryd.ntmps59
  go_wp2_with (first | (go_at_call 61; refine (mirror_any _ _ _ h).mono ?_; rintro e w' ⟨rfl, o1, o2, rfl⟩) | (go_at_call 60; refine (sized_no _ _ _ _ _ _ _ hm).mono ?_; rintro e w' ⟨rfl, o3, o4, o5, rfl⟩))
  exact bodyPost_ret (v := .tuple #[.agg #[.int .i64 0, .int .i64 0, .int .i64 0, .int .i64 0, .int .i64 0, .int .i64 0], .int .i64 2]) (by simp [results, Tryd.results59, go_sem, World.cell?_alloc_past]) rfl ⟨rfl, _, _, _, _, _, _, rfl⟩

theorem answerMirror_no (v c : Int) (p : Nat) (w : World) (h : lineB v c = true) (hm : mapB (mA v) (mB v) (mB v) (mD v) (mE v c) (mF v c) = false) (hp0 : w.cell? ⟨p, 0, none⟩ = some (.int .i64 v)) (hp1 : w.cell? ⟨p, 1, none⟩ = some (.int .i64 c)) :
    Calls Tryd.prog 58 #[.bool true, .func (.func 59) #[] #[.pointer (some ⟨p, 0, none⟩)]] w fun r w' => r = .returned (.tuple #[.agg #[.int .i64 0, .int .i64 0, .int .i64 0, .int .i64 0, .int .i64 0, .int .i64 0], .int .i64 2]) ∧ ∃ o1 o2 o3 o4 o5 o6 o7 o8 o9, w' = ((((((((w.alloc o1).alloc o2).alloc o3).alloc o4).alloc o5).alloc o6).alloc o7).alloc o8).alloc o9 := by
  have hz := World.block_lt_of_cell? _ _ hp0
  go_enter Tryd.func58, Tryd.ntmps58
  go_wp2_with (go_at_call 59; refine (mirror1_no v c p _ h hm (by simp [go_sem, World.cell?_alloc_past, *]) (by simp [go_sem, World.cell?_alloc_past, *])).mono ?_; rintro e w' ⟨rfl, o1, o2, o3, o4, o5, o6, rfl⟩)
  exact bodyPost_ret (v := .tuple #[.agg #[.int .i64 0, .int .i64 0, .int .i64 0, .int .i64 0, .int .i64 0, .int .i64 0], .int .i64 2]) (by simp [results, Tryd.results58, go_sem, World.cell?_alloc_past]) rfl ⟨rfl, _, _, _, _, _, _, _, _, _, rfl⟩

set_option maxHeartbeats 800000 in
theorem Mirror_no (v c : Int) (w : World) (h : lineB v c = true) (hm : mapB (mA v) (mB v) (mB v) (mD v) (mE v c) (mF v c) = false) :
    Calls Tryd.prog 18 #[.agg #[.int .i64 v, .int .i64 c]] w fun r w' => r = .returned (.tuple #[.agg #[.int .i64 0, .int .i64 0, .int .i64 0, .int .i64 0, .int .i64 0, .int .i64 0], .int .i64 2]) ∧ Below w.heap.size w w' := by
  have hmf := make_func
  go_enter Tryd.func18, Tryd.ntmps18
  go_wp2_with (first | (go_at_call 55; refine (mayLine_any _ _ _).mono ?_; rintro e w1 ⟨rfl, o0, rfl⟩) | (go_at_call 58; refine (answerMirror_no v c _ _ h hm (by simp [go_sem, *]) (by simp [go_sem, *])).mono ?_; rintro e w' ⟨rfl, o1, o2, o3, o4, o5, o6, o7, o8, o9, rfl⟩))
  refine bodyPost_ret (v := .tuple #[.agg #[.int .i64 0, .int .i64 0, .int .i64 0, .int .i64 0, .int .i64 0, .int .i64 0], .int .i64 2]) (by simp [results, Tryd.results18, go_sem, World.cell?_alloc_past]) rfl ⟨rfl, ?_⟩
  repeat (first | exact Below.refl _ _ | refine Below.alloc ?_ (by first | omega | (simp; omega) | (simp; done)) _)

theorem Mirror_out (v c : Int) (w : World) (h : lineB v c = false) :
    Calls Tryd.prog 18 #[.agg #[.int .i64 v, .int .i64 c]] w fun r w' => r = .returned (.tuple #[.agg #[.int .i64 0, .int .i64 0, .int .i64 0, .int .i64 0, .int .i64 0, .int .i64 0], .int .i64 3]) ∧ Below w.heap.size w w' := by
  have hmf := make_func
  go_enter Tryd.func18, Tryd.ntmps18
  go_wp2_with (first | (go_at_call 55; refine (mayLine_any _ _ _).mono ?_; rintro e w1 ⟨rfl, o0, rfl⟩) | (go_at_call 58; refine (answerMap_no _ _).mono ?_; rintro e w' ⟨rfl, o1, o2, rfl⟩))
  refine bodyPost_ret (v := .tuple #[.agg #[.int .i64 0, .int .i64 0, .int .i64 0, .int .i64 0, .int .i64 0, .int .i64 0], .int .i64 3]) (by simp [results, Tryd.results18, go_sem, World.cell?_alloc_past]) rfl ⟨rfl, ?_⟩
  repeat (first | exact Below.refl _ _ | refine Below.alloc ?_ (by first | omega | (simp; omega) | (simp; done)) _)

end Go.Proofs.YthkhiedpkmpifaaDoor

/- Corners and Edges of a triangle. -/
namespace Go.Proofs.YthkhiedpkmpifaaDoor
open Go.RowKit

theorem answerCorners_no (f : Value) (w : World) :
    Calls Tryd.prog 40 #[.bool false, f] w fun r w' => r = .returned (.tuple #[.agg #[.int .i64 0, .int .i64 0, .int .i64 0, .int .i64 0, .int .i64 0, .int .i64 0], .int .i64 3]) ∧ ∃ o1 o2, w' = (w.alloc o1).alloc o2 := by
  go_enter Tryd.func40, Tryd.ntmps40
  go_wp2
  exact bodyPost_ret (v := .tuple #[.agg #[.int .i64 0, .int .i64 0, .int .i64 0, .int .i64 0, .int .i64 0, .int .i64 0], .int .i64 3]) (by simp [results, Tryd.results40, go_sem]) rfl ⟨rfl, _, _, rfl⟩

set_option maxHeartbeats 1600000 in
theorem answerCorners_yes (v0 v1 v2 v3 v4 v5 : Int) (pt : Nat) (w : World) (hcall : ∀ W : World, Below w.heap.size w W → Calls Tryd.prog 42 #[.pointer (some ⟨pt, 0, none⟩)] W fun r w' => r = .returned (.tuple #[.agg #[.int .i64 v0, .int .i64 v1, .int .i64 v2, .int .i64 v3, .int .i64 v4, .int .i64 v5], .int .i64 0]) ∧ Below W.heap.size W w') :
    Calls Tryd.prog 40 #[.bool true, .func (.func 42) #[] #[.pointer (some ⟨pt, 0, none⟩)]] w fun r w' => r = .returned (.tuple #[.agg #[.int .i64 v0, .int .i64 v1, .int .i64 v2, .int .i64 v3, .int .i64 v4, .int .i64 v5], .int .i64 0]) ∧ Below w.heap.size w w' := by
  have HC : Hid (∀ W : World, Below w.heap.size w W → Calls Tryd.prog 42 #[.pointer (some ⟨pt, 0, none⟩)] W fun r w' => r = .returned (.tuple #[.agg #[.int .i64 v0, .int .i64 v1, .int .i64 v2, .int .i64 v3, .int .i64 v4, .int .i64 v5], .int .i64 0]) ∧ Below W.heap.size W w') := hcall
  clear hcall
  go_enter Tryd.func40, Tryd.ntmps40
  go_wp2_with (go_at_call 42; refine (HC.out _ (bl_alloc (bl_alloc (bl_refl _)))).mono ?_; rintro r w2 ⟨rfl, hb⟩; have r0 : w2.cell? ⟨w.heap.size, 0, none⟩ = some (.int .i64 0) := cl_kept hb (by first | (simp [go_sem]; done) | (simp [go_sem, World.cell?_alloc_past]; done)); have f0' : w2.frozen? ⟨w.heap.size, 0, none⟩ = false := (hb.frozen (p := ⟨w.heap.size, 0, none⟩) (by simp <;> omega)).trans (by simp [go_sem]); have r1 : w2.cell? ⟨w.heap.size, 1, none⟩ = some (.int .i64 0) := cl_kept hb (by first | (simp [go_sem]; done) | (simp [go_sem, World.cell?_alloc_past]; done)); have f1' : w2.frozen? ⟨w.heap.size, 1, none⟩ = false := (hb.frozen (p := ⟨w.heap.size, 1, none⟩) (by simp <;> omega)).trans (by simp [go_sem]); have r2 : w2.cell? ⟨w.heap.size, 2, none⟩ = some (.int .i64 0) := cl_kept hb (by first | (simp [go_sem]; done) | (simp [go_sem, World.cell?_alloc_past]; done)); have f2' : w2.frozen? ⟨w.heap.size, 2, none⟩ = false := (hb.frozen (p := ⟨w.heap.size, 2, none⟩) (by simp <;> omega)).trans (by simp [go_sem]); have r3 : w2.cell? ⟨w.heap.size, 3, none⟩ = some (.int .i64 0) := cl_kept hb (by first | (simp [go_sem]; done) | (simp [go_sem, World.cell?_alloc_past]; done)); have f3' : w2.frozen? ⟨w.heap.size, 3, none⟩ = false := (hb.frozen (p := ⟨w.heap.size, 3, none⟩) (by simp <;> omega)).trans (by simp [go_sem]); have r4 : w2.cell? ⟨w.heap.size, 4, none⟩ = some (.int .i64 0) := cl_kept hb (by first | (simp [go_sem]; done) | (simp [go_sem, World.cell?_alloc_past]; done)); have f4' : w2.frozen? ⟨w.heap.size, 4, none⟩ = false := (hb.frozen (p := ⟨w.heap.size, 4, none⟩) (by simp <;> omega)).trans (by simp [go_sem]); have r5 : w2.cell? ⟨w.heap.size, 5, none⟩ = some (.int .i64 0) := cl_kept hb (by first | (simp [go_sem]; done) | (simp [go_sem, World.cell?_alloc_past]; done)); have f5' : w2.frozen? ⟨w.heap.size, 5, none⟩ = false := (hb.frozen (p := ⟨w.heap.size, 5, none⟩) (by simp <;> omega)).trans (by simp [go_sem]); have zz0 : w.heap.size < w2.heap.size := World.block_lt_of_cell? (w := w2) (a := ⟨w.heap.size, 0, none⟩) r0; have zz1 : w.heap.size < w2.heap.size + 1 := (by omega); have zz2 : w.heap.size < w2.heap.size + 1 + 1 := (by omega); have zz3 : w.heap.size < w2.heap.size + 1 + 1 + 1 := (by omega); have zz4 : w.heap.size < w2.heap.size + 1 + 1 + 1 + 1 := (by omega); have zz5 : w.heap.size < w2.heap.size + 1 + 1 + 1 + 1 + 1 := (by omega); have HB : Hid (Below w.heap.size w w2) := bl_via (bl_alloc (bl_alloc (bl_refl _))) hb; clear hb)
  refine bodyPost_ret (v := .tuple #[.agg #[.int .i64 v0, .int .i64 v1, .int .i64 v2, .int .i64 v3, .int .i64 v4, .int .i64 v5], .int .i64 0]) ?_ rfl ⟨rfl, ?_⟩
  · first | (simp [results, Tryd.results40, go_sem, *]; done) | (simp [results, Tryd.results40, go_sem, World.cell?_alloc_past, *]; done)
  · with_reducible repeat' (first | exact HB.out | refine bl_set ?_ ?_ | refine bl_alloc ?_ | refine bl_drew ?_)
    all_goals (first | (simp; done) | (simp; omega))

set_option maxHeartbeats 1600000 in
theorem Corners1_yes (x y k : Int) (pt : Nat) (w : World) (h : triB x y k = true) (hs : Steps w) (ht : Tr w pt x y k) :
    Calls Tryd.prog 42 #[.pointer (some ⟨pt, 0, none⟩)] w fun r w' => r = .returned (.tuple #[.agg #[.int .i64 (2 * x + 1), .int .i64 (2 * y + 1), .int .i64 (c1x x k), .int .i64 (c1y y k), .int .i64 (c2x x k), .int .i64 (c2y y k)], .int .i64 0]) ∧ Below w.heap.size w w' := by
  have zb := ht.lt
  obtain ⟨b0, b1, b2⟩ := ht
  have HS : Hid (Steps w) := hs
  clear hs
  go_enter Tryd.func42, Tryd.ntmps42
  go_wp2_with (go_at_call 43; refine (corners_any _ _ _ _ h (HS.out.kept (bl_alloc (bl_refl _)))).mono ?_; rintro r w2 ⟨rfl, hb⟩; have r0 : w2.cell? ⟨w.heap.size, 0, none⟩ = some (.int .i64 0) := cl_kept hb (by first | (simp [go_sem]; done) | (simp [go_sem, World.cell?_alloc_past]; done)); have f0' : w2.frozen? ⟨w.heap.size, 0, none⟩ = false := (hb.frozen (p := ⟨w.heap.size, 0, none⟩) (by simp <;> omega)).trans (by simp [go_sem]); have r1 : w2.cell? ⟨w.heap.size, 1, none⟩ = some (.int .i64 0) := cl_kept hb (by first | (simp [go_sem]; done) | (simp [go_sem, World.cell?_alloc_past]; done)); have f1' : w2.frozen? ⟨w.heap.size, 1, none⟩ = false := (hb.frozen (p := ⟨w.heap.size, 1, none⟩) (by simp <;> omega)).trans (by simp [go_sem]); have r2 : w2.cell? ⟨w.heap.size, 2, none⟩ = some (.int .i64 0) := cl_kept hb (by first | (simp [go_sem]; done) | (simp [go_sem, World.cell?_alloc_past]; done)); have f2' : w2.frozen? ⟨w.heap.size, 2, none⟩ = false := (hb.frozen (p := ⟨w.heap.size, 2, none⟩) (by simp <;> omega)).trans (by simp [go_sem]); have r3 : w2.cell? ⟨w.heap.size, 3, none⟩ = some (.int .i64 0) := cl_kept hb (by first | (simp [go_sem]; done) | (simp [go_sem, World.cell?_alloc_past]; done)); have f3' : w2.frozen? ⟨w.heap.size, 3, none⟩ = false := (hb.frozen (p := ⟨w.heap.size, 3, none⟩) (by simp <;> omega)).trans (by simp [go_sem]); have r4 : w2.cell? ⟨w.heap.size, 4, none⟩ = some (.int .i64 0) := cl_kept hb (by first | (simp [go_sem]; done) | (simp [go_sem, World.cell?_alloc_past]; done)); have f4' : w2.frozen? ⟨w.heap.size, 4, none⟩ = false := (hb.frozen (p := ⟨w.heap.size, 4, none⟩) (by simp <;> omega)).trans (by simp [go_sem]); have r5 : w2.cell? ⟨w.heap.size, 5, none⟩ = some (.int .i64 0) := cl_kept hb (by first | (simp [go_sem]; done) | (simp [go_sem, World.cell?_alloc_past]; done)); have f5' : w2.frozen? ⟨w.heap.size, 5, none⟩ = false := (hb.frozen (p := ⟨w.heap.size, 5, none⟩) (by simp <;> omega)).trans (by simp [go_sem]); have zz0 : w.heap.size < w2.heap.size := World.block_lt_of_cell? (w := w2) (a := ⟨w.heap.size, 0, none⟩) r0; have zz1 : w.heap.size < w2.heap.size + 1 := (by omega); have zz2 : w.heap.size < w2.heap.size + 1 + 1 := (by omega); have zz3 : w.heap.size < w2.heap.size + 1 + 1 + 1 := (by omega); have zz4 : w.heap.size < w2.heap.size + 1 + 1 + 1 + 1 := (by omega); have zz5 : w.heap.size < w2.heap.size + 1 + 1 + 1 + 1 + 1 := (by omega); have HB : Hid (Below w.heap.size w w2) := bl_via (bl_alloc (bl_refl _)) hb; clear hb)
  refine bodyPost_ret (v := .tuple #[.agg #[.int .i64 (2 * x + 1), .int .i64 (2 * y + 1), .int .i64 (c1x x k), .int .i64 (c1y y k), .int .i64 (c2x x k), .int .i64 (c2y y k)], .int .i64 0]) ?_ rfl ⟨rfl, ?_⟩
  · first | (simp [results, Tryd.results42, go_sem, *]; done) | (simp [results, Tryd.results42, go_sem, World.cell?_alloc_past, *]; done)
  · with_reducible repeat' (first | exact HB.out | refine bl_set ?_ ?_ | refine bl_alloc ?_ | refine bl_drew ?_)
    all_goals (first | (simp; done) | (simp; omega))

set_option maxHeartbeats 1600000 in
theorem Corners_yes (x y k : Int) (w : World) (h : triB x y k = true) (hs : Steps w) :
    Calls Tryd.prog 9 #[.agg #[.int .i64 x, .int .i64 y, .int .i64 k]] w fun r w' => r = .returned (.tuple #[.agg #[.int .i64 (2 * x + 1), .int .i64 (2 * y + 1), .int .i64 (c1x x k), .int .i64 (c1y y k), .int .i64 (c2x x k), .int .i64 (c2y y k)], .int .i64 0]) ∧ Below w.heap.size w w' := by
  have hmf := make_func
  have HC : Hid (∀ (pt : Nat) (W : World), Below w.heap.size w W → Tr W pt x y k → Calls Tryd.prog 42 #[.pointer (some ⟨pt, 0, none⟩)] W fun r w' => r = .returned (.tuple #[.agg #[.int .i64 (2 * x + 1), .int .i64 (2 * y + 1), .int .i64 (c1x x k), .int .i64 (c1y y k), .int .i64 (c2x x k), .int .i64 (c2y y k)], .int .i64 0]) ∧ Below W.heap.size W w') := fun pt W hW ht => Corners1_yes x y k pt W h (hs.kept hW) ht
  clear hs
  go_enter Tryd.func9, Tryd.ntmps9
  go_wp2_with (first | (go_at_call 41; refine (mayTri_any _ _ _ _).mono ?_; rintro r w3 ⟨rfl, o2, rfl⟩) | (go_at_call 40; refine (answerCorners_yes _ _ _ _ _ _ _ _ (fun W hW => HC.out _ W (bl_via (bl_alloc (bl_alloc (bl_alloc (bl_refl _)))) hW) (Tr.kept (by simp [Tr, go_sem]) hW))).mono ?_; rintro r w2 ⟨rfl, hb⟩; have r0 : w2.cell? ⟨w.heap.size + 1, 0, none⟩ = some (.int .i64 0) := cl_kept hb (by first | (simp [go_sem]; done) | (simp [go_sem, World.cell?_alloc_past]; done)); have f0' : w2.frozen? ⟨w.heap.size + 1, 0, none⟩ = false := (hb.frozen (p := ⟨w.heap.size + 1, 0, none⟩) (by simp <;> omega)).trans (by simp [go_sem]); have r1 : w2.cell? ⟨w.heap.size + 1, 1, none⟩ = some (.int .i64 0) := cl_kept hb (by first | (simp [go_sem]; done) | (simp [go_sem, World.cell?_alloc_past]; done)); have f1' : w2.frozen? ⟨w.heap.size + 1, 1, none⟩ = false := (hb.frozen (p := ⟨w.heap.size + 1, 1, none⟩) (by simp <;> omega)).trans (by simp [go_sem]); have r2 : w2.cell? ⟨w.heap.size + 1, 2, none⟩ = some (.int .i64 0) := cl_kept hb (by first | (simp [go_sem]; done) | (simp [go_sem, World.cell?_alloc_past]; done)); have f2' : w2.frozen? ⟨w.heap.size + 1, 2, none⟩ = false := (hb.frozen (p := ⟨w.heap.size + 1, 2, none⟩) (by simp <;> omega)).trans (by simp [go_sem]); have r3 : w2.cell? ⟨w.heap.size + 1, 3, none⟩ = some (.int .i64 0) := cl_kept hb (by first | (simp [go_sem]; done) | (simp [go_sem, World.cell?_alloc_past]; done)); have f3' : w2.frozen? ⟨w.heap.size + 1, 3, none⟩ = false := (hb.frozen (p := ⟨w.heap.size + 1, 3, none⟩) (by simp <;> omega)).trans (by simp [go_sem]); have r4 : w2.cell? ⟨w.heap.size + 1, 4, none⟩ = some (.int .i64 0) := cl_kept hb (by first | (simp [go_sem]; done) | (simp [go_sem, World.cell?_alloc_past]; done)); have f4' : w2.frozen? ⟨w.heap.size + 1, 4, none⟩ = false := (hb.frozen (p := ⟨w.heap.size + 1, 4, none⟩) (by simp <;> omega)).trans (by simp [go_sem]); have r5 : w2.cell? ⟨w.heap.size + 1, 5, none⟩ = some (.int .i64 0) := cl_kept hb (by first | (simp [go_sem]; done) | (simp [go_sem, World.cell?_alloc_past]; done)); have f5' : w2.frozen? ⟨w.heap.size + 1, 5, none⟩ = false := (hb.frozen (p := ⟨w.heap.size + 1, 5, none⟩) (by simp <;> omega)).trans (by simp [go_sem]); have zz0 : w.heap.size + 1 < w2.heap.size := World.block_lt_of_cell? (w := w2) (a := ⟨w.heap.size + 1, 0, none⟩) r0; have zz1 : w.heap.size + 1 < w2.heap.size + 1 := (by omega); have zz2 : w.heap.size + 1 < w2.heap.size + 1 + 1 := (by omega); have zz3 : w.heap.size + 1 < w2.heap.size + 1 + 1 + 1 := (by omega); have zz4 : w.heap.size + 1 < w2.heap.size + 1 + 1 + 1 + 1 := (by omega); have zz5 : w.heap.size + 1 < w2.heap.size + 1 + 1 + 1 + 1 + 1 := (by omega); have HB : Hid (Below w.heap.size w w2) := bl_via (bl_alloc (bl_alloc (bl_alloc (bl_refl _)))) hb; clear hb))
  refine bodyPost_ret (v := .tuple #[.agg #[.int .i64 (2 * x + 1), .int .i64 (2 * y + 1), .int .i64 (c1x x k), .int .i64 (c1y y k), .int .i64 (c2x x k), .int .i64 (c2y y k)], .int .i64 0]) ?_ rfl ⟨rfl, ?_⟩
  · first | (simp [results, Tryd.results9, go_sem, *]; done) | (simp [results, Tryd.results9, go_sem, World.cell?_alloc_past, *]; done)
  · with_reducible repeat' (first | exact HB.out | refine bl_set ?_ ?_ | refine bl_alloc ?_ | refine bl_drew ?_)
    all_goals (first | (simp; done) | (simp; omega))

set_option maxHeartbeats 1600000 in
theorem Corners_out (x y k : Int) (w : World) (h : triB x y k = false) :
    Calls Tryd.prog 9 #[.agg #[.int .i64 x, .int .i64 y, .int .i64 k]] w fun r w' => r = .returned (.tuple #[.agg #[.int .i64 0, .int .i64 0, .int .i64 0, .int .i64 0, .int .i64 0, .int .i64 0], .int .i64 3]) ∧ Below w.heap.size w w' := by
  have hmf := make_func
  go_enter Tryd.func9, Tryd.ntmps9
  go_wp2_with (first | (go_at_call 41; refine (mayTri_any _ _ _ _).mono ?_; rintro r w3 ⟨rfl, o2, rfl⟩) | (go_at_call 40; refine (answerCorners_no _ _).mono ?_; rintro r w2 ⟨rfl, o3, o4, rfl⟩))
  refine bodyPost_ret (v := .tuple #[.agg #[.int .i64 0, .int .i64 0, .int .i64 0, .int .i64 0, .int .i64 0, .int .i64 0], .int .i64 3]) (by simp [results, Tryd.results9, go_sem]) rfl ⟨rfl, ?_⟩
  with_reducible repeat' (first | exact bl_refl _ | refine bl_set ?_ ?_ | refine bl_alloc ?_ | refine bl_drew ?_)
  all_goals (first | (simp; done) | (simp; omega))

theorem edges_num (x y k : Int) (w : World) (h : triB x y k = true) (hs : Steps w) :
    Calls Tryd.prog 46 #[.agg #[.int .i64 x, .int .i64 y, .int .i64 k]] w fun r w' => r = .returned (.agg #[.int .i64 (ue0 x y k), .int .i64 (ue1 x y k), .int .i64 (ue2 x y k), .int .i64 (ue3 x y k), .int .i64 (ue4 x y k), .int .i64 (ue5 x y k), .int .i64 (ue6 x y k), .int .i64 (ue7 x y k), .int .i64 (ue8 x y k), .int .i64 (ue9 x y k), .int .i64 (ue10 x y k), .int .i64 (ue11 x y k)]) ∧ Below w.heap.size w w' := edges_any x y k w h hs

theorem answerEdges_no (f : Value) (w : World) :
    Calls Tryd.prog 44 #[.bool false, f] w fun r w' => r = .returned (.tuple #[.agg #[.int .i64 0, .int .i64 0, .int .i64 0, .int .i64 0, .int .i64 0, .int .i64 0, .int .i64 0, .int .i64 0, .int .i64 0, .int .i64 0, .int .i64 0, .int .i64 0], .int .i64 3]) ∧ ∃ o1 o2, w' = (w.alloc o1).alloc o2 := by
  go_enter Tryd.func44, Tryd.ntmps44
  go_wp2
  exact bodyPost_ret (v := .tuple #[.agg #[.int .i64 0, .int .i64 0, .int .i64 0, .int .i64 0, .int .i64 0, .int .i64 0, .int .i64 0, .int .i64 0, .int .i64 0, .int .i64 0, .int .i64 0, .int .i64 0], .int .i64 3]) (by simp [results, Tryd.results44, go_sem]) rfl ⟨rfl, _, _, rfl⟩

set_option maxHeartbeats 1600000 in
theorem answerEdges_yes (v0 v1 v2 v3 v4 v5 v6 v7 v8 v9 v10 v11 : Int) (pt : Nat) (w : World) (hcall : ∀ W : World, Below w.heap.size w W → Calls Tryd.prog 45 #[.pointer (some ⟨pt, 0, none⟩)] W fun r w' => r = .returned (.tuple #[.agg #[.int .i64 v0, .int .i64 v1, .int .i64 v2, .int .i64 v3, .int .i64 v4, .int .i64 v5, .int .i64 v6, .int .i64 v7, .int .i64 v8, .int .i64 v9, .int .i64 v10, .int .i64 v11], .int .i64 0]) ∧ Below W.heap.size W w') :
    Calls Tryd.prog 44 #[.bool true, .func (.func 45) #[] #[.pointer (some ⟨pt, 0, none⟩)]] w fun r w' => r = .returned (.tuple #[.agg #[.int .i64 v0, .int .i64 v1, .int .i64 v2, .int .i64 v3, .int .i64 v4, .int .i64 v5, .int .i64 v6, .int .i64 v7, .int .i64 v8, .int .i64 v9, .int .i64 v10, .int .i64 v11], .int .i64 0]) ∧ Below w.heap.size w w' := by
  have HC : Hid (∀ W : World, Below w.heap.size w W → Calls Tryd.prog 45 #[.pointer (some ⟨pt, 0, none⟩)] W fun r w' => r = .returned (.tuple #[.agg #[.int .i64 v0, .int .i64 v1, .int .i64 v2, .int .i64 v3, .int .i64 v4, .int .i64 v5, .int .i64 v6, .int .i64 v7, .int .i64 v8, .int .i64 v9, .int .i64 v10, .int .i64 v11], .int .i64 0]) ∧ Below W.heap.size W w') := hcall
  clear hcall
  go_enter Tryd.func44, Tryd.ntmps44
  go_wp2_with (go_at_call 45; refine (HC.out _ (bl_alloc (bl_alloc (bl_refl _)))).mono ?_; rintro r w2 ⟨rfl, hb⟩; have r0 : w2.cell? ⟨w.heap.size, 0, none⟩ = some (.int .i64 0) := cl_kept hb (by first | (simp [go_sem]; done) | (simp [go_sem, World.cell?_alloc_past]; done)); have f0' : w2.frozen? ⟨w.heap.size, 0, none⟩ = false := (hb.frozen (p := ⟨w.heap.size, 0, none⟩) (by simp <;> omega)).trans (by simp [go_sem]); have r1 : w2.cell? ⟨w.heap.size, 1, none⟩ = some (.int .i64 0) := cl_kept hb (by first | (simp [go_sem]; done) | (simp [go_sem, World.cell?_alloc_past]; done)); have f1' : w2.frozen? ⟨w.heap.size, 1, none⟩ = false := (hb.frozen (p := ⟨w.heap.size, 1, none⟩) (by simp <;> omega)).trans (by simp [go_sem]); have r2 : w2.cell? ⟨w.heap.size, 2, none⟩ = some (.int .i64 0) := cl_kept hb (by first | (simp [go_sem]; done) | (simp [go_sem, World.cell?_alloc_past]; done)); have f2' : w2.frozen? ⟨w.heap.size, 2, none⟩ = false := (hb.frozen (p := ⟨w.heap.size, 2, none⟩) (by simp <;> omega)).trans (by simp [go_sem]); have r3 : w2.cell? ⟨w.heap.size, 3, none⟩ = some (.int .i64 0) := cl_kept hb (by first | (simp [go_sem]; done) | (simp [go_sem, World.cell?_alloc_past]; done)); have f3' : w2.frozen? ⟨w.heap.size, 3, none⟩ = false := (hb.frozen (p := ⟨w.heap.size, 3, none⟩) (by simp <;> omega)).trans (by simp [go_sem]); have r4 : w2.cell? ⟨w.heap.size, 4, none⟩ = some (.int .i64 0) := cl_kept hb (by first | (simp [go_sem]; done) | (simp [go_sem, World.cell?_alloc_past]; done)); have f4' : w2.frozen? ⟨w.heap.size, 4, none⟩ = false := (hb.frozen (p := ⟨w.heap.size, 4, none⟩) (by simp <;> omega)).trans (by simp [go_sem]); have r5 : w2.cell? ⟨w.heap.size, 5, none⟩ = some (.int .i64 0) := cl_kept hb (by first | (simp [go_sem]; done) | (simp [go_sem, World.cell?_alloc_past]; done)); have f5' : w2.frozen? ⟨w.heap.size, 5, none⟩ = false := (hb.frozen (p := ⟨w.heap.size, 5, none⟩) (by simp <;> omega)).trans (by simp [go_sem]); have r6 : w2.cell? ⟨w.heap.size, 6, none⟩ = some (.int .i64 0) := cl_kept hb (by first | (simp [go_sem]; done) | (simp [go_sem, World.cell?_alloc_past]; done)); have f6' : w2.frozen? ⟨w.heap.size, 6, none⟩ = false := (hb.frozen (p := ⟨w.heap.size, 6, none⟩) (by simp <;> omega)).trans (by simp [go_sem]); have r7 : w2.cell? ⟨w.heap.size, 7, none⟩ = some (.int .i64 0) := cl_kept hb (by first | (simp [go_sem]; done) | (simp [go_sem, World.cell?_alloc_past]; done)); have f7' : w2.frozen? ⟨w.heap.size, 7, none⟩ = false := (hb.frozen (p := ⟨w.heap.size, 7, none⟩) (by simp <;> omega)).trans (by simp [go_sem]); have r8 : w2.cell? ⟨w.heap.size, 8, none⟩ = some (.int .i64 0) := cl_kept hb (by first | (simp [go_sem]; done) | (simp [go_sem, World.cell?_alloc_past]; done)); have f8' : w2.frozen? ⟨w.heap.size, 8, none⟩ = false := (hb.frozen (p := ⟨w.heap.size, 8, none⟩) (by simp <;> omega)).trans (by simp [go_sem]); have r9 : w2.cell? ⟨w.heap.size, 9, none⟩ = some (.int .i64 0) := cl_kept hb (by first | (simp [go_sem]; done) | (simp [go_sem, World.cell?_alloc_past]; done)); have f9' : w2.frozen? ⟨w.heap.size, 9, none⟩ = false := (hb.frozen (p := ⟨w.heap.size, 9, none⟩) (by simp <;> omega)).trans (by simp [go_sem]); have r10 : w2.cell? ⟨w.heap.size, 10, none⟩ = some (.int .i64 0) := cl_kept hb (by first | (simp [go_sem]; done) | (simp [go_sem, World.cell?_alloc_past]; done)); have f10' : w2.frozen? ⟨w.heap.size, 10, none⟩ = false := (hb.frozen (p := ⟨w.heap.size, 10, none⟩) (by simp <;> omega)).trans (by simp [go_sem]); have r11 : w2.cell? ⟨w.heap.size, 11, none⟩ = some (.int .i64 0) := cl_kept hb (by first | (simp [go_sem]; done) | (simp [go_sem, World.cell?_alloc_past]; done)); have f11' : w2.frozen? ⟨w.heap.size, 11, none⟩ = false := (hb.frozen (p := ⟨w.heap.size, 11, none⟩) (by simp <;> omega)).trans (by simp [go_sem]); have zz0 : w.heap.size < w2.heap.size := World.block_lt_of_cell? (w := w2) (a := ⟨w.heap.size, 0, none⟩) r0; have zz1 : w.heap.size < w2.heap.size + 1 := (by omega); have zz2 : w.heap.size < w2.heap.size + 1 + 1 := (by omega); have zz3 : w.heap.size < w2.heap.size + 1 + 1 + 1 := (by omega); have zz4 : w.heap.size < w2.heap.size + 1 + 1 + 1 + 1 := (by omega); have zz5 : w.heap.size < w2.heap.size + 1 + 1 + 1 + 1 + 1 := (by omega); have HB : Hid (Below w.heap.size w w2) := bl_via (bl_alloc (bl_alloc (bl_refl _))) hb; clear hb)
  refine bodyPost_ret (v := .tuple #[.agg #[.int .i64 v0, .int .i64 v1, .int .i64 v2, .int .i64 v3, .int .i64 v4, .int .i64 v5, .int .i64 v6, .int .i64 v7, .int .i64 v8, .int .i64 v9, .int .i64 v10, .int .i64 v11], .int .i64 0]) ?_ rfl ⟨rfl, ?_⟩
  · first | (simp [results, Tryd.results44, go_sem, *]; done) | (simp [results, Tryd.results44, go_sem, World.cell?_alloc_past, *]; done)
  · with_reducible repeat' (first | exact HB.out | refine bl_set ?_ ?_ | refine bl_alloc ?_ | refine bl_drew ?_)
    all_goals (first | (simp; done) | (simp; omega))

set_option maxHeartbeats 1600000 in
theorem Edges1_yes (x y k : Int) (pt : Nat) (w : World) (h : triB x y k = true) (hs : Steps w) (ht : Tr w pt x y k) :
    Calls Tryd.prog 45 #[.pointer (some ⟨pt, 0, none⟩)] w fun r w' => r = .returned (.tuple #[.agg #[.int .i64 (ue0 x y k), .int .i64 (ue1 x y k), .int .i64 (ue2 x y k), .int .i64 (ue3 x y k), .int .i64 (ue4 x y k), .int .i64 (ue5 x y k), .int .i64 (ue6 x y k), .int .i64 (ue7 x y k), .int .i64 (ue8 x y k), .int .i64 (ue9 x y k), .int .i64 (ue10 x y k), .int .i64 (ue11 x y k)], .int .i64 0]) ∧ Below w.heap.size w w' := by
  have zb := ht.lt
  obtain ⟨b0, b1, b2⟩ := ht
  have HS : Hid (Steps w) := hs
  clear hs
  go_enter Tryd.func45, Tryd.ntmps45
  go_wp2_with (go_at_call 46; refine (edges_num _ _ _ _ h (HS.out.kept (bl_alloc (bl_refl _)))).mono ?_; rintro r w2 ⟨rfl, hb⟩; have r0 : w2.cell? ⟨w.heap.size, 0, none⟩ = some (.int .i64 0) := cl_kept hb (by first | (simp [go_sem]; done) | (simp [go_sem, World.cell?_alloc_past]; done)); have f0' : w2.frozen? ⟨w.heap.size, 0, none⟩ = false := (hb.frozen (p := ⟨w.heap.size, 0, none⟩) (by simp <;> omega)).trans (by simp [go_sem]); have r1 : w2.cell? ⟨w.heap.size, 1, none⟩ = some (.int .i64 0) := cl_kept hb (by first | (simp [go_sem]; done) | (simp [go_sem, World.cell?_alloc_past]; done)); have f1' : w2.frozen? ⟨w.heap.size, 1, none⟩ = false := (hb.frozen (p := ⟨w.heap.size, 1, none⟩) (by simp <;> omega)).trans (by simp [go_sem]); have r2 : w2.cell? ⟨w.heap.size, 2, none⟩ = some (.int .i64 0) := cl_kept hb (by first | (simp [go_sem]; done) | (simp [go_sem, World.cell?_alloc_past]; done)); have f2' : w2.frozen? ⟨w.heap.size, 2, none⟩ = false := (hb.frozen (p := ⟨w.heap.size, 2, none⟩) (by simp <;> omega)).trans (by simp [go_sem]); have r3 : w2.cell? ⟨w.heap.size, 3, none⟩ = some (.int .i64 0) := cl_kept hb (by first | (simp [go_sem]; done) | (simp [go_sem, World.cell?_alloc_past]; done)); have f3' : w2.frozen? ⟨w.heap.size, 3, none⟩ = false := (hb.frozen (p := ⟨w.heap.size, 3, none⟩) (by simp <;> omega)).trans (by simp [go_sem]); have r4 : w2.cell? ⟨w.heap.size, 4, none⟩ = some (.int .i64 0) := cl_kept hb (by first | (simp [go_sem]; done) | (simp [go_sem, World.cell?_alloc_past]; done)); have f4' : w2.frozen? ⟨w.heap.size, 4, none⟩ = false := (hb.frozen (p := ⟨w.heap.size, 4, none⟩) (by simp <;> omega)).trans (by simp [go_sem]); have r5 : w2.cell? ⟨w.heap.size, 5, none⟩ = some (.int .i64 0) := cl_kept hb (by first | (simp [go_sem]; done) | (simp [go_sem, World.cell?_alloc_past]; done)); have f5' : w2.frozen? ⟨w.heap.size, 5, none⟩ = false := (hb.frozen (p := ⟨w.heap.size, 5, none⟩) (by simp <;> omega)).trans (by simp [go_sem]); have r6 : w2.cell? ⟨w.heap.size, 6, none⟩ = some (.int .i64 0) := cl_kept hb (by first | (simp [go_sem]; done) | (simp [go_sem, World.cell?_alloc_past]; done)); have f6' : w2.frozen? ⟨w.heap.size, 6, none⟩ = false := (hb.frozen (p := ⟨w.heap.size, 6, none⟩) (by simp <;> omega)).trans (by simp [go_sem]); have r7 : w2.cell? ⟨w.heap.size, 7, none⟩ = some (.int .i64 0) := cl_kept hb (by first | (simp [go_sem]; done) | (simp [go_sem, World.cell?_alloc_past]; done)); have f7' : w2.frozen? ⟨w.heap.size, 7, none⟩ = false := (hb.frozen (p := ⟨w.heap.size, 7, none⟩) (by simp <;> omega)).trans (by simp [go_sem]); have r8 : w2.cell? ⟨w.heap.size, 8, none⟩ = some (.int .i64 0) := cl_kept hb (by first | (simp [go_sem]; done) | (simp [go_sem, World.cell?_alloc_past]; done)); have f8' : w2.frozen? ⟨w.heap.size, 8, none⟩ = false := (hb.frozen (p := ⟨w.heap.size, 8, none⟩) (by simp <;> omega)).trans (by simp [go_sem]); have r9 : w2.cell? ⟨w.heap.size, 9, none⟩ = some (.int .i64 0) := cl_kept hb (by first | (simp [go_sem]; done) | (simp [go_sem, World.cell?_alloc_past]; done)); have f9' : w2.frozen? ⟨w.heap.size, 9, none⟩ = false := (hb.frozen (p := ⟨w.heap.size, 9, none⟩) (by simp <;> omega)).trans (by simp [go_sem]); have r10 : w2.cell? ⟨w.heap.size, 10, none⟩ = some (.int .i64 0) := cl_kept hb (by first | (simp [go_sem]; done) | (simp [go_sem, World.cell?_alloc_past]; done)); have f10' : w2.frozen? ⟨w.heap.size, 10, none⟩ = false := (hb.frozen (p := ⟨w.heap.size, 10, none⟩) (by simp <;> omega)).trans (by simp [go_sem]); have r11 : w2.cell? ⟨w.heap.size, 11, none⟩ = some (.int .i64 0) := cl_kept hb (by first | (simp [go_sem]; done) | (simp [go_sem, World.cell?_alloc_past]; done)); have f11' : w2.frozen? ⟨w.heap.size, 11, none⟩ = false := (hb.frozen (p := ⟨w.heap.size, 11, none⟩) (by simp <;> omega)).trans (by simp [go_sem]); have zz0 : w.heap.size < w2.heap.size := World.block_lt_of_cell? (w := w2) (a := ⟨w.heap.size, 0, none⟩) r0; have zz1 : w.heap.size < w2.heap.size + 1 := (by omega); have zz2 : w.heap.size < w2.heap.size + 1 + 1 := (by omega); have zz3 : w.heap.size < w2.heap.size + 1 + 1 + 1 := (by omega); have zz4 : w.heap.size < w2.heap.size + 1 + 1 + 1 + 1 := (by omega); have zz5 : w.heap.size < w2.heap.size + 1 + 1 + 1 + 1 + 1 := (by omega); have HB : Hid (Below w.heap.size w w2) := bl_via (bl_alloc (bl_refl _)) hb; clear hb)
  refine bodyPost_ret (v := .tuple #[.agg #[.int .i64 (ue0 x y k), .int .i64 (ue1 x y k), .int .i64 (ue2 x y k), .int .i64 (ue3 x y k), .int .i64 (ue4 x y k), .int .i64 (ue5 x y k), .int .i64 (ue6 x y k), .int .i64 (ue7 x y k), .int .i64 (ue8 x y k), .int .i64 (ue9 x y k), .int .i64 (ue10 x y k), .int .i64 (ue11 x y k)], .int .i64 0]) ?_ rfl ⟨rfl, ?_⟩
  · first | (simp [results, Tryd.results45, go_sem, *]; done) | (simp [results, Tryd.results45, go_sem, World.cell?_alloc_past, *]; done)
  · with_reducible repeat' (first | exact HB.out | refine bl_set ?_ ?_ | refine bl_alloc ?_ | refine bl_drew ?_)
    all_goals (first | (simp; done) | (simp; omega))

set_option maxHeartbeats 1600000 in
theorem Edges_yes (x y k : Int) (w : World) (h : triB x y k = true) (hs : Steps w) :
    Calls Tryd.prog 10 #[.agg #[.int .i64 x, .int .i64 y, .int .i64 k]] w fun r w' => r = .returned (.tuple #[.agg #[.int .i64 (ue0 x y k), .int .i64 (ue1 x y k), .int .i64 (ue2 x y k), .int .i64 (ue3 x y k), .int .i64 (ue4 x y k), .int .i64 (ue5 x y k), .int .i64 (ue6 x y k), .int .i64 (ue7 x y k), .int .i64 (ue8 x y k), .int .i64 (ue9 x y k), .int .i64 (ue10 x y k), .int .i64 (ue11 x y k)], .int .i64 0]) ∧ Below w.heap.size w w' := by
  have hmf := make_func
  have HC : Hid (∀ (pt : Nat) (W : World), Below w.heap.size w W → Tr W pt x y k → Calls Tryd.prog 45 #[.pointer (some ⟨pt, 0, none⟩)] W fun r w' => r = .returned (.tuple #[.agg #[.int .i64 (ue0 x y k), .int .i64 (ue1 x y k), .int .i64 (ue2 x y k), .int .i64 (ue3 x y k), .int .i64 (ue4 x y k), .int .i64 (ue5 x y k), .int .i64 (ue6 x y k), .int .i64 (ue7 x y k), .int .i64 (ue8 x y k), .int .i64 (ue9 x y k), .int .i64 (ue10 x y k), .int .i64 (ue11 x y k)], .int .i64 0]) ∧ Below W.heap.size W w') := fun pt W hW ht => Edges1_yes x y k pt W h (hs.kept hW) ht
  clear hs
  go_enter Tryd.func10, Tryd.ntmps10
  go_wp2_with (first | (go_at_call 41; refine (mayTri_any _ _ _ _).mono ?_; rintro r w3 ⟨rfl, o2, rfl⟩) | (go_at_call 44; refine (answerEdges_yes _ _ _ _ _ _ _ _ _ _ _ _ _ _ (fun W hW => HC.out _ W (bl_via (bl_alloc (bl_alloc (bl_alloc (bl_refl _)))) hW) (Tr.kept (by simp [Tr, go_sem]) hW))).mono ?_; rintro r w2 ⟨rfl, hb⟩; have r0 : w2.cell? ⟨w.heap.size + 1, 0, none⟩ = some (.int .i64 0) := cl_kept hb (by first | (simp [go_sem]; done) | (simp [go_sem, World.cell?_alloc_past]; done)); have f0' : w2.frozen? ⟨w.heap.size + 1, 0, none⟩ = false := (hb.frozen (p := ⟨w.heap.size + 1, 0, none⟩) (by simp <;> omega)).trans (by simp [go_sem]); have r1 : w2.cell? ⟨w.heap.size + 1, 1, none⟩ = some (.int .i64 0) := cl_kept hb (by first | (simp [go_sem]; done) | (simp [go_sem, World.cell?_alloc_past]; done)); have f1' : w2.frozen? ⟨w.heap.size + 1, 1, none⟩ = false := (hb.frozen (p := ⟨w.heap.size + 1, 1, none⟩) (by simp <;> omega)).trans (by simp [go_sem]); have r2 : w2.cell? ⟨w.heap.size + 1, 2, none⟩ = some (.int .i64 0) := cl_kept hb (by first | (simp [go_sem]; done) | (simp [go_sem, World.cell?_alloc_past]; done)); have f2' : w2.frozen? ⟨w.heap.size + 1, 2, none⟩ = false := (hb.frozen (p := ⟨w.heap.size + 1, 2, none⟩) (by simp <;> omega)).trans (by simp [go_sem]); have r3 : w2.cell? ⟨w.heap.size + 1, 3, none⟩ = some (.int .i64 0) := cl_kept hb (by first | (simp [go_sem]; done) | (simp [go_sem, World.cell?_alloc_past]; done)); have f3' : w2.frozen? ⟨w.heap.size + 1, 3, none⟩ = false := (hb.frozen (p := ⟨w.heap.size + 1, 3, none⟩) (by simp <;> omega)).trans (by simp [go_sem]); have r4 : w2.cell? ⟨w.heap.size + 1, 4, none⟩ = some (.int .i64 0) := cl_kept hb (by first | (simp [go_sem]; done) | (simp [go_sem, World.cell?_alloc_past]; done)); have f4' : w2.frozen? ⟨w.heap.size + 1, 4, none⟩ = false := (hb.frozen (p := ⟨w.heap.size + 1, 4, none⟩) (by simp <;> omega)).trans (by simp [go_sem]); have r5 : w2.cell? ⟨w.heap.size + 1, 5, none⟩ = some (.int .i64 0) := cl_kept hb (by first | (simp [go_sem]; done) | (simp [go_sem, World.cell?_alloc_past]; done)); have f5' : w2.frozen? ⟨w.heap.size + 1, 5, none⟩ = false := (hb.frozen (p := ⟨w.heap.size + 1, 5, none⟩) (by simp <;> omega)).trans (by simp [go_sem]); have r6 : w2.cell? ⟨w.heap.size + 1, 6, none⟩ = some (.int .i64 0) := cl_kept hb (by first | (simp [go_sem]; done) | (simp [go_sem, World.cell?_alloc_past]; done)); have f6' : w2.frozen? ⟨w.heap.size + 1, 6, none⟩ = false := (hb.frozen (p := ⟨w.heap.size + 1, 6, none⟩) (by simp <;> omega)).trans (by simp [go_sem]); have r7 : w2.cell? ⟨w.heap.size + 1, 7, none⟩ = some (.int .i64 0) := cl_kept hb (by first | (simp [go_sem]; done) | (simp [go_sem, World.cell?_alloc_past]; done)); have f7' : w2.frozen? ⟨w.heap.size + 1, 7, none⟩ = false := (hb.frozen (p := ⟨w.heap.size + 1, 7, none⟩) (by simp <;> omega)).trans (by simp [go_sem]); have r8 : w2.cell? ⟨w.heap.size + 1, 8, none⟩ = some (.int .i64 0) := cl_kept hb (by first | (simp [go_sem]; done) | (simp [go_sem, World.cell?_alloc_past]; done)); have f8' : w2.frozen? ⟨w.heap.size + 1, 8, none⟩ = false := (hb.frozen (p := ⟨w.heap.size + 1, 8, none⟩) (by simp <;> omega)).trans (by simp [go_sem]); have r9 : w2.cell? ⟨w.heap.size + 1, 9, none⟩ = some (.int .i64 0) := cl_kept hb (by first | (simp [go_sem]; done) | (simp [go_sem, World.cell?_alloc_past]; done)); have f9' : w2.frozen? ⟨w.heap.size + 1, 9, none⟩ = false := (hb.frozen (p := ⟨w.heap.size + 1, 9, none⟩) (by simp <;> omega)).trans (by simp [go_sem]); have r10 : w2.cell? ⟨w.heap.size + 1, 10, none⟩ = some (.int .i64 0) := cl_kept hb (by first | (simp [go_sem]; done) | (simp [go_sem, World.cell?_alloc_past]; done)); have f10' : w2.frozen? ⟨w.heap.size + 1, 10, none⟩ = false := (hb.frozen (p := ⟨w.heap.size + 1, 10, none⟩) (by simp <;> omega)).trans (by simp [go_sem]); have r11 : w2.cell? ⟨w.heap.size + 1, 11, none⟩ = some (.int .i64 0) := cl_kept hb (by first | (simp [go_sem]; done) | (simp [go_sem, World.cell?_alloc_past]; done)); have f11' : w2.frozen? ⟨w.heap.size + 1, 11, none⟩ = false := (hb.frozen (p := ⟨w.heap.size + 1, 11, none⟩) (by simp <;> omega)).trans (by simp [go_sem]); have zz0 : w.heap.size + 1 < w2.heap.size := World.block_lt_of_cell? (w := w2) (a := ⟨w.heap.size + 1, 0, none⟩) r0; have zz1 : w.heap.size + 1 < w2.heap.size + 1 := (by omega); have zz2 : w.heap.size + 1 < w2.heap.size + 1 + 1 := (by omega); have zz3 : w.heap.size + 1 < w2.heap.size + 1 + 1 + 1 := (by omega); have zz4 : w.heap.size + 1 < w2.heap.size + 1 + 1 + 1 + 1 := (by omega); have zz5 : w.heap.size + 1 < w2.heap.size + 1 + 1 + 1 + 1 + 1 := (by omega); have HB : Hid (Below w.heap.size w w2) := bl_via (bl_alloc (bl_alloc (bl_alloc (bl_refl _)))) hb; clear hb))
  refine bodyPost_ret (v := .tuple #[.agg #[.int .i64 (ue0 x y k), .int .i64 (ue1 x y k), .int .i64 (ue2 x y k), .int .i64 (ue3 x y k), .int .i64 (ue4 x y k), .int .i64 (ue5 x y k), .int .i64 (ue6 x y k), .int .i64 (ue7 x y k), .int .i64 (ue8 x y k), .int .i64 (ue9 x y k), .int .i64 (ue10 x y k), .int .i64 (ue11 x y k)], .int .i64 0]) ?_ rfl ⟨rfl, ?_⟩
  · first | (simp [results, Tryd.results10, go_sem, *]; done) | (simp [results, Tryd.results10, go_sem, World.cell?_alloc_past, *]; done)
  · with_reducible repeat' (first | exact HB.out | refine bl_set ?_ ?_ | refine bl_alloc ?_ | refine bl_drew ?_)
    all_goals (first | (simp; done) | (simp; omega))

set_option maxHeartbeats 1600000 in
theorem Edges_out (x y k : Int) (w : World) (h : triB x y k = false) :
    Calls Tryd.prog 10 #[.agg #[.int .i64 x, .int .i64 y, .int .i64 k]] w fun r w' => r = .returned (.tuple #[.agg #[.int .i64 0, .int .i64 0, .int .i64 0, .int .i64 0, .int .i64 0, .int .i64 0, .int .i64 0, .int .i64 0, .int .i64 0, .int .i64 0, .int .i64 0, .int .i64 0], .int .i64 3]) ∧ Below w.heap.size w w' := by
  have hmf := make_func
  go_enter Tryd.func10, Tryd.ntmps10
  go_wp2_with (first | (go_at_call 41; refine (mayTri_any _ _ _ _).mono ?_; rintro r w3 ⟨rfl, o2, rfl⟩) | (go_at_call 44; refine (answerEdges_no _ _).mono ?_; rintro r w2 ⟨rfl, o3, o4, rfl⟩))
  refine bodyPost_ret (v := .tuple #[.agg #[.int .i64 0, .int .i64 0, .int .i64 0, .int .i64 0, .int .i64 0, .int .i64 0, .int .i64 0, .int .i64 0, .int .i64 0, .int .i64 0, .int .i64 0, .int .i64 0], .int .i64 3]) (by simp [results, Tryd.results10, go_sem]) rfl ⟨rfl, ?_⟩
  with_reducible repeat' (first | exact bl_refl _ | refine bl_set ?_ ?_ | refine bl_alloc ?_ | refine bl_drew ?_)
  all_goals (first | (simp; done) | (simp; omega))

end Go.Proofs.YthkhiedpkmpifaaDoor

/- Maps put together: the grid's after and the reference's AfterOf. -/
namespace Go.Proofs.YthkhiedpkmpifaaDoor
open Go.RowKit
attribute [local go_sem ↓] Go.wp_at_zero Go.wp_at_succ

def Ef (e f : Int) : Prop := (-1000000 ≤ e ∧ e ≤ 1000000) ∧ (-1000000 ≤ f ∧ f ≤ 1000000)

set_option maxHeartbeats 400000 in
theorem after_any (a b c d e f A B C D E F : Int) (w : World) (hs : Sm a b c d) (hS : Sm A B C D) (he : Ef e f) (hE : Ef E F) :
    Calls Tryd.prog 65 #[.agg #[.int .i64 a, .int .i64 b, .int .i64 c, .int .i64 d, .int .i64 e, .int .i64 f], .agg #[.int .i64 A, .int .i64 B, .int .i64 C, .int .i64 D, .int .i64 E, .int .i64 F]] w fun r w' =>
      r = .returned (.agg #[.int .i64 (dot A B a c), .int .i64 (dot A B b d), .int .i64 (dot C D a c), .int .i64 (dot C D b d), .int .i64 (dot A B e f + E), .int .i64 (dot C D e f + F)]) ∧ Below w.heap.size w w' := by
  obtain ⟨⟨a1, a2⟩, ⟨b1, b2⟩, ⟨c1, c2⟩, ⟨d1, d2⟩⟩ := hs
  obtain ⟨⟨e1, e2⟩, ⟨f1, f2⟩⟩ := he
  have HS : Hid (Sm A B C D) := hS
  have HE : Hid (Ef E F) := hE
  clear hS hE
  go_enter Tryd.func65, Tryd.ntmps65
  go_wp2_with (first | (go_at_call 89; refine (turn_any _ _ _ _ _ _ _ _ _ HS.out (by omega) (by omega) (by omega) (by omega)).mono ?_; rintro e w2 ⟨rfl, o1, o2, o3, rfl⟩) | (go_at_call 90; refine (image_any _ _ _ _ _ _ _ _ _ HS.out HE.out.1 HE.out.2 (by omega) (by omega) (by omega) (by omega)).mono ?_; rintro e w2 ⟨rfl, o4, o5, o6, o7, o8, o9, o10, o11, o12, rfl⟩))
  refine bodyPost_ret (v := .agg #[.int .i64 (dot A B a c), .int .i64 (dot A B b d), .int .i64 (dot C D a c), .int .i64 (dot C D b d), .int .i64 (dot A B e f + E), .int .i64 (dot C D e f + F)]) (by simp [results, Tryd.results65, go_sem, World.cell?_alloc_past]) rfl ⟨rfl, ?_⟩
  with_reducible repeat (first | refine bl_alloc ?_ | refine bl_drew ?_ | exact bl_refl _)

theorem dot_one (A B a b c d e f x y E : Int) (hx : x = 1) (hy : y = 0) : dot A B (dot a b x y + e) (dot c d x y + f) + E - (dot A B (dot a b 0 0 + e) (dot c d 0 0 + f) + E) = dot A B a c := by
  subst hx hy; simp [dot, Int.mul_add]; omega
theorem dot_two (A B a b c d e f x y E : Int) (hx : x = 0) (hy : y = 1) : dot A B (dot a b x y + e) (dot c d x y + f) + E - (dot A B (dot a b 0 0 + e) (dot c d 0 0 + f) + E) = dot A B b d := by
  subst hx hy; simp [dot, Int.mul_add]; omega
theorem dot_nought (A B a b c d e f E : Int) : dot A B (dot a b 0 0 + e) (dot c d 0 0 + f) + E = dot A B e f + E := by simp [dot]

theorem ret6 {a b c d e f a' b' c' d' e' f' : Int} (h1 : a = a') (h2 : b = b') (h3 : c = c') (h4 : d = d') (h5 : e = e') (h6 : f = f') :
    Ending.returned (.agg #[.int .i64 a, .int .i64 b, .int .i64 c, .int .i64 d, .int .i64 e, .int .i64 f]) = .returned (.agg #[.int .i64 a', .int .i64 b', .int .i64 c', .int .i64 d', .int .i64 e', .int .i64 f']) := by subst h1 h2 h3 h4 h5 h6; rfl

end Go.Proofs.YthkhiedpkmpifaaDoor

/- What undoes a map: the grid's back. -/
namespace Go.Proofs.YthkhiedpkmpifaaDoor
open Go.RowKit
attribute [local go_sem ↓] Go.wp_at_zero Go.wp_at_succ

set_option maxHeartbeats 1600000 in
theorem back_any (a b c d e f : Int) (w : World) (hs : Sm a b c d) (he : Ef e f) :
    Calls Tryd.prog 67 #[.agg #[.int .i64 a, .int .i64 b, .int .i64 c, .int .i64 d, .int .i64 e, .int .i64 f]] w fun r w' =>
      r = .returned (.agg #[.int .i64 a, .int .i64 c, .int .i64 b, .int .i64 d, .int .i64 (-(dot a c e f)), .int .i64 (-(dot b d e f))]) ∧ Below w.heap.size w w' := by
  have hs' : Sm a c b d := ⟨hs.1, hs.2.2.1, hs.2.1, hs.2.2.2⟩
  obtain ⟨⟨e1, e2⟩, ⟨f1, f2⟩⟩ := he
  have d1 := dot_bd hs'.1.1 hs'.1.2 hs'.2.1.1 hs'.2.1.2 e1 e2 f1 f2
  have d2 := dot_bd hs'.2.2.1.1 hs'.2.2.1.2 hs'.2.2.2.1 hs'.2.2.2.2 e1 e2 f1 f2
  have HS : Hid (Sm a c b d) := hs'
  have wX : IntKind.i64.wrap (-(dot a c e f)) = -(dot a c e f) := by rw [IntKind.wrap_i64]; omega
  have wY : IntKind.i64.wrap (-(dot b d e f)) = -(dot b d e f) := by rw [IntKind.wrap_i64]; omega
  clear hs hs'
  go_enter Tryd.func67, Tryd.ntmps67
  go_wp2_with (go_at_call 89; refine (turn_any _ _ _ _ _ _ _ _ _ HS.out (by omega) (by omega) (by omega) (by omega)).mono ?_; rintro e w2 ⟨rfl, o1, o2, o3, rfl⟩)
  go_region_held3 (fun w' => w'.cell? ⟨w.heap.size + 1 + 1 + 1 + 1 + 1 + 1, 0, none⟩ = some (.int .i64 (dot a c e f)) ∧ w'.cell? ⟨w.heap.size + 1 + 1 + 1 + 1 + 1 + 1, 1, none⟩ = some (.int .i64 (dot b d e f)))
    (simp [go_sem])
    (fail)
  all_goals
    go_wp2
    refine bodyPost_ret (v := .agg #[.int .i64 a, .int .i64 c, .int .i64 b, .int .i64 d, .int .i64 (-(dot a c e f)), .int .i64 (-(dot b d e f))]) (by simp [results, Tryd.results67, go_sem, World.cell?_alloc_past]) rfl ⟨rfl, ?_⟩
    with_reducible repeat (first | refine bl_alloc ?_ | refine bl_drew ?_ | exact bl_refl _)

end Go.Proofs.YthkhiedpkmpifaaDoor

