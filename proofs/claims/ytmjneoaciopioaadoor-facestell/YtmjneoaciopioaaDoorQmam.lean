/- A part of the proof of a law on sheets. -/
import Derived.Test.YtmjneoaciopioaaDoorQmaj
namespace Go.Proofs.YtmjneoaciopioaaDoor
open Go.RowKit

theorem line_bd {v c : Int} (h : lineB v c = true) : 0 ≤ v ∧ v ≤ 3 ∧ -1000000 ≤ c ∧ c ≤ 1000000 ∧ c % 2 = 0 := by simpa [lineB] using h

/-- The six numbers of the mirror at a line. -/
def mA (v : Int) : Int := if v = 0 then -1 else if v = 1 then 1 else 0
def mB (v : Int) : Int := if v = 0 ∨ v = 1 then 0 else if v = 2 then -1 else 1
def mD (v : Int) : Int := if v = 0 then 1 else if v = 1 then -1 else 0
def mE (v c : Int) : Int := if v = 0 then 2 * c else if v = 1 then 0 else c
def mF (v c : Int) : Int := if v = 0 then 0 else if v = 1 then 2 * c else if v = 2 then c else -c

theorem ret_agg6 {a b c d e f a' b' c' d' e' f' : Int} (h1 : a = a') (h2 : b = b') (h3 : c = c') (h4 : d = d') (h5 : e = e') (h6 : f = f') :
    Ending.returned (.agg #[.int .i64 a, .int .i64 b, .int .i64 c, .int .i64 d, .int .i64 e, .int .i64 f]) = .returned (.agg #[.int .i64 a', .int .i64 b', .int .i64 c', .int .i64 d', .int .i64 e', .int .i64 f']) := by subst h1 h2 h3 h4 h5 h6; rfl

set_option maxHeartbeats 1600000 in
theorem mirror_any (v c : Int) (w : World) (h : lineB v c = true) :
    Calls Tryd.prog 115 #[.agg #[.int .i64 v, .int .i64 c]] w fun r w' => r = .returned (.agg #[.int .i64 (mA v), .int .i64 (mB v), .int .i64 (mB v), .int .i64 (mD v), .int .i64 (mE v c), .int .i64 (mF v c)]) ∧ ∃ o1 o2, w' = (w.alloc o1).alloc o2 := by
  obtain ⟨h0, h3, b1, b2, _⟩ := line_bd h
  have hv : v = 0 ∨ v = 1 ∨ v = 2 ∨ v = 3 := by omega
  clear h
  rcases hv with rfl | rfl | rfl | rfl
  all_goals
    go_enter Tryd.func115, Tryd.ntmps115
    go_wp2
    refine bodyPost_ret (v := .agg #[_, _, _, _, _, _]) (by simp [results, Tryd.results115, go_sem]; exact ⟨rfl, rfl, rfl, rfl, rfl, rfl⟩) rfl ⟨?_, _, _, rfl⟩
    exact ret_agg6 (by simp [mA]) (by simp [mB]) (by simp [mB]) (by simp [mD]) (by simp [mE]) (by simp [mF])

set_option maxHeartbeats 1600000 in
theorem mirrorOf_any (v c : Int) (w : World) (h : lineB v c = true) :
    Calls Tryd.prog 46 #[.agg #[.int .i64 v, .int .i64 c]] w fun r w' => r = .returned (.agg #[.int .i64 (mA v), .int .i64 (mB v), .int .i64 (mB v), .int .i64 (mD v), .int .i64 (mE v c), .int .i64 (mF v c)]) ∧ ∃ o1 o2, w' = (w.alloc o1).alloc o2 := by
  obtain ⟨h0, h3, b1, b2, _⟩ := line_bd h
  have hv : v = 0 ∨ v = 1 ∨ v = 2 ∨ v = 3 := by omega
  clear h
  rcases hv with rfl | rfl | rfl | rfl
  all_goals
    go_enter Tryd.func46, Tryd.ntmps46
    go_wp2
    refine bodyPost_ret (v := .agg #[_, _, _, _, _, _]) (by simp [results, Tryd.results46, go_sem]; exact ⟨rfl, rfl, rfl, rfl, rfl, rfl⟩) rfl ⟨?_, _, _, rfl⟩
    exact ret_agg6 (by simp [mA]) (by simp [mB]) (by simp [mB]) (by simp [mD]) (by simp [mE]) (by simp [mF])

theorem sized_yes (a b c d e f : Int) (w : World) (h : mapB a b c d e f = true) :
    Calls Tryd.prog 114 #[.agg #[.int .i64 a, .int .i64 b, .int .i64 c, .int .i64 d, .int .i64 e, .int .i64 f]] w fun r w' => r = .returned (.tuple #[.agg #[.int .i64 a, .int .i64 b, .int .i64 c, .int .i64 d, .int .i64 e, .int .i64 f], .int .i64 0]) ∧ ∃ o1 o2 o3, w' = ((w.alloc o1).alloc o2).alloc o3 := by
  go_enter Tryd.func114, Tryd.ntmps114
  go_wp2_with (go_at_call 116; refine (mayMap_any _ _ _ _ _ _ _).mono ?_; rintro e w' ⟨rfl, o1, rfl⟩)
  exact bodyPost_ret (v := .tuple #[.agg #[.int .i64 a, .int .i64 b, .int .i64 c, .int .i64 d, .int .i64 e, .int .i64 f], .int .i64 0]) (by simp [results, Tryd.results114, go_sem]) rfl ⟨rfl, _, _, _, rfl⟩

theorem sized_no (a b c d e f : Int) (w : World) (h : mapB a b c d e f = false) :
    Calls Tryd.prog 114 #[.agg #[.int .i64 a, .int .i64 b, .int .i64 c, .int .i64 d, .int .i64 e, .int .i64 f]] w fun r w' => r = .returned (.tuple #[.agg #[.int .i64 0, .int .i64 0, .int .i64 0, .int .i64 0, .int .i64 0, .int .i64 0], .int .i64 2]) ∧ ∃ o1 o2 o3, w' = ((w.alloc o1).alloc o2).alloc o3 := by
  go_enter Tryd.func114, Tryd.ntmps114
  go_wp2_with (go_at_call 116; refine (mayMap_any _ _ _ _ _ _ _).mono ?_; rintro e w' ⟨rfl, o1, rfl⟩)
  exact bodyPost_ret (v := .tuple #[.agg #[.int .i64 0, .int .i64 0, .int .i64 0, .int .i64 0, .int .i64 0, .int .i64 0], .int .i64 2]) (by simp [results, Tryd.results114, go_sem]) rfl ⟨rfl, _, _, _, rfl⟩


theorem make_func (fn : Fn) (first cap : Array Value) (w : World) : (Instr.makeFunc fn first cap).run Tryd.prog w = .ok (.func fn first cap) w := rfl

theorem answerMap_no (f : Value) (w : World) :
    Calls Tryd.prog 111 #[.bool false, f] w fun r w' => r = .returned (.tuple #[.agg #[.int .i64 0, .int .i64 0, .int .i64 0, .int .i64 0, .int .i64 0, .int .i64 0], .int .i64 3]) ∧ ∃ o1 o2, w' = (w.alloc o1).alloc o2 := by
  go_enter Tryd.func111, Tryd.ntmps111
  go_wp2
  exact bodyPost_ret (v := .tuple #[.agg #[.int .i64 0, .int .i64 0, .int .i64 0, .int .i64 0, .int .i64 0, .int .i64 0], .int .i64 3]) (by simp [results, Tryd.results111, go_sem]) rfl ⟨rfl, _, _, rfl⟩

theorem mirror1_yes (v c : Int) (p : Nat) (w : World) (h : lineB v c = true) (hm : mapB (mA v) (mB v) (mB v) (mD v) (mE v c) (mF v c) = true) (hp0 : w.cell? ⟨p, 0, none⟩ = some (.int .i64 v)) (hp1 : w.cell? ⟨p, 1, none⟩ = some (.int .i64 c)) :
    Calls Tryd.prog 113 #[.pointer (some ⟨p, 0, none⟩)] w fun r w' => r = .returned (.tuple #[.agg #[.int .i64 (mA v), .int .i64 (mB v), .int .i64 (mB v), .int .i64 (mD v), .int .i64 (mE v c), .int .i64 (mF v c)], .int .i64 0]) ∧ ∃ o1 o2 o3 o4 o5 o6, w' = (((((w.alloc o1).alloc o2).alloc o3).alloc o4).alloc o5).alloc o6 := by
  have hz := World.block_lt_of_cell? _ _ hp0
  go_enter Tryd.func113, Tryd.ntmps113
  go_wp2_with (first | (go_at_call 115; refine (mirror_any _ _ _ h).mono ?_; rintro e w' ⟨rfl, o1, o2, rfl⟩) | (go_at_call 114; refine (sized_yes _ _ _ _ _ _ _ hm).mono ?_; rintro e w' ⟨rfl, o3, o4, o5, rfl⟩))
  exact bodyPost_ret (v := .tuple #[.agg #[.int .i64 (mA v), .int .i64 (mB v), .int .i64 (mB v), .int .i64 (mD v), .int .i64 (mE v c), .int .i64 (mF v c)], .int .i64 0]) (by simp [results, Tryd.results113, go_sem, World.cell?_alloc_past]) rfl ⟨rfl, _, _, _, _, _, _, rfl⟩

theorem answerMirror_yes (v c : Int) (p : Nat) (w : World) (h : lineB v c = true) (hm : mapB (mA v) (mB v) (mB v) (mD v) (mE v c) (mF v c) = true) (hp0 : w.cell? ⟨p, 0, none⟩ = some (.int .i64 v)) (hp1 : w.cell? ⟨p, 1, none⟩ = some (.int .i64 c)) :
    Calls Tryd.prog 111 #[.bool true, .func (.func 113) #[] #[.pointer (some ⟨p, 0, none⟩)]] w fun r w' => r = .returned (.tuple #[.agg #[.int .i64 (mA v), .int .i64 (mB v), .int .i64 (mB v), .int .i64 (mD v), .int .i64 (mE v c), .int .i64 (mF v c)], .int .i64 0]) ∧ ∃ o1 o2 o3 o4 o5 o6 o7 o8 o9, w' = ((((((((w.alloc o1).alloc o2).alloc o3).alloc o4).alloc o5).alloc o6).alloc o7).alloc o8).alloc o9 := by
  have hz := World.block_lt_of_cell? _ _ hp0
  go_enter Tryd.func111, Tryd.ntmps111
  go_wp2_with (go_at_call 113; refine (mirror1_yes v c p _ h hm (by simp [go_sem, World.cell?_alloc_past, *]) (by simp [go_sem, World.cell?_alloc_past, *])).mono ?_; rintro e w' ⟨rfl, o1, o2, o3, o4, o5, o6, rfl⟩)
  exact bodyPost_ret (v := .tuple #[.agg #[.int .i64 (mA v), .int .i64 (mB v), .int .i64 (mB v), .int .i64 (mD v), .int .i64 (mE v c), .int .i64 (mF v c)], .int .i64 0]) (by simp [results, Tryd.results111, go_sem, World.cell?_alloc_past]) rfl ⟨rfl, _, _, _, _, _, _, _, _, _, rfl⟩

set_option maxHeartbeats 800000 in
theorem Mirror_yes (v c : Int) (w : World) (h : lineB v c = true) (hm : mapB (mA v) (mB v) (mB v) (mD v) (mE v c) (mF v c) = true) :
    Calls Tryd.prog 90 #[.agg #[.int .i64 v, .int .i64 c]] w fun r w' => r = .returned (.tuple #[.agg #[.int .i64 (mA v), .int .i64 (mB v), .int .i64 (mB v), .int .i64 (mD v), .int .i64 (mE v c), .int .i64 (mF v c)], .int .i64 0]) ∧ Below w.heap.size w w' := by
  have hmf := make_func
  go_enter Tryd.func90, Tryd.ntmps90
  go_wp2_with (first | (go_at_call 112; refine (mayLine_any _ _ _).mono ?_; rintro e w1 ⟨rfl, o0, rfl⟩) | (go_at_call 111; refine (answerMirror_yes v c _ _ h hm (by simp [go_sem, *]) (by simp [go_sem, *])).mono ?_; rintro e w' ⟨rfl, o1, o2, o3, o4, o5, o6, o7, o8, o9, rfl⟩))
  refine bodyPost_ret (v := .tuple #[.agg #[.int .i64 (mA v), .int .i64 (mB v), .int .i64 (mB v), .int .i64 (mD v), .int .i64 (mE v c), .int .i64 (mF v c)], .int .i64 0]) (by simp [results, Tryd.results90, go_sem, World.cell?_alloc_past]) rfl ⟨rfl, ?_⟩
  repeat (first | exact Below.refl _ _ | refine Below.alloc ?_ (by first | omega | (simp; omega) | (simp; done)) _)

theorem mirror1_no (v c : Int) (p : Nat) (w : World) (h : lineB v c = true) (hm : mapB (mA v) (mB v) (mB v) (mD v) (mE v c) (mF v c) = false) (hp0 : w.cell? ⟨p, 0, none⟩ = some (.int .i64 v)) (hp1 : w.cell? ⟨p, 1, none⟩ = some (.int .i64 c)) :
    Calls Tryd.prog 113 #[.pointer (some ⟨p, 0, none⟩)] w fun r w' => r = .returned (.tuple #[.agg #[.int .i64 0, .int .i64 0, .int .i64 0, .int .i64 0, .int .i64 0, .int .i64 0], .int .i64 2]) ∧ ∃ o1 o2 o3 o4 o5 o6, w' = (((((w.alloc o1).alloc o2).alloc o3).alloc o4).alloc o5).alloc o6 := by
  have hz := World.block_lt_of_cell? _ _ hp0
  go_enter Tryd.func113, Tryd.ntmps113
  go_wp2_with (first | (go_at_call 115; refine (mirror_any _ _ _ h).mono ?_; rintro e w' ⟨rfl, o1, o2, rfl⟩) | (go_at_call 114; refine (sized_no _ _ _ _ _ _ _ hm).mono ?_; rintro e w' ⟨rfl, o3, o4, o5, rfl⟩))
  exact bodyPost_ret (v := .tuple #[.agg #[.int .i64 0, .int .i64 0, .int .i64 0, .int .i64 0, .int .i64 0, .int .i64 0], .int .i64 2]) (by simp [results, Tryd.results113, go_sem, World.cell?_alloc_past]) rfl ⟨rfl, _, _, _, _, _, _, rfl⟩

theorem answerMirror_no (v c : Int) (p : Nat) (w : World) (h : lineB v c = true) (hm : mapB (mA v) (mB v) (mB v) (mD v) (mE v c) (mF v c) = false) (hp0 : w.cell? ⟨p, 0, none⟩ = some (.int .i64 v)) (hp1 : w.cell? ⟨p, 1, none⟩ = some (.int .i64 c)) :
    Calls Tryd.prog 111 #[.bool true, .func (.func 113) #[] #[.pointer (some ⟨p, 0, none⟩)]] w fun r w' => r = .returned (.tuple #[.agg #[.int .i64 0, .int .i64 0, .int .i64 0, .int .i64 0, .int .i64 0, .int .i64 0], .int .i64 2]) ∧ ∃ o1 o2 o3 o4 o5 o6 o7 o8 o9, w' = ((((((((w.alloc o1).alloc o2).alloc o3).alloc o4).alloc o5).alloc o6).alloc o7).alloc o8).alloc o9 := by
  have hz := World.block_lt_of_cell? _ _ hp0
  go_enter Tryd.func111, Tryd.ntmps111
  go_wp2_with (go_at_call 113; refine (mirror1_no v c p _ h hm (by simp [go_sem, World.cell?_alloc_past, *]) (by simp [go_sem, World.cell?_alloc_past, *])).mono ?_; rintro e w' ⟨rfl, o1, o2, o3, o4, o5, o6, rfl⟩)
  exact bodyPost_ret (v := .tuple #[.agg #[.int .i64 0, .int .i64 0, .int .i64 0, .int .i64 0, .int .i64 0, .int .i64 0], .int .i64 2]) (by simp [results, Tryd.results111, go_sem, World.cell?_alloc_past]) rfl ⟨rfl, _, _, _, _, _, _, _, _, _, rfl⟩

set_option maxHeartbeats 800000 in
theorem Mirror_no (v c : Int) (w : World) (h : lineB v c = true) (hm : mapB (mA v) (mB v) (mB v) (mD v) (mE v c) (mF v c) = false) :
    Calls Tryd.prog 90 #[.agg #[.int .i64 v, .int .i64 c]] w fun r w' => r = .returned (.tuple #[.agg #[.int .i64 0, .int .i64 0, .int .i64 0, .int .i64 0, .int .i64 0, .int .i64 0], .int .i64 2]) ∧ Below w.heap.size w w' := by
  have hmf := make_func
  go_enter Tryd.func90, Tryd.ntmps90
  go_wp2_with (first | (go_at_call 112; refine (mayLine_any _ _ _).mono ?_; rintro e w1 ⟨rfl, o0, rfl⟩) | (go_at_call 111; refine (answerMirror_no v c _ _ h hm (by simp [go_sem, *]) (by simp [go_sem, *])).mono ?_; rintro e w' ⟨rfl, o1, o2, o3, o4, o5, o6, o7, o8, o9, rfl⟩))
  refine bodyPost_ret (v := .tuple #[.agg #[.int .i64 0, .int .i64 0, .int .i64 0, .int .i64 0, .int .i64 0, .int .i64 0], .int .i64 2]) (by simp [results, Tryd.results90, go_sem, World.cell?_alloc_past]) rfl ⟨rfl, ?_⟩
  repeat (first | exact Below.refl _ _ | refine Below.alloc ?_ (by first | omega | (simp; omega) | (simp; done)) _)

theorem Mirror_out (v c : Int) (w : World) (h : lineB v c = false) :
    Calls Tryd.prog 90 #[.agg #[.int .i64 v, .int .i64 c]] w fun r w' => r = .returned (.tuple #[.agg #[.int .i64 0, .int .i64 0, .int .i64 0, .int .i64 0, .int .i64 0, .int .i64 0], .int .i64 3]) ∧ Below w.heap.size w w' := by
  have hmf := make_func
  go_enter Tryd.func90, Tryd.ntmps90
  go_wp2_with (first | (go_at_call 112; refine (mayLine_any _ _ _).mono ?_; rintro e w1 ⟨rfl, o0, rfl⟩) | (go_at_call 111; refine (answerMap_no _ _).mono ?_; rintro e w' ⟨rfl, o1, o2, rfl⟩))
  refine bodyPost_ret (v := .tuple #[.agg #[.int .i64 0, .int .i64 0, .int .i64 0, .int .i64 0, .int .i64 0, .int .i64 0], .int .i64 3]) (by simp [results, Tryd.results90, go_sem, World.cell?_alloc_past]) rfl ⟨rfl, ?_⟩
  repeat (first | exact Below.refl _ _ | refine Below.alloc ?_ (by first | omega | (simp; omega) | (simp; done)) _)

end Go.Proofs.YtmjneoaciopioaaDoor
