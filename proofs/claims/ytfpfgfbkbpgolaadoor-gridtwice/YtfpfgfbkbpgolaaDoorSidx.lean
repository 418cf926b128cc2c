/- The grid's Side. -/
import Derived.Test.YtfpfgfbkbpgolaaDoorSide
namespace Go.Proofs.YtfpfgfbkbpgolaaDoor
open Go.RowKit

theorem index3 (a b c d e f : Value) (w : World) : (Instr.index 28 (.agg #[a, b, c, d, e, f]) (.int .i64 0)).run Tryd.prog w = .ok (.agg #[a, b]) w ∧ (Instr.index 28 (.agg #[a, b, c, d, e, f]) (.int .i64 1)).run Tryd.prog w = .ok (.agg #[c, d]) w ∧ (Instr.index 28 (.agg #[a, b, c, d, e, f]) (.int .i64 2)).run Tryd.prog w = .ok (.agg #[e, f]) w :=
  ⟨by kernel_rfl, by kernel_rfl, by kernel_rfl⟩

def sumN (v x y k : Int) : Int := alongOf v (2 * x + 1) (2 * y + 1) + alongOf v (c1x x k) (c1y y k) + alongOf v (c2x x k) (c2y y k)

theorem along_bd (v a b : Int) (h1 : -10000000 ≤ a) (h2 : a ≤ 10000000) (h3 : -10000000 ≤ b) (h4 : b ≤ 10000000) : -20000000 ≤ alongOf v a b ∧ alongOf v a b ≤ 20000000 := by
  unfold alongOf; split <;> (try split) <;> (try split) <;> omega

set_option maxHeartbeats 3200000 in
theorem side1_t (v c x y k : Int) (pt pl : Nat) (w : World) (h : triB x y k = true) (hl : lineB v c = true) (hs : Steps w)
    (t0 : w.cell? ⟨pt, 0, none⟩ = some (.int .i64 x)) (t1 : w.cell? ⟨pt, 1, none⟩ = some (.int .i64 y)) (t2 : w.cell? ⟨pt, 2, none⟩ = some (.int .i64 k))
    (l0 : w.cell? ⟨pl, 0, none⟩ = some (.int .i64 v)) (l1 : w.cell? ⟨pl, 1, none⟩ = some (.int .i64 c)) (hsum : 3 * c < sumN v x y k) :
    Calls Tryd.prog 47 #[.pointer (some ⟨pt, 0, none⟩), .pointer (some ⟨pl, 0, none⟩)] w fun e w' => e = .returned (.tuple #[.int .i64 1, .int .i64 0]) ∧ Below w.heap.size w w' := by
  obtain ⟨_, _, b1, b2, b3, b4⟩ := tri_bd h
  have hc : -1000000 ≤ c ∧ c ≤ 1000000 := by have : 0 ≤ v ∧ v ≤ 3 ∧ -1000000 ≤ c ∧ c ≤ 1000000 ∧ c % 2 = 0 := by simpa [lineB] using hl
                                             omega
  obtain ⟨hc1, hc2⟩ := hc
  have ex1 := c1x_bd x k
  have ey1 := c1y_bd y k
  have ex2 := c2x_bd x k
  have ey2 := c2y_bd y k
  have v0 := along_bd v (2 * x + 1) (2 * y + 1) (by omega) (by omega) (by omega) (by omega)
  have v1 := along_bd v (c1x x k) (c1y y k) (by omega) (by omega) (by omega) (by omega)
  have v2 := along_bd v (c2x x k) (c2y y k) (by omega) (by omega) (by omega) (by omega)
  have hi := fun w => index3 (.int .i64 (2 * x + 1)) (.int .i64 (2 * y + 1)) (.int .i64 (c1x x k)) (.int .i64 (c1y y k)) (.int .i64 (c2x x k)) (.int .i64 (c2y y k)) w
  have hi0 := fun w => (hi w).1
  have hi1 := fun w => (hi w).2.1
  have hi2 := fun w => (hi w).2.2
  clear hi
  unfold sumN at hsum
  go_enter Tryd.func47, Tryd.ntmps47
  go_wp2_with (go_at_call 34; refine (corners_any _ _ _ _ h hs).mono ?_; rintro e w1 ⟨rfl, hb1⟩)
  have m0 : w1.cell? ⟨pl, 0, none⟩ = some (.int .i64 v) := cell_kept hb1 l0
  have m1 : w1.cell? ⟨pl, 1, none⟩ = some (.int .i64 c) := cell_kept hb1 l1
  have hz : pl < w.heap.size := lt_of_cell l0
  have hz1 : w.heap.size ≤ w1.heap.size := hb1.size
  have hz2 : pl < w1.heap.size := by omega
  have hy1 : pl < w1.heap.size + 1 := by omega
  have hy2 : pl < w1.heap.size + 1 + 1 := by omega
  have hy3 : pl < w1.heap.size + 1 + 1 + 1 := by omega
  have hy4 : pl < w1.heap.size + 1 + 1 + 1 + 1 := by omega
  have hy5 : pl < w1.heap.size + 1 + 1 + 1 + 1 + 1 := by omega
  have hy6 : pl < w1.heap.size + 1 + 1 + 1 + 1 + 1 + 1 := by omega
  have HB : Hid (Below w.heap.size w w1) := hb1
  clear hb1 t0 t1 t2 l0 l1 hs
  refine wp_loop_rounds 4 ?_
  rw [rounds_succ]
  go_wp2_with (go_at_call 48; refine (along_any _ _ _ _ (by omega) (by omega) (by omega) (by omega)).mono ?_; rintro e w2 ⟨rfl, o2, rfl⟩)
  rw [rounds_succ]
  go_wp2_with (go_at_call 48; refine (along_any _ _ _ _ (by omega) (by omega) (by omega) (by omega)).mono ?_; rintro e w2 ⟨rfl, o3, rfl⟩)
  rw [rounds_succ]
  go_wp2_with (go_at_call 48; refine (along_any _ _ _ _ (by omega) (by omega) (by omega) (by omega)).mono ?_; rintro e w2 ⟨rfl, o4, rfl⟩)
  rw [rounds_succ]
  go_wp2
  go_ret2
  refine ⟨rfl, ?_⟩
  repeat (first | exact HB.out | refine Below.alloc ?_ (by first | omega | (simp; omega) | (simp; done)) _)

set_option maxHeartbeats 3200000 in
theorem side1_f (v c x y k : Int) (pt pl : Nat) (w : World) (h : triB x y k = true) (hl : lineB v c = true) (hs : Steps w)
    (t0 : w.cell? ⟨pt, 0, none⟩ = some (.int .i64 x)) (t1 : w.cell? ⟨pt, 1, none⟩ = some (.int .i64 y)) (t2 : w.cell? ⟨pt, 2, none⟩ = some (.int .i64 k))
    (l0 : w.cell? ⟨pl, 0, none⟩ = some (.int .i64 v)) (l1 : w.cell? ⟨pl, 1, none⟩ = some (.int .i64 c)) (hsum : sumN v x y k ≤ 3 * c) :
    Calls Tryd.prog 47 #[.pointer (some ⟨pt, 0, none⟩), .pointer (some ⟨pl, 0, none⟩)] w fun e w' => e = .returned (.tuple #[.int .i64 (-1), .int .i64 0]) ∧ Below w.heap.size w w' := by
  obtain ⟨_, _, b1, b2, b3, b4⟩ := tri_bd h
  have hc : -1000000 ≤ c ∧ c ≤ 1000000 := by have : 0 ≤ v ∧ v ≤ 3 ∧ -1000000 ≤ c ∧ c ≤ 1000000 ∧ c % 2 = 0 := by simpa [lineB] using hl
                                             omega
  obtain ⟨hc1, hc2⟩ := hc
  have ex1 := c1x_bd x k
  have ey1 := c1y_bd y k
  have ex2 := c2x_bd x k
  have ey2 := c2y_bd y k
  have v0 := along_bd v (2 * x + 1) (2 * y + 1) (by omega) (by omega) (by omega) (by omega)
  have v1 := along_bd v (c1x x k) (c1y y k) (by omega) (by omega) (by omega) (by omega)
  have v2 := along_bd v (c2x x k) (c2y y k) (by omega) (by omega) (by omega) (by omega)
  have hi := fun w => index3 (.int .i64 (2 * x + 1)) (.int .i64 (2 * y + 1)) (.int .i64 (c1x x k)) (.int .i64 (c1y y k)) (.int .i64 (c2x x k)) (.int .i64 (c2y y k)) w
  have hi0 := fun w => (hi w).1
  have hi1 := fun w => (hi w).2.1
  have hi2 := fun w => (hi w).2.2
  clear hi
  unfold sumN at hsum
  go_enter Tryd.func47, Tryd.ntmps47
  go_wp2_with (go_at_call 34; refine (corners_any _ _ _ _ h hs).mono ?_; rintro e w1 ⟨rfl, hb1⟩)
  have m0 : w1.cell? ⟨pl, 0, none⟩ = some (.int .i64 v) := cell_kept hb1 l0
  have m1 : w1.cell? ⟨pl, 1, none⟩ = some (.int .i64 c) := cell_kept hb1 l1
  have hz : pl < w.heap.size := lt_of_cell l0
  have hz1 : w.heap.size ≤ w1.heap.size := hb1.size
  have hz2 : pl < w1.heap.size := by omega
  have hy1 : pl < w1.heap.size + 1 := by omega
  have hy2 : pl < w1.heap.size + 1 + 1 := by omega
  have hy3 : pl < w1.heap.size + 1 + 1 + 1 := by omega
  have hy4 : pl < w1.heap.size + 1 + 1 + 1 + 1 := by omega
  have hy5 : pl < w1.heap.size + 1 + 1 + 1 + 1 + 1 := by omega
  have hy6 : pl < w1.heap.size + 1 + 1 + 1 + 1 + 1 + 1 := by omega
  have HB : Hid (Below w.heap.size w w1) := hb1
  clear hb1 t0 t1 t2 l0 l1 hs
  refine wp_loop_rounds 4 ?_
  rw [rounds_succ]
  go_wp2_with (go_at_call 48; refine (along_any _ _ _ _ (by omega) (by omega) (by omega) (by omega)).mono ?_; rintro e w2 ⟨rfl, o2, rfl⟩)
  rw [rounds_succ]
  go_wp2_with (go_at_call 48; refine (along_any _ _ _ _ (by omega) (by omega) (by omega) (by omega)).mono ?_; rintro e w2 ⟨rfl, o3, rfl⟩)
  rw [rounds_succ]
  go_wp2_with (go_at_call 48; refine (along_any _ _ _ _ (by omega) (by omega) (by omega) (by omega)).mono ?_; rintro e w2 ⟨rfl, o4, rfl⟩)
  rw [rounds_succ]
  go_wp2
  go_ret2
  refine ⟨rfl, ?_⟩
  repeat (first | exact HB.out | refine Below.alloc ?_ (by first | omega | (simp; omega) | (simp; done)) _)

theorem sum_side (v c x y k : Int) (h : triB x y k = true) (hl : lineB v c = true) : sideN v c x y k = if 3 * c < sumN v x y k then 1 else -1 := by
  obtain ⟨_, _, b1, b2, b3, b4⟩ := tri_bd h
  have hb : 0 ≤ v ∧ v ≤ 3 ∧ -1000000 ≤ c ∧ c ≤ 1000000 ∧ c % 2 = 0 := by simpa [lineB] using hl
  obtain ⟨_, _, _, _, he⟩ := hb
  have hv : v = 0 ∨ v = 1 ∨ v = 2 ∨ v = 3 := by omega
  have hk : k = 0 ∨ k = 1 ∨ k = 2 ∨ k = 3 := by omega
  clear h hl
  rcases hv with rfl | rfl | rfl | rfl <;> rcases hk with rfl | rfl | rfl | rfl <;> simp [sideN, sumN, alongOf, c1x, c1y, c2x, c2y, stX, stY] <;> split <;> split <;> omega

theorem side1_any (v c x y k : Int) (pt pl : Nat) (w : World) (h : triB x y k = true) (hl : lineB v c = true) (hs : Steps w)
    (t0 : w.cell? ⟨pt, 0, none⟩ = some (.int .i64 x)) (t1 : w.cell? ⟨pt, 1, none⟩ = some (.int .i64 y)) (t2 : w.cell? ⟨pt, 2, none⟩ = some (.int .i64 k))
    (l0 : w.cell? ⟨pl, 0, none⟩ = some (.int .i64 v)) (l1 : w.cell? ⟨pl, 1, none⟩ = some (.int .i64 c)) :
    Calls Tryd.prog 47 #[.pointer (some ⟨pt, 0, none⟩), .pointer (some ⟨pl, 0, none⟩)] w fun e w' => e = .returned (.tuple #[.int .i64 (sideN v c x y k), .int .i64 0]) ∧ Below w.heap.size w w' := by
  rw [sum_side v c x y k h hl]
  by_cases hsum : 3 * c < sumN v x y k
  · rw [if_pos hsum]; exact side1_t v c x y k pt pl w h hl hs t0 t1 t2 l0 l1 hsum
  · rw [if_neg hsum]; exact side1_f v c x y k pt pl w h hl hs t0 t1 t2 l0 l1 (by omega)

theorem answerInt_no (f : Value) (w : World) :
    Calls Tryd.prog 45 #[.bool false, f] w fun r w' => r = .returned (.tuple #[.int .i64 0, .int .i64 3]) ∧ w' = w := by
  go_enter Tryd.func45, Tryd.ntmps45
  go_wp2
  go_ret2
  exact ⟨rfl, rfl⟩

theorem answerSide (v c x y k : Int) (pt pl : Nat) (w : World) (h : triB x y k = true) (hl : lineB v c = true) (hs : Steps w)
    (t0 : w.cell? ⟨pt, 0, none⟩ = some (.int .i64 x)) (t1 : w.cell? ⟨pt, 1, none⟩ = some (.int .i64 y)) (t2 : w.cell? ⟨pt, 2, none⟩ = some (.int .i64 k))
    (l0 : w.cell? ⟨pl, 0, none⟩ = some (.int .i64 v)) (l1 : w.cell? ⟨pl, 1, none⟩ = some (.int .i64 c)) :
    Calls Tryd.prog 45 #[.bool true, .func (.func 47) #[] #[.pointer (some ⟨pt, 0, none⟩), .pointer (some ⟨pl, 0, none⟩)]] w fun e w' => e = .returned (.tuple #[.int .i64 (sideN v c x y k), .int .i64 0]) ∧ Below w.heap.size w w' := by
  have hcall := side1_any v c x y k pt pl w h hl hs t0 t1 t2 l0 l1
  clear t0 t1 t2 l0 l1 hs h hl
  go_enter Tryd.func45, Tryd.ntmps45
  go_wp2_with (go_at_call 47; refine hcall.mono ?_; rintro e w1 ⟨rfl, hb1⟩)
  go_ret2
  exact ⟨rfl, hb1⟩

theorem tri_cells (w : World) (x y k : Int) (o : Obj) (b : Nat) (hb : b = w.heap.size) : ((w.alloc (.cells #[.int .i64 x, .int .i64 y, .int .i64 k] 23)).alloc o).cell? ⟨b, 0, none⟩ = some (.int .i64 x) := by
  subst hb; simp [go_sem]

theorem make_fun (fn : Fn) (first cap : Array Value) (w : World) : (Instr.makeFunc fn first cap).run Tryd.prog w = .ok (.func fn first cap) w := rfl

set_option maxHeartbeats 800000 in
theorem Side_in (v c x y k : Int) (w : World) (h : triB x y k = true) (hl : lineB v c = true) (hs : Steps w) :
    Calls Tryd.prog 16 #[.agg #[.int .i64 v, .int .i64 c], .agg #[.int .i64 x, .int .i64 y, .int .i64 k]] w fun e w' => e = .returned (.tuple #[.int .i64 (sideN v c x y k), .int .i64 0]) ∧ Below w.heap.size w w' := by
  have hmf := make_fun
  have HS : Hid (Steps w) := hs
  clear hs
  go_enter Tryd.func16, Tryd.ntmps16
  go_wp2_with (first | (go_at_call 46; refine (mayLine_any _ _ _).mono ?_; rintro e w1 ⟨rfl, o0, rfl⟩) | (go_at_call 32; refine (mayTri_any _ _ _ _).mono ?_; rintro e w1 ⟨rfl, o1, rfl⟩) | (go_at_call 45; refine (answerSide v c x y k _ _ _ h hl (HS.out.kept (by repeat (first | exact Below.refl _ _ | refine Below.alloc ?_ (by first | omega | (simp; omega) | (simp; done)) _))) (by simp [go_sem]) (by simp [go_sem]) (by simp [go_sem]) (by simp [go_sem]) (by simp [go_sem])).mono ?_; rintro e w2 ⟨rfl, hb2⟩))
  go_ret2
  refine ⟨rfl, below_via ?_ hb2⟩
  repeat (first | exact Below.refl _ _ | refine Below.alloc ?_ (by first | omega | (simp; omega) | (simp; done)) _)

set_option maxHeartbeats 800000 in
theorem Side_out (v c x y k : Int) (w : World) (h : lineB v c = false ∨ triB x y k = false) :
    Calls Tryd.prog 16 #[.agg #[.int .i64 v, .int .i64 c], .agg #[.int .i64 x, .int .i64 y, .int .i64 k]] w fun e w' => e = .returned (.tuple #[.int .i64 0, .int .i64 3]) ∧ Below w.heap.size w w' := by
  have hmf := make_fun
  by_cases hl : lineB v c = true
  · have ht : triB x y k = false := by rcases h with h | h; · rw [h] at hl; cases hl
                                       · exact h
    clear h
    go_enter Tryd.func16, Tryd.ntmps16
    go_wp2_with (first | (go_at_call 46; refine (mayLine_any _ _ _).mono ?_; rintro e w1 ⟨rfl, o0, rfl⟩) | (go_at_call 32; refine (mayTri_any _ _ _ _).mono ?_; rintro e w1 ⟨rfl, o1, rfl⟩) | (go_at_call 45; refine (answerInt_no _ _).mono ?_; rintro e w2 ⟨rfl, rfl⟩))
    go_ret2
    refine ⟨rfl, ?_⟩
    repeat (first | exact Below.refl _ _ | refine Below.alloc ?_ (by first | omega | (simp; omega) | (simp; done)) _)
  · have hl' : lineB v c = false := by simpa using hl
    clear h hl
    go_enter Tryd.func16, Tryd.ntmps16
    go_wp2_with (first | (go_at_call 46; refine (mayLine_any _ _ _).mono ?_; rintro e w1 ⟨rfl, o0, rfl⟩) | (go_at_call 32; refine (mayTri_any _ _ _ _).mono ?_; rintro e w1 ⟨rfl, o1, rfl⟩) | (go_at_call 45; refine (answerInt_no _ _).mono ?_; rintro e w2 ⟨rfl, rfl⟩))
    go_ret2
    refine ⟨rfl, ?_⟩
    repeat (first | exact Below.refl _ _ | refine Below.alloc ?_ (by first | omega | (simp; omega) | (simp; done)) _)

end Go.Proofs.YtfpfgfbkbpgolaaDoor
