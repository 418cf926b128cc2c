/- Through, Onto, Upright. -/
import Derived.Test.YtohnppjbmpaomaaAlik
import Derived.Test.YtohnppjbmpaomaaAlng
import Derived.Test.YtohnppjbmpaomaaTurn
namespace Go.Proofs.Ytohnppjbmpaomaa
open Go.RowKit

set_option maxRecDepth 100000 in
set_option maxHeartbeats 1600000 in
theorem through7_no (x y X Y k : Int) (w : World) (hk : alk x y X Y = k) (h0 : k ≠ 0) :
    Calls Try.prog 7 #[pt x y, pt X Y] w fun e w' => e = .returned (.tuple #[st 0 0 0, .int .i64 k]) ∧ Below w.heap.size w w' := by
  have CA : Hid (∀ W, Calls Try.prog 22 #[.agg #[.int .i64 x, .int .i64 y], .agg #[.int .i64 X, .int .i64 Y]] W fun e w' => e = .returned (.int .i64 (alk x y X Y)) ∧ Below W.heap.size W w') := fun W => alike22 x y X Y W
  rw [hk] at CA
  have q : (k != 0) = true := by simpa using h0
  clear hk
  unfold pt st
  go_enter Try.func7, Try.ntmps7
  go_wp2_with (go_at_call 22; refine (CA.out _).mono ?_; rintro e w1 ⟨rfl, hb⟩; have hx : Bx w1 (w.heap.size + 1 + 1) 0 0 0 := (by have := (bx_new _ 25).kept hb; simpa using this); replace hb := bl_via (bl_alloc (bl_alloc (bl_alloc (bl_refl w)))) hb; have HB : Hid (Below w.heap.size w w1) := hb; clear hb; have RD : Hid (Rd w1 (w.heap.size + 1 + 1)) := hx.rd; obtain ⟨⟨r0, r1, r2⟩, hf⟩ := hx; have f0 := hf 0; have f1 := hf 1; have f2 := hf 2; have zg := World.block_lt_of_cell? _ _ r0; clear hf)
  refine bodyPost_ret (v := .tuple #[.agg #[_, _, _], _]) (by simp [results, Try.results7, go_sem, RD.out.1, RD.out.2.1, RD.out.2.2]) rfl ⟨rfl, ?_⟩
  exact (bl_set (bl_set (bl_set HB.out (by simp <;> omega)) (by simp <;> omega)) (by simp <;> omega))
set_option maxRecDepth 100000 in
set_option maxHeartbeats 1600000 in
theorem onto8_no (x y X Y k : Int) (w : World) (hk : alk x y X Y = k) (h0 : k ≠ 0) :
    Calls Try.prog 8 #[pt x y, pt X Y] w fun e w' => e = .returned (.tuple #[st 0 0 0, .int .i64 k]) ∧ Below w.heap.size w w' := by
  have CA : Hid (∀ W, Calls Try.prog 22 #[.agg #[.int .i64 x, .int .i64 y], .agg #[.int .i64 X, .int .i64 Y]] W fun e w' => e = .returned (.int .i64 (alk x y X Y)) ∧ Below W.heap.size W w') := fun W => alike22 x y X Y W
  rw [hk] at CA
  have q : (k != 0) = true := by simpa using h0
  clear hk
  unfold pt st
  go_enter Try.func8, Try.ntmps8
  go_wp2_with (go_at_call 22; refine (CA.out _).mono ?_; rintro e w1 ⟨rfl, hb⟩; have hx : Bx w1 (w.heap.size + 1 + 1) 0 0 0 := (by have := (bx_new _ 25).kept hb; simpa using this); replace hb := bl_via (bl_alloc (bl_alloc (bl_alloc (bl_refl w)))) hb; have HB : Hid (Below w.heap.size w w1) := hb; clear hb; have RD : Hid (Rd w1 (w.heap.size + 1 + 1)) := hx.rd; obtain ⟨⟨r0, r1, r2⟩, hf⟩ := hx; have f0 := hf 0; have f1 := hf 1; have f2 := hf 2; have zg := World.block_lt_of_cell? _ _ r0; clear hf)
  refine bodyPost_ret (v := .tuple #[.agg #[_, _, _], _]) (by simp [results, Try.results8, go_sem, RD.out.1, RD.out.2.1, RD.out.2.2]) rfl ⟨rfl, ?_⟩
  exact (bl_set (bl_set (bl_set HB.out (by simp <;> omega)) (by simp <;> omega)) (by simp <;> omega))
/-- The fold through two points; the one that brings one to the other. -/
def thr (x y X Y : Int) : Value := frm (Y - y) (-(X - x)) ((Y - y) * x - (X - x) * y)
def ont (x y X Y : Int) : Value := frm (2 * (X - x)) (2 * (Y - y)) (X * X + Y * Y - (x * x + y * y))
theorem same_no {x y X Y : Int} (h : same2 x y X Y = false) : ¬ (X - x = 0 ∧ Y - y = 0) := fun e => by
  unfold same2 at h
  have := of_decide_eq_false h
  omega
theorem alk_ok {x y X Y : Int} (h : alk x y X Y = 0) : (bd 1000 x ∧ bd 1000 y ∧ bd 1000 X ∧ bd 1000 Y) ∧ same2 x y X Y = false := by
  unfold alk at h
  split at h
  · omega
  · rename_i h1
    split at h
    · omega
    · rename_i h2
      simp at h1 h2
      exact ⟨⟨bd_of_far h1.1, bd_of_far h1.2.1, bd_of_far h1.2.2.1, bd_of_far h1.2.2.2⟩, h2⟩
set_option maxRecDepth 100000 in
set_option maxHeartbeats 1600000 in
theorem through7_ok (x y X Y : Int) (w : World) (hk : alk x y X Y = 0) :
    Calls Try.prog 7 #[pt x y, pt X Y] w fun e w' => e = .returned (.tuple #[thr x y X Y, .int .i64 0]) ∧ Below w.heap.size w w' := by
  have CA : Hid (∀ W, Calls Try.prog 22 #[.agg #[.int .i64 x, .int .i64 y], .agg #[.int .i64 X, .int .i64 Y]] W fun e w' => e = .returned (.int .i64 (alk x y X Y)) ∧ Below W.heap.size W w') := fun W => alike22 x y X Y W
  rw [hk] at CA
  obtain ⟨⟨hx, hy, hX, hY⟩, hs⟩ := alk_ok hk
  have CL : Hid (∀ W, Calls Try.prog 23 #[.agg #[.int .i64 x, .int .i64 y], .int .i64 (X - x), .int .i64 (Y - y)] W fun e w' => e = .returned (thr x y X Y) ∧ Below W.heap.size W w') := fun W => along23 x y (X - x) (Y - y) W (same_no hs) (bd_up hx (by omega)) (bd_up hy (by omega)) (bd_up (bd_sub hX hx) (by omega)) (bd_up (bd_sub hY hy) (by omega))
  clear hk hs
  unfold bd at *
  unfold thr frm st at *
  unfold pt
  generalize (Y - y).tdiv (dv (Y - y) (-(X - x)) ((Y - y) * x - (X - x) * y)) = A at *
  generalize (-(X - x)).tdiv (dv (Y - y) (-(X - x)) ((Y - y) * x - (X - x) * y)) = B at *
  generalize ((Y - y) * x - (X - x) * y).tdiv (dv (Y - y) (-(X - x)) ((Y - y) * x - (X - x) * y)) = C at *
  obtain ⟨_, _⟩ := hx
  obtain ⟨_, _⟩ := hy
  obtain ⟨_, _⟩ := hX
  obtain ⟨_, _⟩ := hY
  go_enter Try.func7, Try.ntmps7
  go_wp2_with (go_at_call 22; refine (CA.out _).mono ?_; rintro e w1 ⟨rfl, hb⟩; have hx : Bx w1 (w.heap.size + 1 + 1) 0 0 0 := (by have := (bx_new _ 25).kept hb; simpa using this); have p0 : w1.cell? ⟨w.heap.size, 0, none⟩ = some (.int .i64 x) := cl_kept hb (by simp [go_sem]); have p1 : w1.cell? ⟨w.heap.size, 1, none⟩ = some (.int .i64 y) := cl_kept hb (by simp [go_sem]); have q0 : w1.cell? ⟨w.heap.size + 1, 0, none⟩ = some (.int .i64 X) := cl_kept hb (by simp [go_sem]); have q1 : w1.cell? ⟨w.heap.size + 1, 1, none⟩ = some (.int .i64 Y) := cl_kept hb (by simp [go_sem]); replace hb := bl_via (bl_alloc (bl_alloc (bl_alloc (bl_refl w)))) hb; have HB : Hid (Below w.heap.size w w1) := hb; clear hb)
  go_wp2_with (go_at_call 23; refine (CL.out _).mono ?_; rintro e w2 ⟨rfl, hb2⟩; replace hx := hx.kept hb2; replace HB : Hid (Below w.heap.size w w2) := bl_via HB.out hb2; clear hb2; have RD : Hid (Rd w2 (w.heap.size + 1 + 1)) := hx.rd; obtain ⟨⟨r0, r1, r2⟩, hf⟩ := hx; have f0 := hf 0; have f1 := hf 1; have f2 := hf 2; have zg := World.block_lt_of_cell? _ _ r0; clear hf)
  refine bodyPost_ret (v := .tuple #[.agg #[_, _, _], _]) (by simp [results, Try.results7, go_sem, RD.out.1, RD.out.2.1, RD.out.2.2]) rfl ⟨rfl, ?_⟩
  exact (bl_set (bl_set (bl_set HB.out (by simp <;> omega)) (by simp <;> omega)) (by simp <;> omega))
end Go.Proofs.Ytohnppjbmpaomaa
