/- The reference's ThroughOf, OntoOf, UprightOf. -/
import Derived.Test.YtohnppjbmpaomaaInre
import Derived.Test.YtohnppjbmpaomaaThro
namespace Go.Proofs.Ytohnppjbmpaomaa
open Go.RowKit

set_option maxRecDepth 100000 in
set_option maxHeartbeats 1600000 in
theorem throughOf11 (x y X Y : Int) (w : World) (hx : bd 1000 x) (hy : bd 1000 y) (hX : bd 1000 X) (hY : bd 1000 Y) (hs : same2 x y X Y = false) :
    Calls Try.prog 11 #[pt x y, pt X Y] w fun e w' => e = .returned (thr x y X Y) ∧ Below w.heap.size w w' := by
  have b1 := bd_mul (bd_sub hY hy) hx
  have b2 := bd_mul (bd_sub hX hx) hy
  have CL : Hid (∀ W, Calls Try.prog 28 #[.int .i64 (Y - y), .int .i64 (-(X - x)), .int .i64 ((Y - y) * x - (X - x) * y)] W fun e w' => e = .returned (thr x y X Y) ∧ Below W.heap.size W w') := fun W => inForm28 _ _ _ W (by have := same_no hs; omega) (by unfold sm; unfold bd at *; omega) (by unfold sm; unfold bd at *; omega) (by unfold sm; unfold bd at *; omega)
  clear hs
  unfold bd at *
  unfold thr frm st at *
  unfold pt
  generalize (Y - y).tdiv (dv (Y - y) (-(X - x)) ((Y - y) * x - (X - x) * y)) = A at *
  generalize (-(X - x)).tdiv (dv (Y - y) (-(X - x)) ((Y - y) * x - (X - x) * y)) = B at *
  generalize ((Y - y) * x - (X - x) * y).tdiv (dv (Y - y) (-(X - x)) ((Y - y) * x - (X - x) * y)) = C at *
  obtain ⟨_, _⟩ := hx
  obtain ⟨_, _⟩ := hy
  obtain ⟨_, _⟩ := hX
  obtain ⟨_, _⟩ := hY
  obtain ⟨_, _⟩ := b1
  obtain ⟨_, _⟩ := b2
  go_enter Try.func11, Try.ntmps11
  go_wp2
  go_region
  go_wp2_with (go_at_call 28; refine (CL.out _).mono ?_; rintro e w2 ⟨rfl, hb2⟩; have hx : Bx w2 (w.heap.size + 1 + 1) 0 0 0 := (by have := ((bx_new _ 25).kept (bl_drew (bl_refl _))).kept hb2; simpa using this); have HB : Hid (Below w.heap.size w w2) := bl_via (bl_drew (bl_alloc (bl_alloc (bl_alloc (bl_refl w))))) hb2; clear hb2; have RD : Hid (Rd w2 (w.heap.size + 1 + 1)) := hx.rd; obtain ⟨⟨r0, r1, r2⟩, hf⟩ := hx; have f0 := hf 0; have f1 := hf 1; have f2 := hf 2; have zg := World.block_lt_of_cell? _ _ r0; clear hf)
  refine bodyPost_ret (v := .agg #[_, _, _]) (by simp [results, Try.results11, go_sem, RD.out.1, RD.out.2.1, RD.out.2.2]) rfl ⟨rfl, ?_⟩
  exact (bl_set (bl_set (bl_set HB.out (by simp <;> omega)) (by simp <;> omega)) (by simp <;> omega))
theorem ont_is (x y X Y : Int) : (X - x) * (x + X) + (Y - y) * (y + Y) = X * X + Y * Y - (x * x + y * y) := by grind
set_option maxRecDepth 100000 in
set_option maxHeartbeats 1600000 in
theorem ontoOf12 (x y X Y : Int) (w : World) (hx : bd 1000 x) (hy : bd 1000 y) (hX : bd 1000 X) (hY : bd 1000 Y) (hs : same2 x y X Y = false) :
    Calls Try.prog 12 #[pt x y, pt X Y] w fun e w' => e = .returned (ont x y X Y) ∧ Below w.heap.size w w' := by
  have b1 := bd_mul (bd_sub hX hx) (bd_add hx hX)
  have b2 := bd_mul (bd_sub hY hy) (bd_add hy hY)
  have CL : Hid (∀ W, Calls Try.prog 28 #[.int .i64 (2 * (X - x)), .int .i64 (2 * (Y - y)), .int .i64 ((X - x) * (x + X) + (Y - y) * (y + Y))] W fun e w' => e = .returned (ont x y X Y) ∧ Below W.heap.size W w') := fun W => by
    unfold ont
    rw [← ont_is]
    exact inForm28 _ _ _ W (by have := same_no hs; omega) (by unfold sm; unfold bd at *; omega) (by unfold sm; unfold bd at *; omega) (by unfold sm; unfold bd at *; omega)
  clear hs
  obtain ⟨A, B, C, hABC⟩ : ∃ A B C, ont x y X Y = .agg #[.int .i64 A, .int .i64 B, .int .i64 C] := ⟨_, _, _, rfl⟩
  rw [hABC] at CL ⊢
  clear hABC
  unfold bd at *
  unfold pt
  obtain ⟨_, _⟩ := hx
  obtain ⟨_, _⟩ := hy
  obtain ⟨_, _⟩ := hX
  obtain ⟨_, _⟩ := hY
  obtain ⟨_, _⟩ := b1
  obtain ⟨_, _⟩ := b2
  go_enter Try.func12, Try.ntmps12
  go_wp2
  go_region
  go_wp2_with (go_at_call 28; refine (CL.out _).mono ?_; rintro e w2 ⟨rfl, hb2⟩; have hx : Bx w2 (w.heap.size + 1 + 1) 0 0 0 := (by have := ((bx_new _ 25).kept (bl_drew (bl_refl _))).kept hb2; simpa using this); have HB : Hid (Below w.heap.size w w2) := bl_via (bl_drew (bl_alloc (bl_alloc (bl_alloc (bl_refl w))))) hb2; clear hb2; have RD : Hid (Rd w2 (w.heap.size + 1 + 1)) := hx.rd; obtain ⟨⟨r0, r1, r2⟩, hf⟩ := hx; have f0 := hf 0; have f1 := hf 1; have f2 := hf 2; have zg := World.block_lt_of_cell? _ _ r0; clear hf)
  refine bodyPost_ret (v := .agg #[_, _, _]) (by simp [results, Try.results12, go_sem, RD.out.1, RD.out.2.1, RD.out.2.2]) rfl ⟨rfl, ?_⟩
  exact (bl_set (bl_set (bl_set HB.out (by simp <;> omega)) (by simp <;> omega)) (by simp <;> omega))
def upr (a b x y : Int) : Value := frm b (-a) (b * x - a * y)
set_option maxRecDepth 100000 in
set_option maxHeartbeats 1600000 in
theorem uprightOf13 (a b c x y : Int) (w : World) (hx : bd 1000 x) (hy : bd 1000 y) (ha : bd 1000 a) (hb : bd 1000 b) (hs : ¬ (a = 0 ∧ b = 0)) :
    Calls Try.prog 13 #[st a b c, pt x y] w fun e w' => e = .returned (upr a b x y) ∧ Below w.heap.size w w' := by
  have b1 := bd_mul hb hx
  have b2 := bd_mul ha hy
  have CL : Hid (∀ W, Calls Try.prog 28 #[.int .i64 b, .int .i64 (-a), .int .i64 (b * x - a * y)] W fun e w' => e = .returned (upr a b x y) ∧ Below W.heap.size W w') := fun W => by
    exact inForm28 _ _ _ W (by omega) (by unfold sm; unfold bd at *; omega) (by unfold sm; unfold bd at *; omega) (by unfold sm; unfold bd at *; omega)
  clear hs
  obtain ⟨A, B, C, hABC⟩ : ∃ A B C, upr a b x y = .agg #[.int .i64 A, .int .i64 B, .int .i64 C] := ⟨_, _, _, rfl⟩
  rw [hABC] at CL ⊢
  clear hABC
  unfold bd at *
  unfold pt st
  obtain ⟨_, _⟩ := ha
  obtain ⟨_, _⟩ := b1
  obtain ⟨_, _⟩ := b2
  go_enter Try.func13, Try.ntmps13
  go_wp2_with (go_at_call 28; refine (CL.out _).mono ?_; rintro e w2 ⟨rfl, hb2⟩; have hx : Bx w2 (w.heap.size + 1 + 1) 0 0 0 := (by have := (bx_new _ 25).kept hb2; simpa using this); have HB : Hid (Below w.heap.size w w2) := bl_via (bl_alloc (bl_alloc (bl_alloc (bl_refl w)))) hb2; clear hb2; have RD : Hid (Rd w2 (w.heap.size + 1 + 1)) := hx.rd; obtain ⟨⟨r0, r1, r2⟩, hf⟩ := hx; have f0 := hf 0; have f1 := hf 1; have f2 := hf 2; have zg := World.block_lt_of_cell? _ _ r0; clear hf)
  refine bodyPost_ret (v := .agg #[_, _, _]) (by simp [results, Try.results13, go_sem, RD.out.1, RD.out.2.1, RD.out.2.2]) rfl ⟨rfl, ?_⟩
  exact (bl_set (bl_set (bl_set HB.out (by simp <;> omega)) (by simp <;> omega)) (by simp <;> omega))
end Go.Proofs.Ytohnppjbmpaomaa
