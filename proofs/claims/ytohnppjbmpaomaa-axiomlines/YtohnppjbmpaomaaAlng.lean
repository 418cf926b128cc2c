/- along: through a point, that way. -/
import Derived.Test.YtohnppjbmpaomaaInfm
namespace Go.Proofs.Ytohnppjbmpaomaa
open Go.RowKit

set_option maxRecDepth 100000 in
set_option maxHeartbeats 800000 in
theorem along23 (x y dx dy : Int) (w : World) (h : ¬ (dx = 0 ∧ dy = 0)) (hx : bd 1000000 x) (hy : bd 1000000 y) (h1 : bd 1000000 dx) (h2 : bd 1000000 dy) :
    Calls Try.prog 23 #[pt x y, .int .i64 dx, .int .i64 dy] w fun e w' => e = .returned (frm dy (-dx) (dy * x - dx * y)) ∧ Below w.heap.size w w' := by
  have b1 := bd_mul h2 hx
  have b2 := bd_mul h1 hy
  have CI : Hid (∀ W, Calls Try.prog 24 #[.int .i64 dy, .int .i64 (-dx), .int .i64 (dy * x - dx * y)] W fun e w' => e = .returned (frm dy (-dx) (dy * x - dx * y)) ∧ Below W.heap.size W w') := fun W => by
    refine inForm24 dy (-dx) (dy * x - dx * y) W (by omega) ?_ ?_ ?_ <;> unfold sm <;> unfold bd at * <;> omega
  unfold bd at *
  obtain ⟨b1, b3⟩ := b1
  obtain ⟨b2, b4⟩ := b2
  obtain ⟨h1, h3⟩ := h1
  unfold frm at *
  unfold st at *
  unfold pt
  generalize dy.tdiv (dv dy (-dx) (dy * x - dx * y)) = A at *
  generalize (-dx).tdiv (dv dy (-dx) (dy * x - dx * y)) = B at *
  generalize (dy * x - dx * y).tdiv (dv dy (-dx) (dy * x - dx * y)) = C at *
  clear h hx hy h2
  go_enter Try.func23, Try.ntmps23
  go_wp2_with (go_at_call 24; refine (CI.out _).mono ?_; rintro e w1 ⟨rfl, hb⟩; have hx : Bx w1 (w.heap.size + 1) 0 0 0 := (by have := (bx_new _ 25).kept hb; simpa using this); have RD : Hid (Rd w1 (w.heap.size + 1)) := hx.rd; obtain ⟨⟨c0, c1, c2⟩, hf⟩ := hx; have f0 := hf 0; have f1 := hf 1; have f2 := hf 2; have zg := World.block_lt_of_cell? _ _ c0; replace hb := bl_via (bl_alloc (bl_alloc (bl_refl w))) hb; have HB : Hid (Below w.heap.size w w1) := hb; clear hf hb)
  refine bodyPost_ret (v := .agg #[_, _, _]) (by simp [results, Try.results23, go_sem, RD.out.1, RD.out.2.1, RD.out.2.2]) rfl ⟨rfl, ?_⟩
  exact bl_set (bl_set (bl_set HB.out (Nat.le_succ _)) (Nat.le_succ _)) (Nat.le_succ _)
end Go.Proofs.Ytohnppjbmpaomaa
