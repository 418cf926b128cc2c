/- around, through. -/
import Derived.Test.YtdflindoemffaaaKnds
namespace Go.Proofs.Ytdflindoemffaaa
open Go.RowKit

def arB (lo hi h : Int) : Bool := decide (lo < h) && decide (h < hi)
set_option maxRecDepth 100000 in
theorem around_any (lo hi h : Int) (w : World) :
    Calls Try.prog 38 #[.agg #[.int .i64 lo, .int .i64 hi], .int .i64 h] w fun e w' => e = .returned (.bool (arB lo hi h)) ∧ Below w.heap.size w w' := by
  go_enter Try.func38, Try.ntmps38
  go_wp2
  all_goals
    go_ret
    exact ⟨ret_bool (by rw [Bool.eq_iff_iff]; simp [arB] <;> omega), bl_alloc (bl_refl _)⟩
def thB (lo hi p q : Int) : Bool := arB lo hi p != arB lo hi q
set_option maxRecDepth 100000 in
set_option maxHeartbeats 800000 in
theorem through_any (lo hi p q : Int) (w : World) :
    Calls Try.prog 33 #[.agg #[.int .i64 lo, .int .i64 hi], .agg #[.int .i64 p, .int .i64 q]] w fun e w' => e = .returned (.bool (thB lo hi p q)) ∧ Below w.heap.size w w' := by
  have CA : Hid (∀ (h : Int) (W : World), Calls Try.prog 38 #[.agg #[.int .i64 lo, .int .i64 hi], .int .i64 h] W fun e w' => e = .returned (.bool (arB lo hi h)) ∧ Below W.heap.size W w') := around_any lo hi
  obtain ⟨tb, htb⟩ : ∃ b, b = thB lo hi p q := ⟨_, rfl⟩
  have HT : Hid (tb = (arB lo hi p != arB lo hi q)) := htb
  rw [← htb]
  clear htb
  go_enter Try.func33, Try.ntmps33
  go_wp2
  refine wp_named (fun W hW => ?_)
  have HW : Hid (Below w.heap.size w W) := by
    have : Below w.heap.size w W := by rw [hW]; exact bl_alloc (bl_alloc (bl_refl _))
    exact this
  have c0 : W.cell? ⟨w.heap.size, 0, none⟩ = some (.int .i64 lo) := by rw [hW]; simp [go_sem]
  have c1 : W.cell? ⟨w.heap.size, 1, none⟩ = some (.int .i64 hi) := by rw [hW]; simp [go_sem]
  have c2 : W.cell? ⟨w.heap.size + 1, 0, none⟩ = some (.int .i64 p) := by rw [hW]; simp [go_sem]
  have c3 : W.cell? ⟨w.heap.size + 1, 1, none⟩ = some (.int .i64 q) := by rw [hW]; simp [go_sem]
  have z0 : w.heap.size < W.heap.size := World.block_lt_of_cell? _ _ c0
  have z1 : w.heap.size + 1 < W.heap.size := World.block_lt_of_cell? _ _ c2
  clear hW
  have kc := Kin.cells W
  have kn : Nonempty (Kin W) := ⟨⟨W, bl_refl _⟩⟩
  refine wp_region_kin (by kernel_rfl) (by kernel_rfl) ?_
  repeat (go_big_quiet_step ((go_at_call 38; exact kin_of (CA.out _ _))))
  refine wpQuiet_nil ?_
  intro wq hw'
  obtain ⟨nq, hw''⟩ := hw'
  have hq : Below W.heap.size W wq := hw'' ▸ nq.h
  clear hw'' nq kc kn
  go_wp2
  go_ret
  exact ⟨ret_bool HT.out.symm, bl_via HW.out hq⟩
end Go.Proofs.Ytdflindoemffaaa
