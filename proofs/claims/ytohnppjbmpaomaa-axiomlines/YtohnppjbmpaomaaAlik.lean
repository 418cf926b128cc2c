/- alike. -/
import Derived.Test.YtohnppjbmpaomaaWrng
import Derived.Test.YtohnppjbmpaomaaEqst
namespace Go.Proofs.Ytohnppjbmpaomaa
open Go.RowKit

/-- Why two points tell no fold. -/
def alk (x y X Y : Int) : Int := if [x, y, X, Y].any far = true then 3 else if same2 x y X Y = true then 6 else 0
theorem wrg_nil (l : List Int) : wrg [] l = if l.any far = true then 3 else 0 := by simp [wrg]
theorem sn_nil (w : World) : Sn w (.slice none 0 0) [] := ⟨none, 0, rfl, fun i hi => by simp at hi⟩
set_option maxRecDepth 100000 in
set_option maxHeartbeats 1600000 in
theorem alike22 (x y X Y : Int) (w : World) : Calls Try.prog 22 #[pt x y, pt X Y] w fun e w' => e = .returned (.int .i64 (alk x y X Y)) ∧ Below w.heap.size w w' := by
  have C26 : Hid (∀ (g : Nat) (W : World), (∀ i, i < 4 → W.cell? ⟨g, i, none⟩ = some (.int .i64 (gt [x, y, X, Y] i))) → Calls Try.prog 26 #[.slice none 0 0, .slice (some ⟨g, 0, none⟩) 4 4] W fun e w' => e = .returned (.int .i64 (if [x, y, X, Y].any far = true then 3 else 0)) ∧ Below W.heap.size W w') := fun g W hW => by
    have := wrong26 (.slice none 0 0) (.slice (some ⟨g, 0, none⟩) 4 4) [] [x, y, X, Y] W (sn_nil W) (built_sg (l := [x, y, X, Y]) hW 4) (by simp) (by simp)
    rwa [wrg_nil] at this
  have E := eql23 x y X Y
  unfold pt alk
  obtain ⟨k1, h1⟩ : ∃ k, k = [x, y, X, Y].any far := ⟨_, rfl⟩
  obtain ⟨k2, h2⟩ : ∃ k, k = same2 x y X Y := ⟨_, rfl⟩
  rw [← h1] at C26 ⊢
  rw [← h2] at E ⊢
  clear h1 h2
  cases k1 <;> cases k2 <;> simp only [Bool.false_eq_true, if_true, if_false] at C26 ⊢
  all_goals
    go_enter Try.func22, Try.ntmps22
    go_wp2_with (go_at_call 26; refine (C26.out _ _ ?_).mono ?_; · intro i hi; have : i = 0 ∨ i = 1 ∨ i = 2 ∨ i = 3 := by omega
                                                                   rcases this with rfl | rfl | rfl | rfl <;> simp [go_sem, gt]
                 rintro e w1 ⟨rfl, hb⟩; have p0 : w1.cell? ⟨w.heap.size, 0, none⟩ = some (.int .i64 x) := cl_kept hb (by simp [go_sem]); have p1 : w1.cell? ⟨w.heap.size, 1, none⟩ = some (.int .i64 y) := cl_kept hb (by simp [go_sem]); have q0 : w1.cell? ⟨w.heap.size + 1, 0, none⟩ = some (.int .i64 X) := cl_kept hb (by simp [go_sem]); have q1 : w1.cell? ⟨w.heap.size + 1, 1, none⟩ = some (.int .i64 Y) := cl_kept hb (by simp [go_sem]))
    go_ret
    exact ⟨rfl, bl_via (bl_alloc (bl_alloc (bl_alloc (bl_refl _)))) hb⟩
end Go.Proofs.Ytohnppjbmpaomaa
