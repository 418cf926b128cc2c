/- Points and straights in slices, for the reference's FarMay. -/
import Derived.Test.YtohnppjbmpaomaaFrmy
import Derived.Test.YtohnppjbmpaomaaUprt
import Derived.Test.YtohnppjbmpaomaaTrof
namespace Go.Proofs.Ytohnppjbmpaomaa
open Go.RowKit

theorem built_sp1 {w : World} {g : Nat} {x y : Int} (h : w.cell? ⟨g, 0, none⟩ = some (.int .i64 x) ∧ w.cell? ⟨g, 1, none⟩ = some (.int .i64 y)) : Sp w (.slice (some ⟨g, 0, none⟩) 1 1) [⟨x, y⟩] :=
  ⟨_, 1, rfl, fun i hi => by
    have : i = 0 := by simp at hi; omega
    subst this
    exact ⟨g, rfl, h⟩⟩
theorem built_sp2 {w : World} {g : Nat} {x y X Y : Int} (h : w.cell? ⟨g, 0, none⟩ = some (.int .i64 x) ∧ w.cell? ⟨g, 1, none⟩ = some (.int .i64 y) ∧ w.cell? ⟨g, 2, none⟩ = some (.int .i64 X) ∧ w.cell? ⟨g, 3, none⟩ = some (.int .i64 Y)) : Sp w (.slice (some ⟨g, 0, none⟩) 2 2) [⟨x, y⟩, ⟨X, Y⟩] :=
  ⟨_, 2, rfl, fun i hi => by
    have : i = 0 ∨ i = 1 := by simp at hi; omega
    rcases this with rfl | rfl
    · exact ⟨g, rfl, h.1, h.2.1⟩
    · exact ⟨g, rfl, h.2.2.1, h.2.2.2⟩⟩
theorem fmay_one (x y a b c : Int) : fmay [⟨x, y⟩] [⟨a, b, c⟩] = wrg [⟨a, b, c⟩] [x, y] := by simp [fmay, wrg, Pn.far]
theorem fmay_two (x y X Y a b c : Int) : fmay [⟨x, y⟩, ⟨X, Y⟩] [⟨a, b, c⟩] = wrg [⟨a, b, c⟩] [x, y, X, Y] := by simp [fmay, wrg, Pn.far, or_assoc]
theorem fmay_pts (x y X Y : Int) : fmay [⟨x, y⟩, ⟨X, Y⟩] [] = if [x, y, X, Y].any far = true then 3 else 0 := by simp [fmay, Pn.far, or_assoc]
theorem far_two (x y X Y : Int) (g : Nat) (W : World) (h : W.cell? ⟨g, 0, none⟩ = some (.int .i64 x) ∧ W.cell? ⟨g, 1, none⟩ = some (.int .i64 y) ∧ W.cell? ⟨g, 2, none⟩ = some (.int .i64 X) ∧ W.cell? ⟨g, 3, none⟩ = some (.int .i64 Y)) :
    Calls Try.prog 10 #[.slice (some ⟨g, 0, none⟩) 2 2, .slice none 0 0] W fun e w' => e = .returned (.int .i64 (if [x, y, X, Y].any far = true then 3 else 0)) ∧ Below W.heap.size W w' := by
  rw [← fmay_pts]
  exact farMay10 _ _ _ _ W (built_sp2 h) (sn_nil W) (by simp) (by simp)
theorem far_one (x y a b c : Int) (g h : Nat) (W : World) (h1 : W.cell? ⟨g, 0, none⟩ = some (.int .i64 x) ∧ W.cell? ⟨g, 1, none⟩ = some (.int .i64 y)) (h2 : W.cell? ⟨h, 0, none⟩ = some (.int .i64 a) ∧ W.cell? ⟨h, 1, none⟩ = some (.int .i64 b) ∧ W.cell? ⟨h, 2, none⟩ = some (.int .i64 c)) :
    Calls Try.prog 10 #[.slice (some ⟨g, 0, none⟩) 1 1, .slice (some ⟨h, 0, none⟩) 1 1] W fun e w' => e = .returned (.int .i64 (wrg [⟨a, b, c⟩] [x, y])) ∧ Below W.heap.size W w' := by
  rw [← fmay_one]
  exact farMay10 _ _ _ _ W (built_sp1 h1) (built_sn h2) (by simp) (by simp)
theorem far_all (x y X Y a b c : Int) (g h : Nat) (W : World) (h1 : W.cell? ⟨g, 0, none⟩ = some (.int .i64 x) ∧ W.cell? ⟨g, 1, none⟩ = some (.int .i64 y) ∧ W.cell? ⟨g, 2, none⟩ = some (.int .i64 X) ∧ W.cell? ⟨g, 3, none⟩ = some (.int .i64 Y)) (h2 : W.cell? ⟨h, 0, none⟩ = some (.int .i64 a) ∧ W.cell? ⟨h, 1, none⟩ = some (.int .i64 b) ∧ W.cell? ⟨h, 2, none⟩ = some (.int .i64 c)) :
    Calls Try.prog 10 #[.slice (some ⟨g, 0, none⟩) 2 2, .slice (some ⟨h, 0, none⟩) 1 1] W fun e w' => e = .returned (.int .i64 (wrg [⟨a, b, c⟩] [x, y, X, Y])) ∧ Below W.heap.size W w' := by
  rw [← fmay_two]
  exact farMay10 _ _ _ _ W (built_sp2 h1) (built_sn h2) (by simp) (by simp)
end Go.Proofs.Ytohnppjbmpaomaa
