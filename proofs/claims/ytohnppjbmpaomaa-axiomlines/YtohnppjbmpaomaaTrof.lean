/- The reference's TurnsOf. -/
import Derived.Test.YtohnppjbmpaomaaTurn
namespace Go.Proofs.Ytohnppjbmpaomaa
open Go.RowKit

set_option maxRecDepth 100000 in
set_option maxHeartbeats 1600000 in
theorem turnsOf19 (x y a b c X Y : Int) (w : World)
    (hx : bd 1000 x) (hy : bd 1000 y) (ha : bd 1000 a) (hb : bd 1000 b) (hc : bd 1000 c) (hX : bd 1000 X) (hY : bd 1000 Y) :
    Calls Try.prog 19 #[pt x y, st a b c, pt X Y] w fun e w' => e = .returned (.int .i64 (trn x y a b c X Y)) ∧ Below w.heap.size w w' := by
  have d1 := bd_sub hx hX
  have d2 := bd_sub hy hY
  have bD1 := bd_mul d1 d1
  have bD2 := bd_mul d2 d2
  have bE1 := bd_mul ha ha
  have bE2 := bd_mul hb hb
  have bM := bd_mul (bd_add bD1 bD2) (bd_add bE1 bE2)
  have bO1 := bd_mul ha hX
  have bO2 := bd_mul hb hY
  have bO : bd 2001000 (a * X + b * Y - c) := bd_sub (bd_add bO1 bO2) hc
  have bF := bd_mul bO bO
  unfold trn ofs
  unfold bd at *
  obtain ⟨_, _⟩ := hx
  obtain ⟨_, _⟩ := hy
  obtain ⟨_, _⟩ := hX
  obtain ⟨_, _⟩ := hY
  obtain ⟨_, _⟩ := hc
  obtain ⟨_, _⟩ := bD1
  obtain ⟨_, _⟩ := bD2
  obtain ⟨_, _⟩ := bE1
  obtain ⟨_, _⟩ := bE2
  obtain ⟨_, _⟩ := bO1
  obtain ⟨_, _⟩ := bO2
  obtain ⟨_, _⟩ := bM
  obtain ⟨_, _⟩ := bF
  clear ha hb d1 d2 bO
  unfold st pt
  have HV : Hid (∀ u v : Int, (0 < u - v → 1 + cmpI u v = 2) ∧ (u - v = 0 → 1 + cmpI u v = 1) ∧ (u - v < 0 → 1 + cmpI u v = 0)) := fun u v => ⟨fun h => by rw [cmpI, if_neg (by omega), if_pos (by omega)]; rfl, fun h => by rw [cmpI, if_neg (by omega), if_neg (by omega)]; rfl, fun h => by rw [cmpI, if_pos (by omega)]; rfl⟩
  have H := HV.out (((x - X) * (x - X) + (y - Y) * (y - Y)) * (a * a + b * b)) ((a * X + b * Y - c) * (a * X + b * Y - c))
  generalize hv : 1 + cmpI (((x - X) * (x - X) + (y - Y) * (y - Y)) * (a * a + b * b)) ((a * X + b * Y - c) * (a * X + b * Y - c)) = V at H ⊢
  clear hv HV
  by_cases c1 : 0 < ((x - X) * (x - X) + (y - Y) * (y - Y)) * (a * a + b * b) - (a * X + b * Y - c) * (a * X + b * Y - c)
  · obtain rfl := H.1 c1
    clear H
    go_enter Try.func19, Try.ntmps19
    go_wp2
    go_ret
    exact ⟨rfl, bl_alloc (bl_alloc (bl_alloc (bl_refl _)))⟩
  · by_cases c2 : ((x - X) * (x - X) + (y - Y) * (y - Y)) * (a * a + b * b) - (a * X + b * Y - c) * (a * X + b * Y - c) = 0
    · obtain rfl := H.2.1 c2
      clear H
      go_enter Try.func19, Try.ntmps19
      go_wp2
      go_ret
      exact ⟨rfl, bl_alloc (bl_alloc (bl_alloc (bl_refl _)))⟩
    · obtain rfl := H.2.2 (by omega)
      have c3 : (((x - X) * (x - X) + (y - Y) * (y - Y)) * (a * a + b * b) - (a * X + b * Y - c) * (a * X + b * Y - c) == 0) = false := by simpa using c2
      clear H
      go_enter Try.func19, Try.ntmps19
      go_wp2
      go_ret
      exact ⟨rfl, bl_alloc (bl_alloc (bl_alloc (bl_refl _)))⟩
end Go.Proofs.Ytohnppjbmpaomaa
