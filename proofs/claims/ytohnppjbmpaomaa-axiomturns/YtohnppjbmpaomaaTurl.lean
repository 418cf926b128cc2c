/- off, cmp.Compare, Turns. -/
import Derived.Test.YtohnppjbmpaomaaWrng
import Derived.Test.YtohnppjbmpaomaaEqst
import Derived.Test.YtohnppjbmpaomaaSqur
import Derived.Test.YtohnppjbmpaomaaInfm
namespace Go.Proofs.Ytohnppjbmpaomaa
open Go.RowKit

def ofs (a b c X Y : Int) : Int := a * X + b * Y - c
theorem ofs_bd {a b c X Y : Int} (ha : bd 1000 a) (hb : bd 1000 b) (hc : bd 1000 c) (hX : bd 1000 X) (hY : bd 1000 Y) : bd 2001000 (ofs a b c X Y) := bd_sub (bd_add (bd_mul ha hX) (bd_mul hb hY)) hc
set_option maxRecDepth 100000 in
theorem off34 (a b c X Y : Int) (w : World) (ha : bd 1000 a) (hb : bd 1000 b) (hc : bd 1000 c) (hX : bd 1000 X) (hY : bd 1000 Y) :
    Calls Try.prog 34 #[st a b c, pt X Y] w fun e w' => e = .returned (.int .i64 (ofs a b c X Y)) ∧ Below w.heap.size w w' := by
  have m1 := bd_mul ha hX
  have m2 := bd_mul hb hY
  unfold bd at *
  unfold st pt ofs
  obtain ⟨c1, c2⟩ := hc
  obtain ⟨m1, m3⟩ := m1
  obtain ⟨m2, m4⟩ := m2
  clear ha hb hX hY
  go_enter Try.func34, Try.ntmps34
  go_wp2
  go_ret
  exact ⟨rfl, bl_alloc (bl_alloc (bl_refl _))⟩
/-- cmp.Compare. -/
def cmpI (x y : Int) : Int := if x < y then -1 else if y < x then 1 else 0
theorem isNaN49 (x : Int) (w : World) : Calls Try.prog 49 #[.int .i64 x] w fun e w' => e = .returned (.bool false) ∧ Below w.heap.size w w' := by
  go_enter Try.func49, Try.ntmps49
  go_wp2
  go_ret
  exact ⟨ret_bool (by simp), bl_refl _⟩
theorem cmp37 (x y : Int) (w : World) : Calls Try.prog 37 #[.int .i64 x, .int .i64 y] w fun e w' => e = .returned (.int .i64 (cmpI x y)) ∧ Below w.heap.size w w' := by
  have C : Hid (∀ (x : Int) (W : World), Calls Try.prog 49 #[.int .i64 x] W fun e w' => e = .returned (.bool false) ∧ Below W.heap.size W w') := fun x W => isNaN49 x W
  by_cases h1 : x < y
  · have e : cmpI x y = -1 := by rw [cmpI, if_pos h1]
    have E : Hid (cmpI x y = -1) := e
    clear e
    go_enter Try.func37, Try.ntmps37
    go_wp2_with (first | (go_at_call 49; with_reducible refine (C.out x _).mono ?_; rintro e w1 ⟨rfl, hb0⟩) | (go_at_call 49; with_reducible refine (C.out y _).mono ?_; rintro e w2 ⟨rfl, hb⟩) | fail)
    go_ret
    exact ⟨ret_int E.out.symm, bl_via hb0 hb⟩
  · by_cases h2 : y < x
    · have E : Hid (cmpI x y = 1) := (by rw [cmpI, if_neg h1, if_pos h2] : cmpI x y = 1)
      go_enter Try.func37, Try.ntmps37
      go_wp2_with (first | (go_at_call 49; with_reducible refine (C.out x _).mono ?_; rintro e w1 ⟨rfl, hb0⟩) | (go_at_call 49; with_reducible refine (C.out y _).mono ?_; rintro e w2 ⟨rfl, hb⟩) | fail)
      go_ret
      exact ⟨ret_int E.out.symm, bl_via hb0 hb⟩
    · have E : Hid (cmpI x y = 0) := (by rw [cmpI, if_neg h1, if_neg h2] : cmpI x y = 0)
      go_enter Try.func37, Try.ntmps37
      go_wp2_with (first | (go_at_call 49; with_reducible refine (C.out x _).mono ?_; rintro e w1 ⟨rfl, hb0⟩) | (go_at_call 49; with_reducible refine (C.out y _).mono ?_; rintro e w2 ⟨rfl, hb⟩) | fail)
      go_ret
      exact ⟨ret_int E.out.symm, bl_via hb0 hb⟩
theorem sqL_two (u v : Int) : sqL [u, v] = u * u + v * v := by simp [sqL]
theorem sqL_one (u : Int) : sqL [u] = u * u := by simp [sqL]
theorem sq_two (u v : Int) (g : Nat) (W : World) (hu : bd 30000000 u) (hv : bd 30000000 v) (h : ∀ i, i < 2 → W.cell? ⟨g, i, none⟩ = some (.int .i64 (gt [u, v] i))) :
    Calls Try.prog 25 #[.slice (some ⟨g, 0, none⟩) 2 2] W fun e w' => e = .returned (.int .i64 (u * u + v * v)) ∧ Below W.heap.size W w' := by
  rw [← sqL_two]
  have m1 := bd_mul hu hu
  have m2 := bd_mul hv hv
  unfold bd at *
  refine squares25 _ [u, v] W (built_sg (l := [u, v]) h 2) (by simp) (fun i hi => ?_) (fun i hi => ?_)
  · have : i = 0 ∨ i = 1 ∨ i = 2 := by simp at hi; omega
    rcases this with rfl | rfl | rfl <;> simp [sqL] <;> omega
  · have : i = 0 ∨ i = 1 := by simp at hi; omega
    rcases this with rfl | rfl <;> simp [gt] <;> omega
theorem sq_one (u : Int) (g : Nat) (W : World) (hu : bd 30000000 u) (h : ∀ i, i < 1 → W.cell? ⟨g, i, none⟩ = some (.int .i64 (gt [u] i))) :
    Calls Try.prog 25 #[.slice (some ⟨g, 0, none⟩) 1 1] W fun e w' => e = .returned (.int .i64 (u * u)) ∧ Below W.heap.size W w' := by
  rw [← sqL_one]
  have m1 := bd_mul hu hu
  unfold bd at *
  refine squares25 _ [u] W (built_sg (l := [u]) h 1) (by simp) (fun i hi => ?_) (fun i hi => ?_)
  · have : i = 0 ∨ i = 1 := by simp at hi; omega
    rcases this with rfl | rfl <;> simp [sqL] <;> omega
  · have : i = 0 := by simp at hi; omega
    subst this
    simp [gt]
    omega
end Go.Proofs.Ytohnppjbmpaomaa
