/- Directions from a point, and paper around it. -/
import Derived.Test.YtoedcefbmbfnhabDoorPmap
import Derived.Test.YtoedcefbmbfnhabDoorPkaf
import Derived.Test.YtoedcefbmbfnhabDoorPkah
namespace Go.Proofs.YtoedcefbmbfnhabDoor
open Go.RowKit Go.ChangeMaps

/-- The eight steps. -/
def dX (d : Nat) : Int := if d = 0 ∨ d = 1 ∨ d = 7 then 1 else if d = 2 ∨ d = 6 then 0 else -1
def dY (d : Nat) : Int := if d = 1 ∨ d = 2 ∨ d = 3 then 1 else if d = 0 ∨ d = 4 then 0 else -1
theorem d_inj {d e : Nat} (hd : d < 8) (he : e < 8) (h1 : dX d = dX e) (h2 : dY d = dY e) : d = e := by
  have h3 : d = 0 ∨ d = 1 ∨ d = 2 ∨ d = 3 ∨ d = 4 ∨ d = 5 ∨ d = 6 ∨ d = 7 := by omega
  have h4 : e = 0 ∨ e = 1 ∨ e = 2 ∨ e = 3 ∨ e = 4 ∨ e = 5 ∨ e = 6 ∨ e = 7 := by omega
  rcases h3 with rfl | rfl | rfl | rfl | rfl | rfl | rfl | rfl <;> rcases h4 with rfl | rfl | rfl | rfl | rfl | rfl | rfl | rfl <;> first | rfl | (exfalso; simp [dX, dY] at h1 h2)
/-- The list of steps in memory. -/
def D8 (w : World) (g : Nat) : Prop := ∀ d, d < 8 → w.cell? ⟨g, d * 2, none⟩ = some (.int .i64 (dX d)) ∧ w.cell? ⟨g, d * 2 + 1, none⟩ = some (.int .i64 (dY d))

set_option maxRecDepth 100000 in
set_option maxHeartbeats 1600000 in
theorem index_any (g : Nat) (D : Nat) (hD : D < 8) (w : World) (h8 : D8 w g) :
    Calls Tryd.prog 83 #[.slice (some ⟨g, 0, none⟩) 8 8, .agg #[.int .i64 (dX D), .int .i64 (dY D)]] w fun e w' => e = .returned (.int .i64 (D : Int)) ∧ Below w.heap.size w w' := by
  have H8 : Hid (D8 w g) := h8
  have he := eql25
  obtain ⟨X, hX⟩ : ∃ X, X = dX D := ⟨_, rfl⟩
  obtain ⟨Y, hY⟩ : ∃ Y, Y = dY D := ⟨_, rfl⟩
  rw [← hX, ← hY]
  have HXY : Hid (X = dX D ∧ Y = dY D) := ⟨hX, hY⟩
  clear h8 hX hY
  go_enter Tryd.func83, Tryd.ntmps83
  go_wp2
  go_loopg [8] (D + 1) (fun gk s8 wx => ∃ d : Nat, d ≤ D ∧ gk = D + 1 - d ∧ s8 = .int .i64 (d : Int) ∧ Below w.heap.size w wx ∧ (wx.cell? ⟨w.heap.size, 0, none⟩ = some (.int .i64 X) ∧ wx.cell? ⟨w.heap.size, 1, none⟩ = some (.int .i64 Y)))
  case atStart => exact ⟨0, by omega, rfl, rfl, bl_alloc (bl_refl _), by simp [go_sem]⟩
  case round =>
    obtain ⟨d, hd, rfl, rfl, hB, c0, c1⟩ := hrel
    have HB : Hid (Below w.heap.size w wr) := hB
    obtain ⟨e0, e1⟩ := H8.out d (by omega)
    replace e0 := cl_kept hB e0
    replace e1 := cl_kept hB e1
    have z0 : w.heap.size < wr.heap.size := World.block_lt_of_cell? _ _ c0
    have z1 : g < wr.heap.size := World.block_lt_of_cell? _ _ e0
    have i8 : (d : Int) < 8 := by omega
    have i0 : (0 : Int) ≤ (d : Int) := by omega
    clear hB
    obtain ⟨A, hA⟩ : ∃ A, A = dX d := ⟨_, rfl⟩
    obtain ⟨B, hB2⟩ : ∃ B, B = dY d := ⟨_, rfl⟩
    rw [← hA] at e0
    rw [← hB2] at e1
    by_cases h1 : d = D
    · have hs : decide (X = A ∧ Y = B) = true := by
        rw [hA, hB2, h1, HXY.out.1, HXY.out.2]
        simp
      have HD : Hid (d = D) := h1
      clear h1 hA hB2
      go_wp2
      go_quiet (fail)
      go_wp2
      go_ret
      exact ⟨by rw [HD.out]; rfl, bl_drewN HB.out⟩
    · have hs : decide (X = A ∧ Y = B) = false := by
        rw [hA, hB2, HXY.out.1, HXY.out.2]
        simp only [decide_eq_false_iff_not]
        exact fun h => h1 (d_inj hD (by omega) h.1 h.2).symm
      have HD : Hid (d ≠ D) := h1
      clear h1 hA hB2
      go_wp2
      go_quiet (fail)
      go_wp2
      go_roundg (D + 1 - (d + 1))
      case measure => omega
      case rel => exact ⟨d + 1, by have := HD.out; omega, rfl, by go_num, bl_drewN HB.out, c0, c1⟩

set_option maxRecDepth 100000 in
set_option maxHeartbeats 3200000 in
/-- The direction of one point from another. -/
theorem direction_any (p q r s : Int) (D : Nat) (hD : D < 8) (w : World) (hx : cmp3 r p = dX D) (hy : cmp3 s q = dY D) :
    Calls Tryd.prog 55 #[.agg #[.int .i64 p, .int .i64 q], .agg #[.int .i64 r, .int .i64 s]] w fun e w' => e = .returned (.int .i64 (D : Int)) ∧ Below w.heap.size w w' := by
  have CX : Hid (∀ (a b : Int) (W' : World), Calls Tryd.prog 82 #[.int .i64 a, .int .i64 b] W' fun e w' => e = .returned (.int .i64 (cmp3 a b)) ∧ w' = W') := fun a b W' => compare_any a b W'
  have CI : Hid (∀ (W' : World) (g : Nat), D8 W' g → Calls Tryd.prog 83 #[.slice (some ⟨g, 0, none⟩) 8 8, .agg #[.int .i64 (cmp3 r p), .int .i64 (cmp3 s q)]] W' fun e w' => e = .returned (.int .i64 (D : Int)) ∧ Below W'.heap.size W' w') := fun W' g h => by
    rw [hx, hy]
    exact index_any g D hD W' h
  clear hx hy
  go_enter Tryd.func55, Tryd.ntmps55
  go_wp2
  refine wp_named (fun W0 hW0 => ?_)
  have HB0 : Hid (Below w.heap.size w W0) := by
    have : Below w.heap.size w W0 := by rw [hW0]; exact bl_alloc (bl_alloc (bl_refl _))
    exact this
  have c0 : W0.cell? ⟨w.heap.size, 0, none⟩ = some (.int .i64 p) := by rw [hW0]; simp [go_sem]
  have c1 : W0.cell? ⟨w.heap.size, 1, none⟩ = some (.int .i64 q) := by rw [hW0]; simp [go_sem]
  have c2 : W0.cell? ⟨w.heap.size + 1, 0, none⟩ = some (.int .i64 r) := by rw [hW0]; simp [go_sem]
  have c3 : W0.cell? ⟨w.heap.size + 1, 1, none⟩ = some (.int .i64 s) := by rw [hW0]; simp [go_sem]
  have z0 : w.heap.size < W0.heap.size := World.block_lt_of_cell? _ _ c0
  have z1 : w.heap.size + 1 < W0.heap.size := World.block_lt_of_cell? _ _ c2
  clear hW0
  go_cut [5] (fun s5 wx => ∃ g : Nat, s5 = .pointer (some ⟨g, 0, none⟩) ∧ (wx.cell? ⟨g, 0, none⟩ = some (.int .i64 (cmp3 r p)) ∧ wx.cell? ⟨g, 1, none⟩ = some (.int .i64 (cmp3 s q))) ∧ Below W0.heap.size W0 wx)
  case first =>
    go_region_held3 (fun w' => w'.cell? ⟨w.heap.size, 0, none⟩ = some (.int .i64 p) ∧ w'.cell? ⟨w.heap.size, 1, none⟩ = some (.int .i64 q) ∧ w'.cell? ⟨w.heap.size + 1, 0, none⟩ = some (.int .i64 r) ∧ w'.cell? ⟨w.heap.size + 1, 1, none⟩ = some (.int .i64 s))
      ((refine ⟨?_, ?_, ?_, ?_⟩ <;> (repeat' (first | (with_reducible assumption) | (with_reducible refine set_far ?_ ?_) | (dsimp only; omega) | (simp [go_sem]; done) | (with_reducible refine al_old ?_) | (with_reducible refine dr_old ?_)))))
      ((go_at_call 82; refine (CX.out _ _ _).mono ?_; rintro e w8 ⟨rfl, hw8⟩; have hw9 := hw8.symm; clear hw8; subst hw9))
    all_goals
      go_wp2
      go_meet
      case rel =>
        refine ⟨_, rfl, ?_, ?_⟩
        · first | (simp [go_sem]; done) | (simp [go_sem, *]; done)
        · with_reducible repeat' (first | exact bl_refl _ | refine bl_set ?_ ?_ | refine bl_alloc ?_ | refine bl_drew ?_)
          all_goals (first | omega | (dsimp only; omega) | (simp; done))
  case rest =>
    obtain ⟨g, rfl, ⟨d0, d1⟩, hB⟩ := hcut
    have HB : Hid (Below w.heap.size w wc) := bl_via HB0.out hB
    have zg : g < wc.heap.size := World.block_lt_of_cell? _ _ d0
    clear hB c0 c1 c2 c3 z0 z1 HB0
    go_wp2_with (go_at_call 83; refine (CI.out _ wc.heap.size (by intro d hd; have h3 : d = 0 ∨ d = 1 ∨ d = 2 ∨ d = 3 ∨ d = 4 ∨ d = 5 ∨ d = 6 ∨ d = 7 := (by omega); rcases h3 with rfl | rfl | rfl | rfl | rfl | rfl | rfl | rfl <;> simp [go_sem, dX, dY])).mono ?_; rintro e w5 ⟨rfl, hb⟩; have HB5 : Hid (Below w.heap.size w w5) := bl_via (bl_alloc HB.out) hb; clear hb)
    go_ret
    exact ⟨rfl, HB5.out⟩
end Go.Proofs.YtoedcefbmbfnhabDoor
