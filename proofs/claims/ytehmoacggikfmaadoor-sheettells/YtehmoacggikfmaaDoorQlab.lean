/- The grid's cells and steps: middles, sums, corners, and what a line holds against its number. -/
import Derived.Test.YtehmoacggikfmaaDoorQlaa
import Derived.Deep.RegionHeld3
import Derived.Deep.DrawnRows
namespace Go.Proofs.YtehmoacggikfmaaDoor
open Go.RowKit
attribute [local go_sem ↓] Go.wp_at_zero Go.wp_at_succ

theorem below_two (w : World) (o p : Obj) : Below w.heap.size w ((w.alloc o).alloc p) := (below_one w o).alloc (by simp) _
theorem below_three (w : World) (o p q : Obj) : Below w.heap.size w (((w.alloc o).alloc p).alloc q) := (below_two w o p).alloc (by simp; omega) _

theorem bcell {W w1 : World} (hb : Below W.heap.size W w1) : (∀ b o, b < W.heap.size → w1.cell? ⟨b, o, none⟩ = W.cell? ⟨b, o, none⟩) ∧ (∀ b o, b < W.heap.size → w1.frozen? ⟨b, o, none⟩ = W.frozen? ⟨b, o, none⟩) :=
  ⟨fun b o h => hb.cell (p := ⟨b, o, none⟩) h, fun b o h => hb.frozen (p := ⟨b, o, none⟩) h⟩

theorem turned_any (k q : Int) (w : World) (h0 : 0 ≤ k) (h1 : k ≤ 3) (h2 : 0 ≤ q) (h3 : q ≤ 3) :
    Calls Tryd.prog 86 #[.int .i64 k, .int .i64 q] w fun e w' => e = .returned (.int .i64 ((k + q) % 4)) ∧ w' = w := by
  go_enter Tryd.func86, Tryd.ntmps86
  go_wp2
  go_ret
  exact ⟨rfl, rfl⟩

theorem middle_any (x y k : Int) (w : World) (h : triB x y k = true) :
    Calls Tryd.prog 84 #[.agg #[.int .i64 x, .int .i64 y, .int .i64 k]] w fun e w' => e = .returned (.agg #[.int .i64 (2 * x + 1), .int .i64 (2 * y + 1)]) ∧ ∃ o1 o2, w' = (w.alloc o1).alloc o2 := by
  have hb : 0 ≤ k ∧ k ≤ 3 ∧ -1000000 ≤ x ∧ x ≤ 1000000 ∧ -1000000 ≤ y ∧ y ≤ 1000000 := by simpa [triB] using h
  obtain ⟨_, _, b1, b2, b3, b4⟩ := hb
  clear h
  go_enter Tryd.func84, Tryd.ntmps84
  go_wp2
  exact bodyPost_ret (v := .agg #[.int .i64 (2 * x + 1), .int .i64 (2 * y + 1)]) (by simp [results, Tryd.results84, go_sem]) rfl ⟨rfl, _, _, rfl⟩

theorem plus_any (a b c d : Int) (w : World) (h1 : -10000000 ≤ a) (h2 : a ≤ 10000000) (h3 : -10000000 ≤ b) (h4 : b ≤ 10000000) (h5 : -10000000 ≤ c) (h6 : c ≤ 10000000) (h7 : -10000000 ≤ d) (h8 : d ≤ 10000000) :
    Calls Tryd.prog 85 #[.agg #[.int .i64 a, .int .i64 b], .agg #[.int .i64 c, .int .i64 d]] w fun e w' => e = .returned (.agg #[.int .i64 (a + c), .int .i64 (b + d)]) ∧ ∃ o1 o2 o3, w' = ((w.alloc o1).alloc o2).alloc o3 := by
  go_enter Tryd.func85, Tryd.ntmps85
  go_wp2
  exact bodyPost_ret (v := .agg #[.int .i64 (a + c), .int .i64 (b + d)]) (by simp [results, Tryd.results85, go_sem]) rfl ⟨rfl, _, _, _, rfl⟩

/-- What a line of this way holds against its number. -/
def alongOf (y a b : Int) : Int := if y = 0 then a else if y = 1 then b else if y = 2 then a + b else a - b

/-- The steps lie as start-up laid them. -/
def Steps (w : World) : Prop :=
  w.cell? ⟨2, 0, none⟩ = some (.int .i64 (-1)) ∧ w.cell? ⟨2, 1, none⟩ = some (.int .i64 (-1)) ∧ w.cell? ⟨2, 2, none⟩ = some (.int .i64 1) ∧ w.cell? ⟨2, 3, none⟩ = some (.int .i64 (-1)) ∧
  w.cell? ⟨2, 4, none⟩ = some (.int .i64 1) ∧ w.cell? ⟨2, 5, none⟩ = some (.int .i64 1) ∧ w.cell? ⟨2, 6, none⟩ = some (.int .i64 (-1)) ∧ w.cell? ⟨2, 7, none⟩ = some (.int .i64 1)

theorem lt_of_cell {w : World} {a : Addr} {v : Value} (h : w.cell? a = some v) : a.block < w.heap.size := World.block_lt_of_cell? _ _ h

theorem cell_kept {w wx : World} {a : Addr} {v : Value} (hb : Below w.heap.size w wx) (h : w.cell? a = some v) : wx.cell? a = some v := (hb.cell (lt_of_cell h)).trans h
theorem frozen_kept {w wx : World} {a : Addr} {v : Value} {b : Bool} (hb : Below w.heap.size w wx) (hc : w.cell? a = some v) (h : w.frozen? a = b) : wx.frozen? a = b := (hb.frozen (lt_of_cell hc)).trans h
theorem Steps.kept {w wx : World} (hs : Steps w) (hb : Below w.heap.size w wx) : Steps wx := by
  obtain ⟨s0, s1, s2, s3, s4, s5, s6, s7⟩ := hs
  exact ⟨cell_kept hb s0, cell_kept hb s1, cell_kept hb s2, cell_kept hb s3, cell_kept hb s4, cell_kept hb s5, cell_kept hb s6, cell_kept hb s7⟩

/-- The steps' numbers. -/
def stX (k : Int) : Int := if k = 1 ∨ k = 2 then 1 else -1
def stY (k : Int) : Int := if k = 2 ∨ k = 3 then 1 else -1
/-- The corners of a triangle's side. -/
def c1x (x k : Int) : Int := 2 * x + 1 + stX k
def c1y (y k : Int) : Int := 2 * y + 1 + stY k
def c2x (x k : Int) : Int := 2 * x + 1 + stX ((k + 1) % 4)
def c2y (y k : Int) : Int := 2 * y + 1 + stY ((k + 1) % 4)
theorem stX_bd (k : Int) : -1 ≤ stX k ∧ stX k ≤ 1 := by unfold stX; split <;> omega
theorem stY_bd (k : Int) : -1 ≤ stY k ∧ stY k ≤ 1 := by unfold stY; split <;> omega

set_option maxHeartbeats 1600000 in
theorem corners_0 (x y : Int) (w : World) (h : triB x y 0 = true) (hs : Steps w) :
    Calls Tryd.prog 77 #[.agg #[.int .i64 x, .int .i64 y, .int .i64 0]] w fun e w' => e = .returned (.agg #[.int .i64 (2 * x + 1), .int .i64 (2 * y + 1), .int .i64 (2 * x + 1 + -1), .int .i64 (2 * y + 1 + -1), .int .i64 (2 * x + 1 + 1), .int .i64 (2 * y + 1 + -1)]) ∧ Below w.heap.size w w' := by
  have hb : -1000000 ≤ x ∧ x ≤ 1000000 ∧ -1000000 ≤ y ∧ y ≤ 1000000 := by simpa [triB] using h
  obtain ⟨b1, b2, b3, b4⟩ := hb
  obtain ⟨s0, s1, s2, s3, s4, s5, s6, s7⟩ := hs
  have hz : 2 < w.heap.size := lt_of_cell s0
  have hz' : ¬ w.heap.size = 0 := by omega
  have z2 : ¬ 2 = w.heap.size := by omega
  have z1 : ¬ 1 = w.heap.size := by omega
  have z0 : ¬ 0 = w.heap.size := by omega
  have y2 : ¬ w.heap.size = 2 := by omega
  have y1 : ¬ w.heap.size = 1 := by omega
  have x1 : 2 < w.heap.size + 1 := by omega
  have x2 : 2 < w.heap.size + 1 + 1 := by omega
  have x3 : 2 < w.heap.size + 1 + 1 + 1 := by omega
  have x4 : 2 < w.heap.size + 1 + 1 + 1 + 1 := by omega
  go_enter Tryd.func77, Tryd.ntmps77
  go_wp2_with (go_at_call 84; refine (middle_any _ _ _ _ h).mono ?_; rintro e w1 ⟨rfl, o1, o2, rfl⟩)
  go_region_held3 (fun w' => w'.cell? ⟨w.heap.size + 1 + 1 + 1 + 1, 0, none⟩ = some (.int .i64 (2 * x + 1)) ∧ w'.cell? ⟨w.heap.size + 1 + 1 + 1 + 1, 1, none⟩ = some (.int .i64 (2 * y + 1)) ∧ w'.cell? ⟨w.heap.size, 2, none⟩ = some (.int .i64 0)
      ∧ w'.cell? ⟨2, 0, none⟩ = some (.int .i64 (-1)) ∧ w'.cell? ⟨2, 1, none⟩ = some (.int .i64 (-1)) ∧ w'.cell? ⟨2, 2, none⟩ = some (.int .i64 1) ∧ w'.cell? ⟨2, 3, none⟩ = some (.int .i64 (-1)))
    (simp [go_sem, World.cell?_alloc_past, *])
    (first | (go_at_call 85; refine (plus_any _ _ _ _ _ (by omega) (by omega) (by omega) (by omega) (by omega) (by omega) (by omega) (by omega)).mono ?_; rintro e w2 ⟨rfl, o3, o4, o5, rfl⟩) | (go_at_call 86; refine (turned_any _ _ _ (by omega) (by omega) (by omega) (by omega)).mono ?_; rintro e w2 ⟨rfl, rfl⟩))
  go_wp2
  refine bodyPost_ret (v := .agg #[.int .i64 (2 * x + 1), .int .i64 (2 * y + 1), .int .i64 (2 * x + 1 + -1), .int .i64 (2 * y + 1 + -1), .int .i64 (2 * x + 1 + 1), .int .i64 (2 * y + 1 + -1)]) ?_ rfl ⟨rfl, ?_⟩
  · simp [results, Tryd.results77, go_sem, World.cell?_alloc_past]
  · repeat (first | exact Below.refl _ _ | refine Below.alloc ?_ (by simp; try omega) _ | refine Below.drew ?_)

set_option maxHeartbeats 1600000 in
theorem corners_1 (x y : Int) (w : World) (h : triB x y 1 = true) (hs : Steps w) :
    Calls Tryd.prog 77 #[.agg #[.int .i64 x, .int .i64 y, .int .i64 1]] w fun e w' => e = .returned (.agg #[.int .i64 (2 * x + 1), .int .i64 (2 * y + 1), .int .i64 (2 * x + 1 + 1), .int .i64 (2 * y + 1 + -1), .int .i64 (2 * x + 1 + 1), .int .i64 (2 * y + 1 + 1)]) ∧ Below w.heap.size w w' := by
  have hb : -1000000 ≤ x ∧ x ≤ 1000000 ∧ -1000000 ≤ y ∧ y ≤ 1000000 := by simpa [triB] using h
  obtain ⟨b1, b2, b3, b4⟩ := hb
  obtain ⟨s0, s1, s2, s3, s4, s5, s6, s7⟩ := hs
  have hz : 2 < w.heap.size := lt_of_cell s0
  have hz' : ¬ w.heap.size = 0 := by omega
  have z2 : ¬ 2 = w.heap.size := by omega
  have z1 : ¬ 1 = w.heap.size := by omega
  have z0 : ¬ 0 = w.heap.size := by omega
  have y2 : ¬ w.heap.size = 2 := by omega
  have y1 : ¬ w.heap.size = 1 := by omega
  have x1 : 2 < w.heap.size + 1 := by omega
  have x2 : 2 < w.heap.size + 1 + 1 := by omega
  have x3 : 2 < w.heap.size + 1 + 1 + 1 := by omega
  have x4 : 2 < w.heap.size + 1 + 1 + 1 + 1 := by omega
  go_enter Tryd.func77, Tryd.ntmps77
  go_wp2_with (go_at_call 84; refine (middle_any _ _ _ _ h).mono ?_; rintro e w1 ⟨rfl, o1, o2, rfl⟩)
  go_region_held3 (fun w' => w'.cell? ⟨w.heap.size + 1 + 1 + 1 + 1, 0, none⟩ = some (.int .i64 (2 * x + 1)) ∧ w'.cell? ⟨w.heap.size + 1 + 1 + 1 + 1, 1, none⟩ = some (.int .i64 (2 * y + 1)) ∧ w'.cell? ⟨w.heap.size, 2, none⟩ = some (.int .i64 1)
      ∧ w'.cell? ⟨2, 2, none⟩ = some (.int .i64 1) ∧ w'.cell? ⟨2, 3, none⟩ = some (.int .i64 (-1)) ∧ w'.cell? ⟨2, 4, none⟩ = some (.int .i64 1) ∧ w'.cell? ⟨2, 5, none⟩ = some (.int .i64 1))
    (simp [go_sem, World.cell?_alloc_past, *])
    (first | (go_at_call 85; refine (plus_any _ _ _ _ _ (by omega) (by omega) (by omega) (by omega) (by omega) (by omega) (by omega) (by omega)).mono ?_; rintro e w2 ⟨rfl, o3, o4, o5, rfl⟩) | (go_at_call 86; refine (turned_any _ _ _ (by omega) (by omega) (by omega) (by omega)).mono ?_; rintro e w2 ⟨rfl, rfl⟩))
  go_wp2
  refine bodyPost_ret (v := .agg #[.int .i64 (2 * x + 1), .int .i64 (2 * y + 1), .int .i64 (2 * x + 1 + 1), .int .i64 (2 * y + 1 + -1), .int .i64 (2 * x + 1 + 1), .int .i64 (2 * y + 1 + 1)]) ?_ rfl ⟨rfl, ?_⟩
  · simp [results, Tryd.results77, go_sem, World.cell?_alloc_past]
  · repeat (first | exact Below.refl _ _ | refine Below.alloc ?_ (by simp; try omega) _ | refine Below.drew ?_)

set_option maxHeartbeats 1600000 in
theorem corners_2 (x y : Int) (w : World) (h : triB x y 2 = true) (hs : Steps w) :
    Calls Tryd.prog 77 #[.agg #[.int .i64 x, .int .i64 y, .int .i64 2]] w fun e w' => e = .returned (.agg #[.int .i64 (2 * x + 1), .int .i64 (2 * y + 1), .int .i64 (2 * x + 1 + 1), .int .i64 (2 * y + 1 + 1), .int .i64 (2 * x + 1 + -1), .int .i64 (2 * y + 1 + 1)]) ∧ Below w.heap.size w w' := by
  have hb : -1000000 ≤ x ∧ x ≤ 1000000 ∧ -1000000 ≤ y ∧ y ≤ 1000000 := by simpa [triB] using h
  obtain ⟨b1, b2, b3, b4⟩ := hb
  obtain ⟨s0, s1, s2, s3, s4, s5, s6, s7⟩ := hs
  have hz : 2 < w.heap.size := lt_of_cell s0
  have hz' : ¬ w.heap.size = 0 := by omega
  have z2 : ¬ 2 = w.heap.size := by omega
  have z1 : ¬ 1 = w.heap.size := by omega
  have z0 : ¬ 0 = w.heap.size := by omega
  have y2 : ¬ w.heap.size = 2 := by omega
  have y1 : ¬ w.heap.size = 1 := by omega
  have x1 : 2 < w.heap.size + 1 := by omega
  have x2 : 2 < w.heap.size + 1 + 1 := by omega
  have x3 : 2 < w.heap.size + 1 + 1 + 1 := by omega
  have x4 : 2 < w.heap.size + 1 + 1 + 1 + 1 := by omega
  go_enter Tryd.func77, Tryd.ntmps77
  go_wp2_with (go_at_call 84; refine (middle_any _ _ _ _ h).mono ?_; rintro e w1 ⟨rfl, o1, o2, rfl⟩)
  go_region_held3 (fun w' => w'.cell? ⟨w.heap.size + 1 + 1 + 1 + 1, 0, none⟩ = some (.int .i64 (2 * x + 1)) ∧ w'.cell? ⟨w.heap.size + 1 + 1 + 1 + 1, 1, none⟩ = some (.int .i64 (2 * y + 1)) ∧ w'.cell? ⟨w.heap.size, 2, none⟩ = some (.int .i64 2)
      ∧ w'.cell? ⟨2, 4, none⟩ = some (.int .i64 1) ∧ w'.cell? ⟨2, 5, none⟩ = some (.int .i64 1) ∧ w'.cell? ⟨2, 6, none⟩ = some (.int .i64 (-1)) ∧ w'.cell? ⟨2, 7, none⟩ = some (.int .i64 1))
    (simp [go_sem, World.cell?_alloc_past, *])
    (first | (go_at_call 85; refine (plus_any _ _ _ _ _ (by omega) (by omega) (by omega) (by omega) (by omega) (by omega) (by omega) (by omega)).mono ?_; rintro e w2 ⟨rfl, o3, o4, o5, rfl⟩) | (go_at_call 86; refine (turned_any _ _ _ (by omega) (by omega) (by omega) (by omega)).mono ?_; rintro e w2 ⟨rfl, rfl⟩))
  go_wp2
  refine bodyPost_ret (v := .agg #[.int .i64 (2 * x + 1), .int .i64 (2 * y + 1), .int .i64 (2 * x + 1 + 1), .int .i64 (2 * y + 1 + 1), .int .i64 (2 * x + 1 + -1), .int .i64 (2 * y + 1 + 1)]) ?_ rfl ⟨rfl, ?_⟩
  · simp [results, Tryd.results77, go_sem, World.cell?_alloc_past]
  · repeat (first | exact Below.refl _ _ | refine Below.alloc ?_ (by simp; try omega) _ | refine Below.drew ?_)

set_option maxHeartbeats 1600000 in
theorem corners_3 (x y : Int) (w : World) (h : triB x y 3 = true) (hs : Steps w) :
    Calls Tryd.prog 77 #[.agg #[.int .i64 x, .int .i64 y, .int .i64 3]] w fun e w' => e = .returned (.agg #[.int .i64 (2 * x + 1), .int .i64 (2 * y + 1), .int .i64 (2 * x + 1 + -1), .int .i64 (2 * y + 1 + 1), .int .i64 (2 * x + 1 + -1), .int .i64 (2 * y + 1 + -1)]) ∧ Below w.heap.size w w' := by
  have hb : -1000000 ≤ x ∧ x ≤ 1000000 ∧ -1000000 ≤ y ∧ y ≤ 1000000 := by simpa [triB] using h
  obtain ⟨b1, b2, b3, b4⟩ := hb
  obtain ⟨s0, s1, s2, s3, s4, s5, s6, s7⟩ := hs
  have hz : 2 < w.heap.size := lt_of_cell s0
  have hz' : ¬ w.heap.size = 0 := by omega
  have z2 : ¬ 2 = w.heap.size := by omega
  have z1 : ¬ 1 = w.heap.size := by omega
  have z0 : ¬ 0 = w.heap.size := by omega
  have y2 : ¬ w.heap.size = 2 := by omega
  have y1 : ¬ w.heap.size = 1 := by omega
  have x1 : 2 < w.heap.size + 1 := by omega
  have x2 : 2 < w.heap.size + 1 + 1 := by omega
  have x3 : 2 < w.heap.size + 1 + 1 + 1 := by omega
  have x4 : 2 < w.heap.size + 1 + 1 + 1 + 1 := by omega
  go_enter Tryd.func77, Tryd.ntmps77
  go_wp2_with (go_at_call 84; refine (middle_any _ _ _ _ h).mono ?_; rintro e w1 ⟨rfl, o1, o2, rfl⟩)
  go_region_held3 (fun w' => w'.cell? ⟨w.heap.size + 1 + 1 + 1 + 1, 0, none⟩ = some (.int .i64 (2 * x + 1)) ∧ w'.cell? ⟨w.heap.size + 1 + 1 + 1 + 1, 1, none⟩ = some (.int .i64 (2 * y + 1)) ∧ w'.cell? ⟨w.heap.size, 2, none⟩ = some (.int .i64 3)
      ∧ w'.cell? ⟨2, 6, none⟩ = some (.int .i64 (-1)) ∧ w'.cell? ⟨2, 7, none⟩ = some (.int .i64 1) ∧ w'.cell? ⟨2, 0, none⟩ = some (.int .i64 (-1)) ∧ w'.cell? ⟨2, 1, none⟩ = some (.int .i64 (-1)))
    (simp [go_sem, World.cell?_alloc_past, *])
    (first | (go_at_call 85; refine (plus_any _ _ _ _ _ (by omega) (by omega) (by omega) (by omega) (by omega) (by omega) (by omega) (by omega)).mono ?_; rintro e w2 ⟨rfl, o3, o4, o5, rfl⟩) | (go_at_call 86; refine (turned_any _ _ _ (by omega) (by omega) (by omega) (by omega)).mono ?_; rintro e w2 ⟨rfl, rfl⟩))
  go_wp2
  refine bodyPost_ret (v := .agg #[.int .i64 (2 * x + 1), .int .i64 (2 * y + 1), .int .i64 (2 * x + 1 + -1), .int .i64 (2 * y + 1 + 1), .int .i64 (2 * x + 1 + -1), .int .i64 (2 * y + 1 + -1)]) ?_ rfl ⟨rfl, ?_⟩
  · simp [results, Tryd.results77, go_sem, World.cell?_alloc_past]
  · repeat (first | exact Below.refl _ _ | refine Below.alloc ?_ (by simp; try omega) _ | refine Below.drew ?_)

theorem corners_any (x y k : Int) (w : World) (h : triB x y k = true) (hs : Steps w) :
    Calls Tryd.prog 77 #[.agg #[.int .i64 x, .int .i64 y, .int .i64 k]] w fun e w' => e = .returned (.agg #[.int .i64 (2 * x + 1), .int .i64 (2 * y + 1), .int .i64 (c1x x k), .int .i64 (c1y y k), .int .i64 (c2x x k), .int .i64 (c2y y k)]) ∧ Below w.heap.size w w' := by
  have hk : k = 0 ∨ k = 1 ∨ k = 2 ∨ k = 3 := by have := h; simp [triB] at this; omega
  rcases hk with rfl | rfl | rfl | rfl
  · exact corners_0 x y w h hs
  · exact corners_1 x y w h hs
  · exact corners_2 x y w h hs
  · exact corners_3 x y w h hs

end Go.Proofs.YtehmoacggikfmaaDoor
