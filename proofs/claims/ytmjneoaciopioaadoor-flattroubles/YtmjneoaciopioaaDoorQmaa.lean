/- A part of the proof of a law on sheets. -/
import Derived.Test.YtmjneoaciopioaaDoorProg
import Derived.WalkKit
import Derived.WalkSpells
import Derived.WalkLawsBesides
namespace Go.Proofs.YtmjneoaciopioaaDoor
open Go.RowKit

def inB (n a b : Int) : Bool := decide (a ≤ n ∧ n ≤ b)
def evenB (n : Int) : Bool := decide (-1000000 ≤ n ∧ n ≤ 1000000 ∧ n % 2 = 0)
def unitB (n : Int) : Bool := decide (n = 1 ∨ n = -1)
def triB (x y k : Int) : Bool := decide (0 ≤ k ∧ k ≤ 3 ∧ -1000000 ≤ x ∧ x ≤ 1000000 ∧ -1000000 ≤ y ∧ y ≤ 1000000)
def lineB (way c : Int) : Bool := decide (0 ≤ way ∧ way ≤ 3 ∧ -1000000 ≤ c ∧ c ≤ 1000000 ∧ c % 2 = 0)

theorem ret_bool {a b : Bool} (h : a = b) : Ending.returned (.bool a) = .returned (.bool b) := by rw [h]
theorem ret_int {k : IntKind} {a b : Int} (h : a = b) : Ending.returned (.int k a) = .returned (.int k b) := by rw [h]

theorem below_one (w : World) (o : Obj) : Below w.heap.size w (w.alloc o) := (Below.refl _ _).alloc (Nat.le_refl _) _

theorem tmod2 (c : Int) : c.tmod 2 = 0 ↔ c % 2 = 0 := by rw [← Int.dvd_iff_tmod_eq_zero, Int.dvd_iff_emod_eq_zero]

theorem inBounds_any (n a b : Int) (w : World) :
    Calls Tryd.prog 59 #[.int .i64 n, .int .i64 a, .int .i64 b] w fun e w' => e = .returned (.bool (inB n a b)) ∧ w' = w := by
  go_enter Tryd.func59, Tryd.ntmps59
  go_wp2
  all_goals
    go_ret
    exact ⟨ret_bool (by rw [Bool.eq_iff_iff]; simp [inB]; omega), rfl⟩

theorem quarter_any (n : Int) (w : World) :
    Calls Tryd.prog 94 #[.int .i64 n] w fun e w' => e = .returned (.bool (inB n 0 3)) ∧ w' = w := by
  go_enter Tryd.func94, Tryd.ntmps94
  go_wp2
  all_goals
    go_ret
    exact ⟨ret_bool (by rw [Bool.eq_iff_iff]; simp [inB]; omega), rfl⟩

theorem near_any (n : Int) (w : World) :
    Calls Tryd.prog 95 #[.int .i64 n] w fun e w' => e = .returned (.bool (inB n (-1000000) 1000000)) ∧ w' = w := by
  go_enter Tryd.func95, Tryd.ntmps95
  go_wp2
  all_goals
    go_ret
    exact ⟨ret_bool (by rw [Bool.eq_iff_iff]; simp [inB]; omega), rfl⟩

theorem unit_any (n : Int) (w : World) :
    Calls Tryd.prog 130 #[.int .i64 n] w fun e w' => e = .returned (.bool (unitB n)) ∧ w' = w := by
  go_enter Tryd.func130, Tryd.ntmps130
  go_wp2
  all_goals
    go_ret
    exact ⟨ret_bool (by rw [Bool.eq_iff_iff]; simp_all [unitB]), rfl⟩

theorem evenPlace_any (n : Int) (w : World) :
    Calls Tryd.prog 129 #[.int .i64 n] w fun e w' => e = .returned (.bool (evenB n)) ∧ w' = w := by
  by_cases h : inB n (-1000000) 1000000 = true
  · have hb : -1000000 ≤ n ∧ n ≤ 1000000 := by simpa [inB] using h
    obtain ⟨b1, b2⟩ := hb
    go_enter Tryd.func129, Tryd.ntmps129
    go_wp2_with (go_at_call 95; refine (near_any _ _).mono ?_; rintro e w' ⟨rfl, rfl⟩)
    go_ret
    exact ⟨ret_bool (by rw [Bool.eq_iff_iff]; simp [evenB, tmod2]; omega), rfl⟩
  · go_enter Tryd.func129, Tryd.ntmps129
    go_wp2_with (go_at_call 95; refine (near_any _ _).mono ?_; rintro e w' ⟨rfl, rfl⟩)
    go_ret
    exact ⟨ret_bool (by rw [Bool.eq_iff_iff]; simp [evenB, inB] at h ⊢; omega), rfl⟩

theorem mayTri_any (x y k : Int) (w : World) :
    Calls Tryd.prog 81 #[.agg #[.int .i64 x, .int .i64 y, .int .i64 k]] w fun e w' => e = .returned (.bool (triB x y k)) ∧ ∃ o, w' = w.alloc o := by
  go_enter Tryd.func81, Tryd.ntmps81
  go_wp2_with (first | (go_at_call 94; refine (quarter_any _ _).mono ?_; rintro e w' ⟨rfl, rfl⟩) | (go_at_call 95; refine (near_any _ _).mono ?_; rintro e w' ⟨rfl, rfl⟩))
  all_goals
    go_ret
    exact ⟨ret_bool (by rw [Bool.eq_iff_iff]; simp_all [inB, triB]; try omega), _, rfl⟩

theorem mayLine_any (y c : Int) (w : World) :
    Calls Tryd.prog 112 #[.agg #[.int .i64 y, .int .i64 c]] w fun e w' => e = .returned (.bool (lineB y c)) ∧ ∃ o, w' = w.alloc o := by
  go_enter Tryd.func112, Tryd.ntmps112
  go_wp2_with (first | (go_at_call 94; refine (quarter_any _ _).mono ?_; rintro e w' ⟨rfl, rfl⟩) | (go_at_call 129; refine (evenPlace_any _ _).mono ?_; rintro e w' ⟨rfl, rfl⟩))
  all_goals
    go_ret
    exact ⟨ret_bool (by rw [Bool.eq_iff_iff]; simp_all [inB, lineB, evenB]; try omega), _, rfl⟩


theorem bl_refl (w : World) : Below w.heap.size w w := Below.refl _ _
theorem bl_alloc {w v : World} {o : Obj} (h : Below w.heap.size w v) : Below w.heap.size w (v.alloc o) := h.alloc h.size _
theorem bl_drew {w v : World} (h : Below w.heap.size w v) : Below w.heap.size w v.drew := h.drew
theorem bl_drewN {w v : World} {n : Nat} (h : Below w.heap.size w v) : Below w.heap.size w (v.drewN n) := ⟨h.os, h.tape, h.output, h.size, h.block⟩
theorem bl_via {w v u : World} (h : Below w.heap.size w v) (k : Below v.heap.size v u) : Below w.heap.size w u := h.trans (k.mono h.size)
theorem bl_set {w v : World} {p : Addr} {u : Value} (h : Below w.heap.size w v) (hp : w.heap.size ≤ p.block) : Below w.heap.size w (v.setCell p u) := h.setCell hp _

/-- A map's six numbers in a row of memory. -/
def Mp (w : World) (g : Nat) (a b c d e f : Int) : Prop :=
  w.cell? ⟨g, 0, none⟩ = some (.int .i64 a) ∧ w.cell? ⟨g, 1, none⟩ = some (.int .i64 b) ∧ w.cell? ⟨g, 2, none⟩ = some (.int .i64 c) ∧ w.cell? ⟨g, 3, none⟩ = some (.int .i64 d) ∧ w.cell? ⟨g, 4, none⟩ = some (.int .i64 e) ∧ w.cell? ⟨g, 5, none⟩ = some (.int .i64 f)
/-- A point's two numbers. -/
def Pt (w : World) (g : Nat) (x y : Int) : Prop := w.cell? ⟨g, 0, none⟩ = some (.int .i64 x) ∧ w.cell? ⟨g, 1, none⟩ = some (.int .i64 y)
/-- A triangle's three numbers. -/
def Tr (w : World) (g : Nat) (x y k : Int) : Prop := w.cell? ⟨g, 0, none⟩ = some (.int .i64 x) ∧ w.cell? ⟨g, 1, none⟩ = some (.int .i64 y) ∧ w.cell? ⟨g, 2, none⟩ = some (.int .i64 k)
/-- The first six cells of a row may be written. -/
def Fr (w : World) (g : Nat) : Prop :=
  w.frozen? ⟨g, 0, none⟩ = false ∧ w.frozen? ⟨g, 1, none⟩ = false ∧ w.frozen? ⟨g, 2, none⟩ = false ∧ w.frozen? ⟨g, 3, none⟩ = false ∧ w.frozen? ⟨g, 4, none⟩ = false ∧ w.frozen? ⟨g, 5, none⟩ = false

theorem cl_kept {w wx : World} {a : Addr} {v : Value} (hb : Below w.heap.size w wx) (h : w.cell? a = some v) : wx.cell? a = some v := (hb.cell (World.block_lt_of_cell? _ _ h)).trans h
theorem Mp.kept {w wx : World} {g : Nat} {a b c d e f : Int} (h : Mp w g a b c d e f) (hb : Below w.heap.size w wx) : Mp wx g a b c d e f := by
  obtain ⟨h0, h1, h2, h3, h4, h5⟩ := h
  exact ⟨cl_kept hb h0, cl_kept hb h1, cl_kept hb h2, cl_kept hb h3, cl_kept hb h4, cl_kept hb h5⟩
theorem Pt.kept {w wx : World} {g : Nat} {a b : Int} (h : Pt w g a b) (hb : Below w.heap.size w wx) : Pt wx g a b := ⟨cl_kept hb h.1, cl_kept hb h.2⟩
theorem Tr.kept {w wx : World} {g : Nat} {a b c : Int} (h : Tr w g a b c) (hb : Below w.heap.size w wx) : Tr wx g a b c := ⟨cl_kept hb h.1, cl_kept hb h.2.1, cl_kept hb h.2.2⟩
theorem Fr.kept {w wx : World} {g : Nat} (h : Fr w g) (hg : g < w.heap.size) (hb : Below w.heap.size w wx) : Fr wx g := by
  obtain ⟨h0, h1, h2, h3, h4, h5⟩ := h
  exact ⟨(hb.frozen (p := ⟨g, 0, none⟩) hg).trans h0, (hb.frozen (p := ⟨g, 1, none⟩) hg).trans h1, (hb.frozen (p := ⟨g, 2, none⟩) hg).trans h2, (hb.frozen (p := ⟨g, 3, none⟩) hg).trans h3, (hb.frozen (p := ⟨g, 4, none⟩) hg).trans h4, (hb.frozen (p := ⟨g, 5, none⟩) hg).trans h5⟩
theorem Mp.lt {w : World} {g : Nat} {a b c d e f : Int} (h : Mp w g a b c d e f) : g < w.heap.size := World.block_lt_of_cell? (w := w) (a := ⟨g, 0, none⟩) h.1
theorem Pt.lt {w : World} {g : Nat} {a b : Int} (h : Pt w g a b) : g < w.heap.size := World.block_lt_of_cell? (w := w) (a := ⟨g, 0, none⟩) h.1
theorem Tr.lt {w : World} {g : Nat} {a b c : Int} (h : Tr w g a b c) : g < w.heap.size := World.block_lt_of_cell? (w := w) (a := ⟨g, 0, none⟩) h.1
theorem al_old {w : World} {o : Obj} {a : Addr} {v : Value} (h : w.cell? a = some v) : (w.alloc o).cell? a = some v := (World.cell?_alloc_lt _ _ _ (World.block_lt_of_cell? _ _ h)).trans h
theorem dr_old {w : World} {a : Addr} {v : Value} (h : w.cell? a = some v) : w.drew.cell? a = some v := h

end Go.Proofs.YtmjneoaciopioaaDoor
