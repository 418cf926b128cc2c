/- A part of the proof of sheetTells_holds. -/
import Derived.Test.YtehmoacggikfmaaDoorQlaa
namespace Go.Proofs.YtehmoacggikfmaaDoor
open Go.RowKit

theorem bl_refl (w : World) : Below w.heap.size w w := Below.refl _ _
theorem bl_alloc {w v : World} {o : Obj} (h : Below w.heap.size w v) : Below w.heap.size w (v.alloc o) := h.alloc h.size _
theorem bl_drew {w v : World} (h : Below w.heap.size w v) : Below w.heap.size w v.drew := h.drew
theorem bl_drewN {w v : World} {n : Nat} (h : Below w.heap.size w v) : Below w.heap.size w (v.drewN n) := ⟨h.os, h.tape, h.output, h.size, h.block⟩
theorem bl_via {w v u : World} (h : Below w.heap.size w v) (k : Below v.heap.size v u) : Below w.heap.size w u := h.trans (k.mono h.size)
theorem bl_set {w v : World} {p : Addr} {u : Value} (h : Below w.heap.size w v) (hp : w.heap.size ≤ p.block) : Below w.heap.size w (v.setCell p u) := h.setCell hp _

/-- A map's six numbers in a row of memory. -/
def Mp (w : World) (g : Nat) (a b c d e f : Int) : Prop :=
  w.cell? ⟨g, 0, none⟩ = some (.int .i64 a) ∧ w.cell? ⟨g, 1, none⟩ = some (.int .i64 b) ∧ w.cell? ⟨g, 2, none⟩ = some (.int .i64 c) ∧ w.cell? ⟨g, 3, none⟩ = some (.int .i64 d) ∧ w.cell? ⟨g, 4, none⟩ = some (.int .i64 e) ∧ w.cell? ⟨g, 5, none⟩ = some (.int .i64 f)
/-- A point's two numbers. -/
def Pt (w : World) (g : Nat) (x y : Int) : Prop := w.cell? ⟨g, 0, none⟩ = some (.int .i64 x) ∧ w.cell? ⟨g, 1, none⟩ = some (.int .i64 y)
/-- A triangle's three numbers. -/
def Tr (w : World) (g : Nat) (x y k : Int) : Prop := w.cell? ⟨g, 0, none⟩ = some (.int .i64 x) ∧ w.cell? ⟨g, 1, none⟩ = some (.int .i64 y) ∧ w.cell? ⟨g, 2, none⟩ = some (.int .i64 k)
/-- The first six cells of a row may be written. -/
def Fr (w : World) (g : Nat) : Prop :=
  w.frozen? ⟨g, 0, none⟩ = false ∧ w.frozen? ⟨g, 1, none⟩ = false ∧ w.frozen? ⟨g, 2, none⟩ = false ∧ w.frozen? ⟨g, 3, none⟩ = false ∧ w.frozen? ⟨g, 4, none⟩ = false ∧ w.frozen? ⟨g, 5, none⟩ = false

theorem cl_kept {w wx : World} {a : Addr} {v : Value} (hb : Below w.heap.size w wx) (h : w.cell? a = some v) : wx.cell? a = some v := (hb.cell (World.block_lt_of_cell? _ _ h)).trans h
theorem Mp.kept {w wx : World} {g : Nat} {a b c d e f : Int} (h : Mp w g a b c d e f) (hb : Below w.heap.size w wx) : Mp wx g a b c d e f := by
  obtain ⟨h0, h1, h2, h3, h4, h5⟩ := h
  exact ⟨cl_kept hb h0, cl_kept hb h1, cl_kept hb h2, cl_kept hb h3, cl_kept hb h4, cl_kept hb h5⟩
theorem Pt.kept {w wx : World} {g : Nat} {a b : Int} (h : Pt w g a b) (hb : Below w.heap.size w wx) : Pt wx g a b := ⟨cl_kept hb h.1, cl_kept hb h.2⟩
theorem Tr.kept {w wx : World} {g : Nat} {a b c : Int} (h : Tr w g a b c) (hb : Below w.heap.size w wx) : Tr wx g a b c := ⟨cl_kept hb h.1, cl_kept hb h.2.1, cl_kept hb h.2.2⟩
theorem Fr.kept {w wx : World} {g : Nat} (h : Fr w g) (hg : g < w.heap.size) (hb : Below w.heap.size w wx) : Fr wx g := by
  obtain ⟨h0, h1, h2, h3, h4, h5⟩ := h
  exact ⟨(hb.frozen (p := ⟨g, 0, none⟩) hg).trans h0, (hb.frozen (p := ⟨g, 1, none⟩) hg).trans h1, (hb.frozen (p := ⟨g, 2, none⟩) hg).trans h2, (hb.frozen (p := ⟨g, 3, none⟩) hg).trans h3, (hb.frozen (p := ⟨g, 4, none⟩) hg).trans h4, (hb.frozen (p := ⟨g, 5, none⟩) hg).trans h5⟩
theorem Mp.lt {w : World} {g : Nat} {a b c d e f : Int} (h : Mp w g a b c d e f) : g < w.heap.size := World.block_lt_of_cell? (w := w) (a := ⟨g, 0, none⟩) h.1
theorem Pt.lt {w : World} {g : Nat} {a b : Int} (h : Pt w g a b) : g < w.heap.size := World.block_lt_of_cell? (w := w) (a := ⟨g, 0, none⟩) h.1
theorem Tr.lt {w : World} {g : Nat} {a b c : Int} (h : Tr w g a b c) : g < w.heap.size := World.block_lt_of_cell? (w := w) (a := ⟨g, 0, none⟩) h.1
theorem al_old {w : World} {o : Obj} {a : Addr} {v : Value} (h : w.cell? a = some v) : (w.alloc o).cell? a = some v := (World.cell?_alloc_lt _ _ _ (World.block_lt_of_cell? _ _ h)).trans h
theorem dr_old {w : World} {a : Addr} {v : Value} (h : w.cell? a = some v) : w.drew.cell? a = some v := h


def mapB (a b c d e f : Int) : Bool := ((unitB a && decide (b = 0) && decide (c = 0) && unitB d) || (decide (a = 0) && unitB b && unitB c && decide (d = 0))) && evenB e && evenB f

end Go.Proofs.YtehmoacggikfmaaDoor
