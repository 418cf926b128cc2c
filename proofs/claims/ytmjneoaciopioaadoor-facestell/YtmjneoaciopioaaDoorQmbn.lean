/- Where each triangle comes to: what the reference keeps in memory. -/
import Derived.Test.YtmjneoaciopioaaDoorQmbk
import Derived.Test.YtmjneoaciopioaaDoorQmbm
import Derived.Test.YtmjneoaciopioaaDoorQmay
import Derived.Test.YtmjneoaciopioaaDoorQmah
namespace Go.Proofs.YtmjneoaciopioaaDoor
open Go.RowKit Go.ChangeMaps

/-- Which are known, in a row of memory that may be written. -/
def BRow (w : World) (g n : Nat) (K : List Nat) : Prop := ∀ i, i < n → w.cell? ⟨g, i, none⟩ = some (.bool (decide (i ∈ K))) ∧ w.frozen? ⟨g, i, none⟩ = false
theorem BRow.grown {w w' : World} {g n : Nat} {K : List Nat} {row : Option Nat} (h : BRow w g n K) (hg : w.grownBy w' row) (hne : some g ≠ row) : BRow w' g n K := fun i hi =>
  ⟨hg.cell (h i hi).1 hne, (World.frozen?_of_block (a := ⟨g, i, none⟩) (hg.block g (World.block_lt_of_cell? _ _ (h i hi).1) hne)).trans (h i hi).2⟩
theorem BRow.set {w : World} {g n : Nat} {K K' : List Nat} (h : BRow w g n K) {j : Nat} (hj : j < n) (hK : ∀ q, q ∈ K' ↔ q ∈ K ∨ q = j) : BRow (w.setCell ⟨g, j, none⟩ (.bool true)) g n K' := fun i hi => by
  refine ⟨?_, by rw [World.frozen?_setCell]; exact (h i hi).2⟩
  by_cases e : i = j
  · subst e
    rw [World.cell?_setCell_same _ _ _ (h i hi).1]
    simp [hK]
  · rw [World.cell?_setCell_other _ _ _ _ (by simp <;> omega), (h i hi).1]
    simp [hK, e]
theorem inf4 : (Tryd.prog.info? 4).map (fun i => (i.zero, i.size, i.bytes)) = some (some (.bool false), 1, 1) := by kernel_rfl
theorem bools_made {w : World} {base n g : Nat} (h : w.ownsRow base 4 1 (.slice (some ⟨g, 0, none⟩) n n) n (madeCells #[.bool false] n).toList) : BRow w g n [] := fun i hi => by
  have h0 : (madeCells #[Value.bool false] n).toList[i]? = some (.bool false) := by
    rw [Array.getElem?_toList]
    unfold madeCells
    have : i % 1 = 0 := by omega
    simp [hi, this]
  refine ⟨by simpa using (h.cellAt i (by omega)).trans h0, ?_⟩
  rcases h.2 with ⟨e1, _⟩ | ⟨b, cap, cur, e1, _, hb, _⟩
  · simp at e1
  · simp only [Value.slice.injEq, Option.some.injEq, Addr.mk.injEq] at e1
    obtain ⟨⟨rfl, _⟩, _⟩ := e1
    simp [World.frozen?, hb]
/-- What is known, and where it comes to; all of it newer than w1. -/
def AM (w1 wx : World) (g5 g6 n : Nat) (M : Nat → M6) (K : List Nat) : Prop := MRow wx g5 n M ∧ BRow wx g6 n K ∧ Below w1.heap.size w1 wx ∧ (w1.heap.size ≤ g5 ∧ g5 < g6 ∧ g6 < wx.heap.size)
theorem AM.kept {w1 wx w' : World} {g5 g6 n : Nat} {M : Nat → M6} {K : List Nat} (h : AM w1 wx g5 g6 n M K) (hb : Below wx.heap.size wx w') : AM w1 w' g5 g6 n M K :=
  ⟨h.1.kept hb, h.2.1.grown (bl_grown hb) (by simp), bl_via h.2.2.1 hb, h.2.2.2.1, h.2.2.2.2.1, Nat.lt_of_lt_of_le h.2.2.2.2.2 hb.size⟩
/-- A map is told. -/
theorem AM.told {w1 wx : World} {g5 g6 n j : Nat} {M : Nat → M6} {K K' : List Nat} (h : AM w1 wx g5 g6 n M K) (hj : j < n) (m : M6) (hK : ∀ q, q ∈ K' ↔ q ∈ K ∨ q = j) : AM w1 ((set6 wx g5 j m).setCell ⟨g6, j, none⟩ (.bool true)) g5 g6 n (fun q => if q = j then m else M q) K' := by
  obtain ⟨h1, h2, h3, h4, h5, h6⟩ := h
  have q6 := set6_grown wx g5 j m
  have qz := q6.size
  have k1 : Below w1.heap.size w1 (set6 wx g5 j m) := h3.grown q6 h3.size (fun k hk => by simp at hk; omega)
  refine ⟨(h1.set6 hj m).grown (grown_cell _ g6 j _) (by simp; omega), (h2.grown q6 (by simp; omega)).set hj hK, k1.grown (grown_cell _ g6 j _) k1.size (fun k hk => by simp at hk; omega), h4, h5, ?_⟩
  rw [World.size_setCell]
  omega
/-- The edges of a triangle, by their number. -/
def E3 (w : World) (ge : Nat) (t : Int × Int × Int) : Prop := ∀ k, k < 3 → w.cell? ⟨ge, k * 4, none⟩ = some (.int .i64 (edg t k).1) ∧ w.cell? ⟨ge, k * 4 + 1, none⟩ = some (.int .i64 (edg t k).2.1) ∧ w.cell? ⟨ge, k * 4 + 2, none⟩ = some (.int .i64 (edg t k).2.2.1) ∧ w.cell? ⟨ge, k * 4 + 3, none⟩ = some (.int .i64 (edg t k).2.2.2)
theorem Twl.e3 {w : World} {ge : Nat} {x y k : Int} (h : Twl w ge (ue0 x y k) (ue1 x y k) (ue2 x y k) (ue3 x y k) (ue4 x y k) (ue5 x y k) (ue6 x y k) (ue7 x y k) (ue8 x y k) (ue9 x y k) (ue10 x y k) (ue11 x y k)) : E3 w ge (x, y, k) := fun n hn => by
  obtain ⟨h0, h1, h2, h3, h4, h5, h6, h7, h8, h9, h10, h11⟩ := h
  have : n = 0 ∨ n = 1 ∨ n = 2 := by omega
  rcases this with rfl | rfl | rfl
  · exact ⟨h0, h1, h2, h3⟩
  · exact ⟨h4, h5, h6, h7⟩
  · exact ⟨h8, h9, h10, h11⟩
theorem E3.grown {w w' : World} {ge : Nat} {t : Int × Int × Int} {row : Option Nat} (h : E3 w ge t) (hg : w.grownBy w' row) (hne : some ge ≠ row) : E3 w' ge t := fun k hk => by
  obtain ⟨h0, h1, h2, h3⟩ := h k hk
  exact ⟨hg.cell h0 hne, hg.cell h1 hne, hg.cell h2 hne, hg.cell h3 hne⟩
theorem E3.kept {w w' : World} {ge : Nat} {t : Int × Int × Int} (h : E3 w ge t) (hb : Below w.heap.size w w') : E3 w' ge t := h.grown (bl_grown hb) (by simp)
theorem same_map {M : Nat → M6} {j : Nat} {m : M6} (h : M j = m) : (fun q => if q = j then m else M q) = M := by
  funext q
  by_cases e : q = j
  · subst e
    simp [h]
  · simp [e]
end Go.Proofs.YtmjneoaciopioaaDoor
