/- All orders, by giving heights one after the other: the mathematics, and what lies in memory. -/
import Derived.Test.YtioajagblphbnaaOwns
namespace Go.Proofs.Ytioajagblphbnaa
open Go.RowKit

/-- A good order with these kinds that goes on from the first k heights. -/
def Ext (X : List Int) (n k : Nat) (H : List Int) (b : Int) : Prop := ∃ G : List Int, G.length = n ∧ (∀ i, i < k → gt G i = gt H i) ∧ (∀ i j, i < j → j < n → k ≤ j → gt G i ≠ gt G j) ∧ (∀ j, k ≤ j → j < n → 0 ≤ gt G j ∧ gt G j < n) ∧ goodR X n G = true ∧ kN n G n = b
theorem list_gt {G H : List Int} {n : Nat} (hg : G.length = n) (hh : H.length = n) (h : ∀ i, i < n → gt G i = gt H i) : G = H := by
  apply List.ext_getElem (by omega)
  intro i h1 h2
  rw [← gt_lt h1, ← gt_lt h2]
  exact h i (by omega)
theorem gt_set {H : List Int} {k : Nat} (hk : k < H.length) (v : Int) (j : Nat) : gt (H.set k v) j = if j = k then v else gt H j := by
  unfold gt
  rw [List.getD_eq_getElem?_getD, List.getD_eq_getElem?_getD, List.getElem?_set]
  by_cases e : k = j
  · subst e
    simp [hk]
  · simp [e, Ne.symm e]
theorem Ext.congr {X : List Int} {n k : Nat} {H H' : List Int} {b : Int} (h : ∀ i, i < k → gt H i = gt H' i) (hE : Ext X n k H b) : Ext X n k H' b := by
  obtain ⟨G, g1, g2, g3⟩ := hE
  exact ⟨G, g1, fun i hi => (g2 i hi).trans (h i hi), g3⟩
theorem ext_full {X : List Int} {n : Nat} {H : List Int} {b : Int} (hl : H.length = n) : Ext X n n H b ↔ goodR X n H = true ∧ kN n H n = b := by
  constructor
  · rintro ⟨G, g1, g2, _, _, g5, g6⟩
    have : G = H := list_gt g1 hl g2
    rw [← this]
    exact ⟨g5, g6⟩
  · rintro ⟨h1, h2⟩
    exact ⟨H, hl, fun _ _ => rfl, fun i j _ hj hk => by omega, fun j hk hj => by omega, h1, h2⟩
theorem ext_step {X : List Int} {n k : Nat} {H : List Int} {b : Int} (hl : H.length = n) (hk : k < n) : Ext X n k H b ↔ ∃ h : Nat, h < n ∧ (∀ i, i < k → gt H i ≠ (h : Int)) ∧ Ext X n (k + 1) (H.set k (h : Int)) b := by
  constructor
  · rintro ⟨G, g1, g2, g3, g4, g5⟩
    have hb := g4 k (Nat.le_refl _) hk
    refine ⟨(gt G k).toNat, by omega, fun i hi => ?_, G, g1, fun i hi => ?_, fun i j hij hj hkj => g3 i j hij hj (by omega), fun j hkj hj => g4 j (by omega) hj, g5⟩
    · have := g3 i k hi hk (Nat.le_refl _)
      rw [g2 i hi] at this
      omega
    · rw [gt_set (by omega)]
      split
      · subst_vars
        omega
      · exact g2 i (by omega)
  · rintro ⟨h, hh, hf, G, g1, g2, g3, g4, g5⟩
    have hGk : gt G k = (h : Int) := by
      have := g2 k (by omega)
      rw [gt_set (by omega), if_pos rfl] at this
      exact this
    have hGi : ∀ i, i < k → gt G i = gt H i := fun i hi => by
      have := g2 i (by omega)
      rw [gt_set (by omega), if_neg (by omega)] at this
      exact this
    refine ⟨G, g1, hGi, fun i j hij hj hkj => ?_, fun j hkj hj => ?_, g5⟩
    · by_cases e : j = k
      · subst e
        rw [hGk, hGi i hij]
        exact hf i hij
      · exact g3 i j hij hj (by omega)
    · by_cases e : j = k
      · subst e
        rw [hGk]
        omega
      · exact g4 j (by omega) hj
theorem ext_ord {X : List Int} {n : Nat} {H : List Int} {b : Int} : Ext X n 0 H b ↔ Ord X n b := by
  constructor
  · rintro ⟨G, g1, _, g3, g4, g5, g6⟩
    refine ⟨G, g1, fun i j hi hj hne => ?_, fun j hj => g4 j (by omega) hj, g5, g6⟩
    rcases Nat.lt_or_gt_of_ne hne with h | h
    · exact g3 i j h hj (by omega)
    · exact (g3 j i h hi (by omega)).symm
  · rintro ⟨G, g1, g2, g3, g4, g5⟩
    exact ⟨G, g1, fun i hi => by omega, fun i j hij hj _ => g2 i j (by omega) hj (by omega), fun j _ hj => g3 j hj, g4, g5⟩
/-- Is this height not taken by the first i? -/
def fre (H : List Int) (h : Nat) (i : Nat) : Bool := (List.range i).all fun i' => decide (gt H i' ≠ (h : Int))
theorem fre_succ (H : List Int) (h i : Nat) : fre H h (i + 1) = (fre H h i && decide (gt H i ≠ (h : Int))) := by
  unfold fre
  rw [List.range_succ, List.all_append]
  simp
theorem fre_iff {H : List Int} {h i : Nat} : fre H h i = true ↔ ∀ i', i' < i → gt H i' ≠ (h : Int) := by
  unfold fre
  rw [List.all_eq_true]
  simp

/-- Heights in memory, to be written. -/
def HR (w : World) (g n : Nat) (H : List Int) : Prop := H.length = n ∧ ∀ i, i < n → w.cell? ⟨g, i, none⟩ = some (.int .i64 (gt H i)) ∧ w.frozen? ⟨g, i, none⟩ = false
/-- Bools in memory, to be written. -/
def BR (w : World) (g m : Nat) (O : Nat → Bool) : Prop := ∀ i, i < m → w.cell? ⟨g, i, none⟩ = some (.bool (O i)) ∧ w.frozen? ⟨g, i, none⟩ = false
theorem HR.grown {w w' : World} {g n : Nat} {H : List Int} {row : Option Nat} (h : HR w g n H) (hg : w.grownBy w' row) (hne : some g ≠ row) : HR w' g n H := ⟨h.1, fun i hi =>
  ⟨hg.cell (h.2 i hi).1 hne, (World.frozen?_of_block (a := ⟨g, i, none⟩) (hg.block g (World.block_lt_of_cell? _ _ (h.2 i hi).1) hne)).trans (h.2 i hi).2⟩⟩
theorem BR.grown {w w' : World} {g m : Nat} {O : Nat → Bool} {row : Option Nat} (h : BR w g m O) (hg : w.grownBy w' row) (hne : some g ≠ row) : BR w' g m O := fun i hi =>
  ⟨hg.cell (h i hi).1 hne, (World.frozen?_of_block (a := ⟨g, i, none⟩) (hg.block g (World.block_lt_of_cell? _ _ (h i hi).1) hne)).trans (h i hi).2⟩
theorem HR.kept {w w' : World} {g n : Nat} {H : List Int} (h : HR w g n H) (hb : Below w.heap.size w w') : HR w' g n H := h.grown (bl_grown hb) (by simp)
theorem BR.kept {w w' : World} {g m : Nat} {O : Nat → Bool} (h : BR w g m O) (hb : Below w.heap.size w w') : BR w' g m O := h.grown (bl_grown hb) (by simp)
theorem HR.rw {w : World} {g n : Nat} {H : List Int} (h : HR w g n H) : Rw w g H := fun i hi => (h.2 i (by have := h.1; omega)).1
theorem HR.set {w : World} {g n : Nat} {H : List Int} (h : HR w g n H) {k : Nat} (v : Int) (hk : k < n) : HR (w.setCell ⟨g, k, none⟩ (.int .i64 v)) g n (H.set k v) := by
  refine ⟨by rw [List.length_set]; exact h.1, fun j hj => ⟨?_, by rw [World.frozen?_setCell]; exact (h.2 j hj).2⟩⟩
  rw [gt_set (by have := h.1; omega)]
  by_cases e : j = k
  · subst e
    rw [World.cell?_setCell_same _ _ _ (h.2 j hj).1]
    simp
  · rw [World.cell?_setCell_other _ _ _ _ (by simp <;> omega)]
    rw [(h.2 j hj).1]
    simp [e]
theorem BR.set {w : World} {g m : Nat} {O : Nat → Bool} (h : BR w g m O) {k : Nat} (v : Bool) : BR (w.setCell ⟨g, k, none⟩ (.bool v)) g m (fun j => if j = k then v else O j) := fun j hj => by
  refine ⟨?_, by rw [World.frozen?_setCell]; exact (h j hj).2⟩
  by_cases e : j = k
  · subst e
    rw [World.cell?_setCell_same _ _ _ (h j hj).1]
    simp
  · rw [World.cell?_setCell_other _ _ _ _ (by simp <;> omega)]
    rw [(h j hj).1]
    simp [e]
/-- The state of the search. -/
def OS (wB w : World) (gh go n m : Nat) (H : List Int) (O : Nat → Bool) : Prop := Below wB.heap.size wB w ∧ HR w gh n H ∧ BR w go m O
theorem OS.kept {wB w w' : World} {gh go n m : Nat} {H : List Int} {O : Nat → Bool} (h : OS wB w gh go n m H O) (hb : Below w.heap.size w w') : OS wB w' gh go n m H O := ⟨bl_via h.1 hb, h.2.1.kept hb, h.2.2.kept hb⟩
theorem bl_set {w v : World} {p : Addr} {u : Value} (h : Below w.heap.size w v) (hp : w.heap.size ≤ p.block) : Below w.heap.size w (v.setCell p u) := h.setCell hp u
theorem OS.height {wB w : World} {gh go n m : Nat} {H : List Int} {O : Nat → Bool} (h : OS wB w gh go n m H O) (h1 : wB.heap.size ≤ gh) (hne : gh ≠ go) {k : Nat} (v : Int) (hk : k < n) : OS wB (w.setCell ⟨gh, k, none⟩ (.int .i64 v)) gh go n m (H.set k v) O :=
  ⟨bl_set h.1 h1, h.2.1.set v hk, h.2.2.grown (grown_cell w gh k _) (by simp; omega)⟩
theorem OS.told {wB w : World} {gh go n m : Nat} {H : List Int} {O : Nat → Bool} (h : OS wB w gh go n m H O) (h1 : wB.heap.size ≤ go) (hne : gh ≠ go) (k : Nat) (v : Bool) : OS wB (w.setCell ⟨go, k, none⟩ (.bool v)) gh go n m H (fun j => if j = k then v else O j) :=
  ⟨bl_set h.1 h1, h.2.1.grown (grown_cell w go k _) (by simp; omega), h.2.2.set v⟩
end Go.Proofs.Ytioajagblphbnaa
