/- Rows of the call's own. -/
import Derived.Test.YtioajagblphbnaaBase
import Derived.OwnWalk
namespace Go.Proofs.Ytioajagblphbnaa
open Go.RowKit

def rowI (l : List Int) : List Value := l.map fun z => Value.int .i64 z
theorem rowI_add (l m : List Int) : rowI (l ++ m) = rowI l ++ rowI m := by simp [rowI]
theorem own_below {w w' : World} {base : Nat} {e : TypeId} {size : Nat} {v : Value} {n : Nat} {xs : List Value} (h : w.ownsRow base e size v n xs) (hb : Below w.heap.size w w') : w'.ownsRow base e size v n xs := by
  refine ⟨h.1, ?_⟩
  rcases h.2 with ⟨h1, h2⟩ | ⟨g, cap, cur, h1, h2, h3, h4⟩
  · exact .inl ⟨h1, h2⟩
  · refine .inr ⟨g, cap, cur, h1, h2, ?_, h4⟩
    have hg : g < w.heap.size := by
      rcases Nat.lt_or_ge g w.heap.size with h | h
      · exact h
      · rw [Array.getElem?_eq_none h] at h3; cases h3
    rw [hb.block g hg]
    exact h3
theorem own_base {w : World} {base : Nat} {e : TypeId} {size : Nat} {v : Value} {n : Nat} {xs : List Value} (h : w.ownsRow base e size v n xs) : ∀ k, v.ownBlock = some k → base ≤ k := by
  intro k hk
  rcases h.2 with ⟨rfl, _⟩ | ⟨g, cap, cur, rfl, h2, _⟩
  · simp [Value.ownBlock] at hk
  · simp [Value.ownBlock] at hk
    omega
theorem cell_one {w : World} {g : Nat} (v : Value) (h : w.cell? ⟨g, 0, none⟩ = some v) : ∀ j u, [v][j]? = some u → w.cell? ((⟨g, 0, none⟩ : Addr).add j) = some u := by
  intro j u hu
  match j, hu with
  | 0, hu => simp at hu; subst hu; simpa [Addr.add] using h
theorem one_cell (n : Int) : ∀ u ∈ [Value.int .i64 n], u.oneCell' = true := by
  intro u hu
  simp at hu
  subst hu
  rfl
theorem grown_cell (w : World) (b o : Nat) (v : Value) : w.grownBy (w.setCell ⟨b, o, none⟩ v) (some b) := by
  have hb := Below.setCell (w := w) (p := ⟨b, o, none⟩) (Below.refl b w) (Nat.le_refl _) v
  exact ⟨hb.os, hb.tape, hb.output, hb.size, fun k _ hk => Below.heap_setCell _ _ _ k (fun e1 => hk (by rw [e1]))⟩
theorem bl_grown {w v : World} (h : Below w.heap.size w v) : w.grownBy v none := ⟨h.os, h.tape, h.output, h.size, fun k hk _ => h.block k hk⟩
theorem bl_own {w wx w' : World} {base : Nat} {e : TypeId} {size : Nat} {v : Value} {n : Nat} {xs : List Value} (h : Below w.heap.size w wx) (ho : wx.ownsRow base e size v n xs) (hb : w.heap.size ≤ base) (hg : wx.grownBy w' v.ownBlock) : Below w.heap.size w w' :=
  h.grown hg h.size (fun k hk => Nat.le_trans hb (own_base ho k hk))
theorem inf3 : (Try.prog.info? 3).map (fun i => (i.zero, i.size, i.bytes)) = some (some (.int .i64 0), 1, 8) := by kernel_rfl
/-- A row of one's own with numbers in it is a slice with these numbers. -/
theorem own_sl {w : World} {base : Nat} {e : TypeId} {v : Value} {n : Nat} {l : List Int} (h : w.ownsRow base e 1 v n (rowI l)) (hn : n = l.length) : Sl w v l := by
  subst hn
  rcases h.2 with ⟨rfl, h0⟩ | ⟨g, cap, cur, rfl, h2, _⟩
  · exact Or.inl ⟨rfl, List.length_eq_zero_iff.1 h0⟩
  · refine Or.inr ⟨g, cap, rfl, fun i hi => ?_⟩
    have := h.cellAt i (by omega)
    rw [this, gt_lt hi]
    simp [rowI, hi]
/-- How a slice's numbers are met, whether it is nil or not. -/
theorem sl_meet {w : World} {v : Value} {l : List Int} (h : Sl w v l) : ∃ a c, v = .slice a l.length c ∧ ∀ i, i < l.length → ∃ g, a = some ⟨g, 0, none⟩ ∧ w.cell? ⟨g, i, none⟩ = some (.int .i64 (gt l i)) := by
  rcases h with ⟨rfl, rfl⟩ | ⟨g, cap, rfl, h⟩
  · exact ⟨none, 0, rfl, fun i hi => by simp at hi⟩
  · exact ⟨_, cap, rfl, fun i hi => ⟨g, rfl, h i hi⟩⟩
/-- A slice with these numbers, from wherever in its block. -/
def Sg (w : World) (v : Value) (l : List Int) : Prop := ∃ a c, v = .slice a l.length c ∧ ∀ i, i < l.length → ∃ g off, a = some ⟨g, off, none⟩ ∧ w.cell? ⟨g, off + i, none⟩ = some (.int .i64 (gt l i))
theorem Sg.kept {w wx : World} {v : Value} {l : List Int} (h : Sg w v l) (hb : Below w.heap.size w wx) : Sg wx v l := by
  obtain ⟨a, c, e, h⟩ := h
  refine ⟨a, c, e, fun i hi => ?_⟩
  obtain ⟨g, off, e2, h2⟩ := h i hi
  exact ⟨g, off, e2, cl_kept hb h2⟩
theorem sg_meet {w : World} {v : Value} {l : List Int} (h : Sg w v l) : ∃ a c, v = .slice a l.length c ∧ ∀ i, i < l.length → ∃ g off, a = some ⟨g, off, none⟩ ∧ w.cell? ⟨g, off + i, none⟩ = some (.int .i64 (gt l i)) := h
theorem Sl.sg {w : World} {v : Value} {l : List Int} (h : Sl w v l) : Sg w v l := by
  obtain ⟨a, c, e, h⟩ := sl_meet h
  refine ⟨a, c, e, fun i hi => ?_⟩
  obtain ⟨g, e2, h2⟩ := h i hi
  exact ⟨g, 0, e2, by rw [Nat.zero_add]; exact h2⟩
end Go.Proofs.Ytioajagblphbnaa
