/- All orders from a beginning on: the mathematics; rows of rows in memory. -/
import Derived.Test.YtdflindoemffaaaLawt
namespace Go.Proofs.Ytdflindoemffaaa
open Go.RowKit

def ords (P : List Int → Bool) (n : Nat) : Nat → List Int → List (List Int)
  | 0, b => if P b = true then [b] else []
  | f + 1, b => (List.range n).flatMap fun t : Nat => if b.contains ((t : Int) + 1) = true then [] else ords P n f (b ++ [(t : Int) + 1])
/-- What the first s rounds give. -/
def pre (P : List Int → Bool) (n f : Nat) (b : List Int) (s : Nat) : List (List Int) := (List.range s).flatMap fun t : Nat => if b.contains ((t : Int) + 1) = true then [] else ords P n f (b ++ [(t : Int) + 1])
theorem ords_succ (P : List Int → Bool) (n f : Nat) (b : List Int) : ords P n (f + 1) b = pre P n f b n := rfl
theorem pre_zero (P : List Int → Bool) (n f : Nat) (b : List Int) : pre P n f b 0 = [] := rfl
theorem pre_has {P : List Int → Bool} {n f : Nat} {b : List Int} {s : Nat} (h : b.contains ((s : Int) + 1) = true) : pre P n f b (s + 1) = pre P n f b s := by
  unfold pre
  rw [List.range_succ, List.flatMap_append]
  have h2 := h
  rw [List.contains_iff_mem] at h2
  simp [h2]
theorem pre_new {P : List Int → Bool} {n f : Nat} {b : List Int} {s : Nat} (h : b.contains ((s : Int) + 1) = false) : pre P n f b (s + 1) = pre P n f b s ++ ords P n f (b ++ [(s : Int) + 1]) := by
  unfold pre
  rw [List.range_succ, List.flatMap_append]
  have h2 : ¬ ((s : Int) + 1) ∈ b := fun e => by
    rw [← List.contains_iff_mem, h] at e
    cases e
  simp [h2]
theorem pre_len {P : List Int → Bool} {n f M : Nat} {b : List Int} (h : ∀ b', (ords P n f b').length ≤ M) : ∀ s, (pre P n f b s).length ≤ s * M
  | 0 => by simp [pre_zero]
  | s + 1 => by
    have := pre_len (b := b) h s
    rw [Nat.add_mul, Nat.one_mul]
    cases hc : b.contains ((s : Int) + 1)
    · rw [pre_new hc, List.length_append]
      have := h (b ++ [(s : Int) + 1])
      omega
    · rw [pre_has hc]
      omega
theorem ords_len (P : List Int → Bool) (n : Nat) : ∀ f b, (ords P n f b).length ≤ n ^ f
  | 0, b => by
    unfold ords
    split <;> simp
  | f + 1, b => by
    rw [ords_succ, Nat.pow_succ, Nat.mul_comm]
    exact pre_len (ords_len P n f) n
/-- A beginning of an order of n. -/
def Pp (n : Nat) (b : List Int) : Prop := (∀ i, i < b.length → 1 ≤ gt b i ∧ gt b i ≤ (n : Int)) ∧ ∀ i k, i < b.length → k < b.length → gt b i = gt b k → i = k
theorem pp_nil (n : Nat) : Pp n [] := ⟨fun i h => by simp at h, fun i k h => by simp at h⟩
theorem gt_app {b : List Int} {x : Int} {i : Nat} (h : i < b.length) : gt (b ++ [x]) i = gt b i := by
  rw [gt_lt h, gt_lt (by simp; omega), List.getElem_append_left h]
theorem gt_last {b : List Int} {x : Int} : gt (b ++ [x]) b.length = x := by
  rw [gt_lt (by simp)]
  simp
theorem Pp.more {n : Nat} {b : List Int} (h : Pp n b) {s : Nat} (hs : s < n) (hc : b.contains ((s : Int) + 1) = false) : Pp n (b ++ [(s : Int) + 1]) := by
  have hm : ∀ k, k < b.length → gt b k ≠ (s : Int) + 1 := fun k hk e => by
    have := gt_mem hk
    rw [e, ← List.contains_iff_mem, hc] at this
    cases this
  refine ⟨fun i hi => ?_, fun i k hi hk e => ?_⟩
  · rw [List.length_append, List.length_singleton] at hi
    by_cases c : i < b.length
    · rw [gt_app c]
      exact h.1 i c
    · have : i = b.length := by omega
      subst this
      rw [gt_last]
      omega
  · rw [List.length_append, List.length_singleton] at hi hk
    by_cases c : i < b.length
    · by_cases d : k < b.length
      · rw [gt_app c, gt_app d] at e
        exact h.2 i k c d e
      · have : k = b.length := by omega
        subst this
        rw [gt_app c, gt_last] at e
        exact absurd e (hm i c)
    · have hib : i = b.length := by omega
      subst hib
      by_cases d : k < b.length
      · rw [gt_app d, gt_last] at e
        exact absurd e.symm (hm k d)
      · omega
theorem Pp.prm {n : Nat} {b : List Int} (h : Pp n b) (hl : b.length = n) : Prm b := by
  subst hl
  exact prm_of h.1 h.2
/-- A list in memory: block, capacity, numbers. -/
def sv (e : Nat × Nat × List Int) : Value := .slice (some ⟨e.1, 0, none⟩) e.2.2.length e.2.1
def OutS (W : World) (base : Nat) (v : Value) (es : List (Nat × Nat × List Int)) : Prop :=
  W.ownsRow base 22 1 v es.length (es.map sv) ∧ (es = [] → v = .slice none 0 0) ∧ ∀ e ∈ es, Rw W e.1 e.2.2 ∧ (0 < e.2.2.length ∧ e.2.2.length ≤ e.2.1) ∧ base ≤ e.1 ∧ some e.1 ≠ v.ownBlock
def lsO (es : List (Nat × Nat × List Int)) : List (List Int) := es.map fun e => e.2.2
theorem lsO_app (a b : List (Nat × Nat × List Int)) : lsO (a ++ b) = lsO a ++ lsO b := by simp [lsO]
theorem OutS.nil (W : World) (base : Nat) : OutS W base (.slice none 0 0) [] := ⟨⟨rfl, Or.inl ⟨rfl, rfl⟩⟩, fun _ => rfl, fun e h => by simp at h⟩
theorem rw_grown {w w' : World} {g : Nat} {l : List Int} {row : Option Nat} (h : Rw w g l) (hg : w.grownBy w' row) (hne : some g ≠ row) : Rw w' g l := fun i hi => hg.cell (h i hi) hne
theorem OutS.grown {W W' : World} {base : Nat} {v : Value} {es : List (Nat × Nat × List Int)} {row : Option Nat} (h : OutS W base v es) (hg : W.grownBy W' row) (hr : ∀ j, row = some j → j < base) : OutS W' base v es := by
  refine ⟨h.1.kept hg ?_, h.2.1, fun e he => ?_⟩
  · cases hv : v.ownBlock with
    | none => exact Or.inl rfl
    | some q =>
      refine Or.inr fun e => ?_
      have h1 := (h.1.lt q hv).1
      have h2 := hr q e.symm
      omega
  · obtain ⟨h1, h2, h3, h4⟩ := h.2.2 e he
    refine ⟨rw_grown h1 hg fun e1 => ?_, h2, h3, h4⟩
    have := hr _ e1.symm
    omega
theorem OutS.kept {W W' : World} {base : Nat} {v : Value} {es : List (Nat × Nat × List Int)} (h : OutS W base v es) (hb : Below W.heap.size W W') : OutS W' base v es := h.grown (bl_grown hb) (fun j hj => by cases hj)
/-- More lists are appended; those lie in blocks that came later. -/
theorem OutS.more {W W3 : World} {base g cap : Nat} {v : Value} {es ns : List (Nat × Nat × List Int)} (h : OutS W base v es)
    (hn : ∀ e ∈ ns, Rw W e.1 e.2.2 ∧ (0 < e.2.2.length ∧ e.2.2.length ≤ e.2.1) ∧ base ≤ e.1 ∧ some e.1 ≠ v.ownBlock) (ho : W3.ownsRow base 22 1 (.slice (some ⟨g, 0, none⟩) (es.length + ns.length) cap) (es.length + ns.length) (es.map sv ++ ns.map sv))
    (hg : W.grownBy W3 v.ownBlock) (hat : v.ownBlock = some g ∨ g = W.heap.size) : OutS W3 base (.slice (some ⟨g, 0, none⟩) (es.length + ns.length) cap) (es ++ ns) ∨ es ++ ns = [] := by
  by_cases hne : es ++ ns = []
  · exact Or.inr hne
  refine Or.inl ⟨by rw [List.length_append, List.map_append]; exact ho, fun e => absurd e hne, fun e he => ?_⟩
  have hall : Rw W e.1 e.2.2 ∧ (0 < e.2.2.length ∧ e.2.2.length ≤ e.2.1) ∧ base ≤ e.1 ∧ some e.1 ≠ v.ownBlock := by
    rcases List.mem_append.1 he with h1 | h1
    · exact h.2.2 e h1
    · exact hn e h1
  obtain ⟨a1, a2, a3, a4⟩ := hall
  refine ⟨rw_grown a1 hg a4, a2, a3, fun e1 => ?_⟩
  simp only [Value.ownBlock, Option.some.injEq] at e1
  rcases hat with hat | hat
  · rw [hat] at a4
    exact a4 (by rw [e1])
  · have := a1.lt a2.1
    omega
theorem es_cells {W : World} {base : Nat} {v : Value} {es : List (Nat × Nat × List Int)} (h : OutS W base v es) : ∃ a c, v = .slice a es.length c ∧ ∀ i, ∀ hi : i < es.length, ∃ g, a = some ⟨g, 0, none⟩ ∧ W.cell? ⟨g, i, none⟩ = some (sv es[i]) ∧ Rw W es[i].1 es[i].2.2 := by
  rcases h.1.2 with ⟨rfl, h0⟩ | ⟨g, cap, cur, rfl, _⟩
  · exact ⟨none, 0, by rw [h0], fun i hi => by omega⟩
  · refine ⟨_, cap, rfl, fun i hi => ⟨g, rfl, ?_, (h.2.2 es[i] (List.getElem_mem hi)).1⟩⟩
    have := h.1.cells (g := g) rfl i (sv es[i]) (by simp [hi])
    rwa [add_at] at this
theorem infV : (Try.prog.info? 22).map (fun i => (i.zero, i.size, i.bytes)) = some (some (.slice none 0 0), 1, 24) := by kernel_rfl
theorem sv_one (es : List (Nat × Nat × List Int)) : ∀ u ∈ es.map sv, u.oneCell' = true := by
  intro u hu
  obtain ⟨e, _, rfl⟩ := List.mem_map.1 hu
  rfl
end Go.Proofs.Ytdflindoemffaaa
