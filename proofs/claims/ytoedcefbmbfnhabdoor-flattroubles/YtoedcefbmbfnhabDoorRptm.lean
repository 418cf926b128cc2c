/- The points of triangles in order, each once: the mathematics, and the rows in memory. -/
import Derived.Test.YtoedcefbmbfnhabDoorQtal
import Derived.Test.YtoedcefbmbfnhabDoorPkab
import Derived.Test.YtoedcefbmbfnhabDoorPkac
import Derived.Test.YtoedcefbmbfnhabDoorPkae
import Derived.Test.YtoedcefbmbfnhabDoorPkaf
import Derived.Test.YtoedcefbmbfnhabDoorPkai
import Derived.Deep.AppendLies
import Derived.Laws.OwnMore
namespace Go.Proofs.YtoedcefbmbfnhabDoor
open Go.RowKit

/-- Points, number by number. -/
def flatP (l : List (Int × Int)) : List Value := l.flatMap fun t => [.int .i64 t.1, .int .i64 t.2]
theorem flatP_add (l m : List (Int × Int)) : flatP (l ++ m) = flatP l ++ flatP m := by simp [flatP, List.flatMap_append]
theorem flatP_cons (t : Int × Int) (l : List (Int × Int)) : flatP (t :: l) = .int .i64 t.1 :: .int .i64 t.2 :: flatP l := by simp [flatP]
theorem flatP_at : ∀ (l : List (Int × Int)) (i : Nat) (h : i < l.length), (flatP l)[i * 2]? = some (.int .i64 l[i].1) ∧ (flatP l)[i * 2 + 1]? = some (.int .i64 l[i].2)
  | [], i, h => by simp at h
  | t :: l, 0, h => by simp [flatP]
  | t :: l, i + 1, h => by
    have ih := flatP_at l i (by simpa using h)
    rw [flatP_cons, show (i + 1) * 2 = i * 2 + 1 + 1 by omega, List.getElem?_cons_succ, List.getElem?_cons_succ, List.getElem_cons_succ, show i * 2 + 1 + 1 + 1 = i * 2 + 1 + 1 + 1 from rfl, List.getElem?_cons_succ, List.getElem?_cons_succ]
    exact ih
theorem flatP_set : ∀ (l : List (Int × Int)) (i : Nat) (p q : Int), ((flatP l).set (i * 2) (.int .i64 p)).set (i * 2 + 1) (.int .i64 q) = flatP (l.set i (p, q))
  | [], i, p, q => by simp [flatP]
  | t :: l, 0, p, q => by simp [flatP]
  | t :: l, i + 1, p, q => by
    have ih := flatP_set l i p q
    rw [flatP_cons, show (i + 1) * 2 = i * 2 + 1 + 1 by omega, List.set_cons_succ, List.set_cons_succ, List.set_cons_succ, List.set_cons_succ, List.set_cons_succ, flatP_cons, ih]
/-- Points in a row of memory, as a slice has them. -/
def PRow (w : World) (a : Option Addr) (l : List (Int × Int)) : Prop := ∀ i (h : i < l.length), ∃ g, a = some ⟨g, 0, none⟩ ∧ w.cell? ⟨g, i * 2, none⟩ = some (.int .i64 l[i].1) ∧ w.cell? ⟨g, i * 2 + 1, none⟩ = some (.int .i64 l[i].2)
theorem own_points {w : World} {base : Nat} {v : Value} {l : List (Int × Int)} (h : w.ownsRow base 43 2 v l.length (flatP l)) : ∃ a cap, v = .slice a l.length cap ∧ PRow w a l := by
  rcases h.2 with ⟨rfl, h0⟩ | ⟨g, cap, cur, rfl, _⟩
  · exact ⟨none, 0, by rw [h0], fun i hi => by omega⟩
  · refine ⟨some ⟨g, 0, none⟩, cap, rfl, fun i hi => ⟨g, rfl, ?_⟩⟩
    have f := flatP_at l i hi
    exact ⟨(h.cellAt _ (by omega)).trans f.1, (h.cellAt _ (by omega)).trans f.2⟩
/-- A point is written into a row of one's own. -/
theorem own_put {w : World} {base g n cap : Nat} {l : List (Int × Int)} (h : w.ownsRow base 43 2 (.slice (some ⟨g, 0, none⟩) n cap) n (flatP l)) (j : Nat) (p q : Int) :
    ((w.setCell ⟨g, j * 2, none⟩ (.int .i64 p)).setCell ⟨g, j * 2 + 1, none⟩ (.int .i64 q)).ownsRow base 43 2 (.slice (some ⟨g, 0, none⟩) n cap) n (flatP (l.set j (p, q))) ∧ w.grownBy ((w.setCell ⟨g, j * 2, none⟩ (.int .i64 p)).setCell ⟨g, j * 2 + 1, none⟩ (.int .i64 q)) (some g) := by
  have h1 := h.stored (j * 2) (.int .i64 p)
  have h2 := h1.1.stored (j * 2 + 1) (.int .i64 q)
  rw [flatP_set] at h2
  have hg : (w.setCell ⟨g, j * 2, none⟩ (.int .i64 p)).grownBy ((w.setCell ⟨g, j * 2, none⟩ (.int .i64 p)).setCell ⟨g, j * 2 + 1, none⟩ (.int .i64 q)) (some g) := h2.2
  exact ⟨h2.1, h1.2.1.trans hg.1, h1.2.2.trans hg.2, h1.2.3.trans hg.3, Nat.le_trans h1.2.size hg.size, fun k hk hne => (hg.block k (Nat.lt_of_lt_of_le hk h1.2.size) hne).trans (h1.2.block k hk hne)⟩

/-- The order of points. -/
def ltP (p q : Int × Int) : Prop := p.1 < q.1 ∨ (p.1 = q.1 ∧ p.2 < q.2)
theorem lessB_iff (a b c d : Int) : lessB a b c d = true ↔ ltP (a, b) (c, d) := by simp [lessB, ltP]
/-- In order, each once: these. -/
def SPt (pts : List (Int × Int)) (Cs : List (Int × Int)) : Prop := pts.Pairwise ltP ∧ ∀ p, p ∈ pts ↔ p ∈ Cs
theorem SPt.has {pts Cs : List (Int × Int)} {c : Int × Int} (h : SPt pts Cs) (hc : c ∈ pts) : SPt pts (Cs ++ [c]) := by
  refine ⟨h.1, fun p => ?_⟩
  rw [List.mem_append, List.mem_singleton, ← h.2 p]
  exact ⟨fun q => Or.inl q, fun q => q.elim id (fun e => e ▸ hc)⟩
/-- One is put where it belongs. -/
theorem SPt.put {pts Cs : List (Int × Int)} {c : Int × Int} {k : Nat} (h : SPt pts Cs) (hk : k ≤ pts.length) (h1 : ∀ m (hm : m < pts.length), m < k → ltP pts[m] c) (h2 : ∀ hm : k < pts.length, ¬ ltP pts[k] c ∧ pts[k] ≠ c) : SPt (pts.take k ++ c :: pts.drop k) (Cs ++ [c]) := by
  have hp := h.1
  refine ⟨?_, fun p => ?_⟩
  · have hs : (pts.take k ++ pts.drop k).Pairwise ltP := by rw [List.take_append_drop]; exact hp
    rw [List.pairwise_append] at hs
    obtain ⟨s1, s2, s3⟩ := hs
    have hbef : ∀ q ∈ pts.take k, ltP q c := fun q hq => by
      obtain ⟨m, hm, e⟩ := List.getElem_of_mem hq
      rw [List.length_take] at hm
      rw [List.getElem_take] at e
      rw [← e]
      exact h1 m (by omega) (by omega)
    have haft : ∀ q ∈ pts.drop k, ltP c q := fun q hq => by
      have hk2 : k < pts.length := by
        rcases Nat.lt_or_ge k pts.length with h | h
        · exact h
        · rw [List.drop_eq_nil_of_le h] at hq
          cases hq
      obtain ⟨n1, n2⟩ := h2 hk2
      have hck : ltP c pts[k] := by
        have e : pts[k] ≠ c := n2
        obtain ⟨a, b⟩ := c
        generalize pts[k] = u at n1 e
        obtain ⟨a', b'⟩ := u
        simp only [ltP] at n1 ⊢
        simp only [ne_eq, Prod.mk.injEq] at e
        omega
      rw [List.drop_eq_getElem_cons hk2] at hq s2
      rcases List.mem_cons.1 hq with rfl | hq
      · exact hck
      · have h5 := (List.pairwise_cons.1 s2).1 q hq
        obtain ⟨a, b⟩ := c
        generalize pts[k] = u at hck h5
        obtain ⟨a', b'⟩ := u
        obtain ⟨a2, b2⟩ := q
        simp only [ltP] at hck h5 ⊢
        omega
    rw [List.pairwise_append]
    refine ⟨s1, List.pairwise_cons.2 ⟨haft, s2⟩, fun a ha b hb => ?_⟩
    rcases List.mem_cons.1 hb with rfl | hb
    · exact hbef a ha
    · exact s3 a ha b hb
  · rw [List.mem_append, List.mem_append, List.mem_singleton, List.mem_cons, ← h.2 p]
    have : p ∈ pts ↔ p ∈ pts.take k ∨ p ∈ pts.drop k := by rw [← List.mem_append, List.take_append_drop]
    rw [this]
    constructor
    · rintro (h | h | h)
      · exact Or.inl (Or.inl h)
      · exact Or.inr h
      · exact Or.inl (Or.inr h)
    · rintro ((h | h) | h)
      · exact Or.inl h
      · exact Or.inr (Or.inr h)
      · exact Or.inr (Or.inl h)
/-- The row while it is shifted. -/
def sh (pts : List (Int × Int)) (c : Int × Int) (j : Nat) : List (Int × Int) := (pts ++ [c]).take (j + 1) ++ pts.drop j
theorem sh_start (pts : List (Int × Int)) (c : Int × Int) : sh pts c pts.length = pts ++ [c] := by
  unfold sh
  rw [List.take_of_length_le (by simp), List.drop_length, List.append_nil]
theorem sh_len {pts : List (Int × Int)} {c : Int × Int} {j : Nat} (h : j ≤ pts.length) : (sh pts c j).length = pts.length + 1 := by
  unfold sh
  rw [List.length_append, List.length_take, List.length_drop, List.length_append, List.length_singleton]
  omega
theorem sh_low {pts : List (Int × Int)} {c : Int × Int} {j m : Nat} (_hj : j ≤ pts.length) (hm : m ≤ j) (h1 : m < (sh pts c j).length) (h2 : m < (pts ++ [c]).length) : (sh pts c j)[m] = (pts ++ [c])[m] := by
  show ((pts ++ [c]).take (j + 1) ++ pts.drop j)[m] = _
  have hl : m < ((pts ++ [c]).take (j + 1)).length := by rw [List.length_take]; omega
  exact (List.getElem_append_left hl).trans List.getElem_take
theorem sh_step {pts : List (Int × Int)} {c : Int × Int} {j : Nat} (hj : j + 1 ≤ pts.length) : (sh pts c (j + 1)).set (j + 1) pts[j] = sh pts c j := by
  unfold sh
  have hl : ((pts ++ [c]).take (j + 1)).length = j + 1 := by rw [List.length_take, List.length_append, List.length_singleton]; omega
  rw [List.take_succ_eq_append_getElem (by simp; omega), List.append_assoc, List.set_append_right _ _ (by omega), hl, Nat.sub_self, List.singleton_append, List.set_cons_zero, List.drop_eq_getElem_cons (show j < pts.length by omega)]
theorem sh_end {pts : List (Int × Int)} {c : Int × Int} {k : Nat} (hk : k ≤ pts.length) : (sh pts c k).set k c = pts.take k ++ c :: pts.drop k := by
  unfold sh
  have hl : ((pts ++ [c]).take k).length = k := by rw [List.length_take, List.length_append, List.length_singleton]; omega
  rw [List.take_succ_eq_append_getElem (by simp; omega), List.append_assoc, List.set_append_right _ _ (by omega), hl, Nat.sub_self, List.singleton_append, List.set_cons_zero]
  rw [List.take_append_of_le_length hk]
/-- The corners of a triangle. -/
def cnr (t : Int × Int × Int) : List (Int × Int) := [(2 * t.1 + 1, 2 * t.2.1 + 1), (c1x t.1 t.2.2, c1y t.2.1 t.2.2), (c2x t.1 t.2.2, c2y t.2.1 t.2.2)]
def P3 (w : World) (g : Nat) (t : Int × Int × Int) : Prop := ∀ k (h : k < (cnr t).length), w.cell? ⟨g, k * 2, none⟩ = some (.int .i64 (cnr t)[k].1) ∧ w.cell? ⟨g, k * 2 + 1, none⟩ = some (.int .i64 (cnr t)[k].2)
theorem P3.of {w : World} {g : Nat} {x y k : Int} (h : Mp w g (2 * x + 1) (2 * y + 1) (c1x x k) (c1y y k) (c2x x k) (c2y y k)) : P3 w g (x, y, k) := fun n hn => by
  obtain ⟨h0, h1, h2, h3, h4, h5⟩ := h
  have : n = 0 ∨ n = 1 ∨ n = 2 := by simp [cnr] at hn; omega
  rcases this with rfl | rfl | rfl
  · exact ⟨h0, h1⟩
  · exact ⟨h2, h3⟩
  · exact ⟨h4, h5⟩
theorem P3.grown {w w' : World} {g : Nat} {t : Int × Int × Int} {row : Option Nat} (h : P3 w g t) (hg : w.grownBy w' row) (hne : some g ≠ row) : P3 w' g t := fun k hk => ⟨hg.cell (h k hk).1 hne, hg.cell (h k hk).2 hne⟩
end Go.Proofs.YtoedcefbmbfnhabDoor
