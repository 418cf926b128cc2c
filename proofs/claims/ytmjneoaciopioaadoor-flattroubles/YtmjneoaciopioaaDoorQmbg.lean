/- A part of the proof of a law on sheets. -/
import Derived.Test.YtmjneoaciopioaaDoorQmac
import Derived.Test.YtmjneoaciopioaaDoorQmal
import Derived.Test.YtmjneoaciopioaaDoorQmaw
import Derived.Test.YtmjneoaciopioaaDoorQmax
import Derived.Test.YtmjneoaciopioaaDoorQmaz
import Derived.Deep.AppendLies
import Derived.Laws.OwnMore
import Derived.Test.YtmjneoaciopioaaDoorQmas
namespace Go.Proofs.YtmjneoaciopioaaDoor
open Go.RowKit

/-- Points, number by number. -/
def flatP (l : List (Int × Int)) : List Value := l.flatMap fun t => [.int .i64 t.1, .int .i64 t.2]
theorem flatP_add (l m : List (Int × Int)) : flatP (l ++ m) = flatP l ++ flatP m := by simp [flatP, List.flatMap_append]
theorem flatP_cons (t : Int × Int) (l : List (Int × Int)) : flatP (t :: l) = .int .i64 t.1 :: .int .i64 t.2 :: flatP l := by simp [flatP]
theorem flatP_at : ∀ (l : List (Int × Int)) (i : Nat) (h : i < l.length), (flatP l)[i * 2]? = some (.int .i64 l[i].1) ∧ (flatP l)[i * 2 + 1]? = some (.int .i64 l[i].2)
  | [], i, h => by simp at h
  | t :: l, 0, h => by simp [flatP]
  | t :: l, i + 1, h => by
    have ih := flatP_at l i (by simpa using h)
    rw [flatP_cons, show (i + 1) * 2 = i * 2 + 1 + 1 by omega, List.getElem?_cons_succ, List.getElem?_cons_succ, List.getElem_cons_succ, show i * 2 + 1 + 1 + 1 = i * 2 + 1 + 1 + 1 from rfl, List.getElem?_cons_succ, List.getElem?_cons_succ]
    exact ih
theorem flatP_set : ∀ (l : List (Int × Int)) (i : Nat) (p q : Int), ((flatP l).set (i * 2) (.int .i64 p)).set (i * 2 + 1) (.int .i64 q) = flatP (l.set i (p, q))
  | [], i, p, q => by simp [flatP]
  | t :: l, 0, p, q => by simp [flatP]
  | t :: l, i + 1, p, q => by
    have ih := flatP_set l i p q
    rw [flatP_cons, show (i + 1) * 2 = i * 2 + 1 + 1 by omega, List.set_cons_succ, List.set_cons_succ, List.set_cons_succ, List.set_cons_succ, List.set_cons_succ, flatP_cons, ih]
/-- Points in a row of memory, as a slice has them. -/
def PRow (w : World) (a : Option Addr) (l : List (Int × Int)) : Prop := ∀ i (h : i < l.length), ∃ g, a = some ⟨g, 0, none⟩ ∧ w.cell? ⟨g, i * 2, none⟩ = some (.int .i64 l[i].1) ∧ w.cell? ⟨g, i * 2 + 1, none⟩ = some (.int .i64 l[i].2)
theorem own_points {w : World} {base : Nat} {v : Value} {l : List (Int × Int)} (h : w.ownsRow base 43 2 v l.length (flatP l)) : ∃ a cap, v = .slice a l.length cap ∧ PRow w a l := by
  rcases h.2 with ⟨rfl, h0⟩ | ⟨g, cap, cur, rfl, _⟩
  · exact ⟨none, 0, by rw [h0], fun i hi => by omega⟩
  · refine ⟨some ⟨g, 0, none⟩, cap, rfl, fun i hi => ⟨g, rfl, ?_⟩⟩
    have f := flatP_at l i hi
    exact ⟨(h.cellAt _ (by omega)).trans f.1, (h.cellAt _ (by omega)).trans f.2⟩
/-- A point is written into a row of one's own. -/
theorem own_put {w : World} {base g n cap : Nat} {l : List (Int × Int)} (h : w.ownsRow base 43 2 (.slice (some ⟨g, 0, none⟩) n cap) n (flatP l)) (j : Nat) (p q : Int) :
    ((w.setCell ⟨g, j * 2, none⟩ (.int .i64 p)).setCell ⟨g, j * 2 + 1, none⟩ (.int .i64 q)).ownsRow base 43 2 (.slice (some ⟨g, 0, none⟩) n cap) n (flatP (l.set j (p, q))) ∧ w.grownBy ((w.setCell ⟨g, j * 2, none⟩ (.int .i64 p)).setCell ⟨g, j * 2 + 1, none⟩ (.int .i64 q)) (some g) := by
  have h1 := h.stored (j * 2) (.int .i64 p)
  have h2 := h1.1.stored (j * 2 + 1) (.int .i64 q)
  rw [flatP_set] at h2
  have hg : (w.setCell ⟨g, j * 2, none⟩ (.int .i64 p)).grownBy ((w.setCell ⟨g, j * 2, none⟩ (.int .i64 p)).setCell ⟨g, j * 2 + 1, none⟩ (.int .i64 q)) (some g) := h2.2
  exact ⟨h2.1, h1.2.1.trans hg.1, h1.2.2.trans hg.2, h1.2.3.trans hg.3, Nat.le_trans h1.2.size hg.size, fun k hk hne => (hg.block k (Nat.lt_of_lt_of_le hk h1.2.size) hne).trans (h1.2.block k hk hne)⟩

/-- The order of points. -/
def ltP (p q : Int × Int) : Prop := p.1 < q.1 ∨ (p.1 = q.1 ∧ p.2 < q.2)
theorem lessB_iff (a b c d : Int) : lessB a b c d = true ↔ ltP (a, b) (c, d) := by simp [lessB, ltP]
/-- In order, each once: these. -/
def SPt (pts : List (Int × Int)) (Cs : List (Int × Int)) : Prop := pts.Pairwise ltP ∧ ∀ p, p ∈ pts ↔ p ∈ Cs
theorem SPt.has {pts Cs : List (Int × Int)} {c : Int × Int} (h : SPt pts Cs) (hc : c ∈ pts) : SPt pts (Cs ++ [c]) := by
  refine ⟨h.1, fun p => ?_⟩
  rw [List.mem_append, List.mem_singleton, ← h.2 p]
  exact ⟨fun q => Or.inl q, fun q => q.elim id (fun e => e ▸ hc)⟩
/-- One is put where it belongs. -/
theorem SPt.put {pts Cs : List (Int × Int)} {c : Int × Int} {k : Nat} (h : SPt pts Cs) (hk : k ≤ pts.length) (h1 : ∀ m (hm : m < pts.length), m < k → ltP pts[m] c) (h2 : ∀ hm : k < pts.length, ¬ ltP pts[k] c ∧ pts[k] ≠ c) : SPt (pts.take k ++ c :: pts.drop k) (Cs ++ [c]) := by
  have hp := h.1
  refine ⟨?_, fun p => ?_⟩
  · have hs : (pts.take k ++ pts.drop k).Pairwise ltP := by rw [List.take_append_drop]; exact hp
    rw [List.pairwise_append] at hs
    obtain ⟨s1, s2, s3⟩ := hs
    have hbef : ∀ q ∈ pts.take k, ltP q c := fun q hq => by
      obtain ⟨m, hm, e⟩ := List.getElem_of_mem hq
      rw [List.length_take] at hm
      rw [List.getElem_take] at e
      rw [← e]
      exact h1 m (by omega) (by omega)
    have haft : ∀ q ∈ pts.drop k, ltP c q := fun q hq => by
      have hk2 : k < pts.length := by
        rcases Nat.lt_or_ge k pts.length with h | h
        · exact h
        · rw [List.drop_eq_nil_of_le h] at hq
          cases hq
      obtain ⟨n1, n2⟩ := h2 hk2
      have hck : ltP c pts[k] := by
        have e : pts[k] ≠ c := n2
        obtain ⟨a, b⟩ := c
        generalize pts[k] = u at n1 e
        obtain ⟨a', b'⟩ := u
        simp only [ltP] at n1 ⊢
        simp only [ne_eq, Prod.mk.injEq] at e
        omega
      rw [List.drop_eq_getElem_cons hk2] at hq s2
      rcases List.mem_cons.1 hq with rfl | hq
      · exact hck
      · have h5 := (List.pairwise_cons.1 s2).1 q hq
        obtain ⟨a, b⟩ := c
        generalize pts[k] = u at hck h5
        obtain ⟨a', b'⟩ := u
        obtain ⟨a2, b2⟩ := q
        simp only [ltP] at hck h5 ⊢
        omega
    rw [List.pairwise_append]
    refine ⟨s1, List.pairwise_cons.2 ⟨haft, s2⟩, fun a ha b hb => ?_⟩
    rcases List.mem_cons.1 hb with rfl | hb
    · exact hbef a ha
    · exact s3 a ha b hb
  · rw [List.mem_append, List.mem_append, List.mem_singleton, List.mem_cons, ← h.2 p]
    have : p ∈ pts ↔ p ∈ pts.take k ∨ p ∈ pts.drop k := by rw [← List.mem_append, List.take_append_drop]
    rw [this]
    constructor
    · rintro (h | h | h)
      · exact Or.inl (Or.inl h)
      · exact Or.inr h
      · exact Or.inl (Or.inr h)
    · rintro ((h | h) | h)
      · exact Or.inl h
      · exact Or.inr (Or.inr h)
      · exact Or.inr (Or.inl h)
/-- The row while it is shifted. -/
def sh (pts : List (Int × Int)) (c : Int × Int) (j : Nat) : List (Int × Int) := (pts ++ [c]).take (j + 1) ++ pts.drop j
theorem sh_start (pts : List (Int × Int)) (c : Int × Int) : sh pts c pts.length = pts ++ [c] := by
  unfold sh
  rw [List.take_of_length_le (by simp), List.drop_length, List.append_nil]
theorem sh_len {pts : List (Int × Int)} {c : Int × Int} {j : Nat} (h : j ≤ pts.length) : (sh pts c j).length = pts.length + 1 := by
  unfold sh
  rw [List.length_append, List.length_take, List.length_drop, List.length_append, List.length_singleton]
  omega
theorem sh_low {pts : List (Int × Int)} {c : Int × Int} {j m : Nat} (_hj : j ≤ pts.length) (hm : m ≤ j) (h1 : m < (sh pts c j).length) (h2 : m < (pts ++ [c]).length) : (sh pts c j)[m] = (pts ++ [c])[m] := by
  show ((pts ++ [c]).take (j + 1) ++ pts.drop j)[m] = _
  have hl : m < ((pts ++ [c]).take (j + 1)).length := by rw [List.length_take]; omega
  exact (List.getElem_append_left hl).trans List.getElem_take
theorem sh_step {pts : List (Int × Int)} {c : Int × Int} {j : Nat} (hj : j + 1 ≤ pts.length) : (sh pts c (j + 1)).set (j + 1) pts[j] = sh pts c j := by
  unfold sh
  have hl : ((pts ++ [c]).take (j + 1)).length = j + 1 := by rw [List.length_take, List.length_append, List.length_singleton]; omega
  rw [List.take_succ_eq_append_getElem (by simp; omega), List.append_assoc, List.set_append_right _ _ (by omega), hl, Nat.sub_self, List.singleton_append, List.set_cons_zero, List.drop_eq_getElem_cons (show j < pts.length by omega)]
theorem sh_end {pts : List (Int × Int)} {c : Int × Int} {k : Nat} (hk : k ≤ pts.length) : (sh pts c k).set k c = pts.take k ++ c :: pts.drop k := by
  unfold sh
  have hl : ((pts ++ [c]).take k).length = k := by rw [List.length_take, List.length_append, List.length_singleton]; omega
  rw [List.take_succ_eq_append_getElem (by simp; omega), List.append_assoc, List.set_append_right _ _ (by omega), hl, Nat.sub_self, List.singleton_append, List.set_cons_zero]
  rw [List.take_append_of_le_length hk]
/-- The corners of a triangle. -/
def cnr (t : Int × Int × Int) : List (Int × Int) := [(2 * t.1 + 1, 2 * t.2.1 + 1), (c1x t.1 t.2.2, c1y t.2.1 t.2.2), (c2x t.1 t.2.2, c2y t.2.1 t.2.2)]
def P3 (w : World) (g : Nat) (t : Int × Int × Int) : Prop := ∀ k (h : k < (cnr t).length), w.cell? ⟨g, k * 2, none⟩ = some (.int .i64 (cnr t)[k].1) ∧ w.cell? ⟨g, k * 2 + 1, none⟩ = some (.int .i64 (cnr t)[k].2)
theorem P3.of {w : World} {g : Nat} {x y k : Int} (h : Mp w g (2 * x + 1) (2 * y + 1) (c1x x k) (c1y y k) (c2x x k) (c2y y k)) : P3 w g (x, y, k) := fun n hn => by
  obtain ⟨h0, h1, h2, h3, h4, h5⟩ := h
  have : n = 0 ∨ n = 1 ∨ n = 2 := by simp [cnr] at hn; omega
  rcases this with rfl | rfl | rfl
  · exact ⟨h0, h1⟩
  · exact ⟨h2, h3⟩
  · exact ⟨h4, h5⟩
theorem P3.grown {w w' : World} {g : Nat} {t : Int × Int × Int} {row : Option Nat} (h : P3 w g t) (hg : w.grownBy w' row) (hne : some g ≠ row) : P3 w' g t := fun k hk => ⟨hg.cell (h k hk).1 hne, hg.cell (h k hk).2 hne⟩
end Go.Proofs.YtmjneoaciopioaaDoor
namespace Go.Proofs.YtmjneoaciopioaaDoor.Pm
open Go.RowKit Go.ChangeMaps

/-- A point as a key. -/
def ek (e : Int × Int) : Value := .agg #[.int .i64 e.1, .int .i64 e.2]
/-- An entry: its key, its value, its stamp. -/
def toE (x : (Int × Int) × Value × Nat) : MapEntry := ⟨ek x.1, x.2.1, x.2.2⟩
theorem equal27 (a b : Int × Int) (w : World) : (Op.equal 43 (ek a) (ek b)).run Tryd.prog w = .ok (decide (a = b)) w := by
  obtain ⟨a0, a1⟩ := a
  obtain ⟨b0, b1⟩ := b
  have h := eql25 a0 a1 b0 b1 w
  have e : decide (a0 = b0 ∧ a1 = b1) = decide ((a0, a1) = (b0, b1)) := by simp
  rw [e] at h
  unfold ek
  simp only [binOp, Sem.run_bind, Sem.run_pure] at h
  cases hr : (Op.equal 43 (.agg #[.int .i64 a0, .int .i64 a1]) (.agg #[.int .i64 b0, .int .i64 b1])).run Tryd.prog w with
  | ok r w1 =>
    rw [hr] at h
    simpa [Result.andThen] using h
  | halt x w1 =>
    rw [hr] at h
    simp [Result.andThen] at h
theorem check27 (em : Bool) (a : Int × Int) (w : World) : (Instr.checkKey em 10000 43 (ek a)).run Tryd.prog w = .ok () w := check25 em 9998 _ _ w
theorem stays27 (a : Int × Int) (w : World) : (Instr.keyThatStays (ek a) (ek a)).run Tryd.prog w = .ok (ek a) w := by
  have : Instr.sameBits 10000 (ek a) (ek a) = true := by
    unfold ek
    show Instr.sameBits (9999 + 1) _ _ = true
    simp [Instr.sameBits]
  simp [Instr.keyThatStays, this]
theorem find27 (k : Int × Int) (w : World) : ∀ (ls : List ((Int × Int) × Value × Nat)) (i : Nat),
    ((Instr.findAsking 43 (ek k) (ls.map toE) i).run Tryd.prog w = .ok none w ∧ ∀ x ∈ ls, x.1 ≠ k) ∨
    ∃ j x, (Instr.findAsking 43 (ek k) (ls.map toE) i).run Tryd.prog w = .ok (some (i + j, x.2.1)) w ∧ ls[j]? = some x ∧ x.1 = k
  | [], i => Or.inl ⟨by simp [Instr.findAsking], by simp⟩
  | x :: r, i => by
    by_cases h : k = x.1
    · refine Or.inr ⟨0, x, ?_, rfl, h.symm⟩
      have hq := equal27 k x.1 w
      rw [decide_eq_true h] at hq
      rw [List.map_cons]
      simp only [Instr.findAsking, toE, Sem.run_bind, hq, Result.andThen]
      rfl
    · have hq := equal27 k x.1 w
      rw [decide_eq_false h] at hq
      rcases find27 k w r (i + 1) with ⟨h1, h2⟩ | ⟨j, y, h1, h2, h3⟩
      · refine Or.inl ⟨?_, ?_⟩
        · rw [List.map_cons]
          simp only [Instr.findAsking, toE, Sem.run_bind, hq, Result.andThen]
          exact h1
        · intro y hy
          rcases List.mem_cons.1 hy with rfl | hy
          · exact fun e => h e.symm
          · exact h2 y hy
      · refine Or.inr ⟨j + 1, y, ?_, by simpa using h2, h3⟩
        rw [List.map_cons]
        simp only [Instr.findAsking, toE, Sem.run_bind, hq, Result.andThen]
        rw [show i + (j + 1) = i + 1 + j by omega]
        exact h1

/-- The map's object. -/
def EM (w : World) (r : Nat) (ls : List ((Int × Int) × Value × Nat)) (clock : Nat) : Prop := w.heap[r]? = some (.map (ls.map toE).toArray clock)
/-- Each key once, each stamp once, all of them old. -/
def Good (ls : List ((Int × Int) × Value × Nat)) (clock : Nat) : Prop := (ls.map (fun x => x.1)).Nodup ∧ (ls.map (fun x => x.2.2)).Nodup ∧ ∀ x ∈ ls, x.2.2 < clock
/-- What is at a key. -/
def lk : List ((Int × Int) × Value × Nat) → Int × Int → Option Value
  | [], _ => none
  | x :: r, k => if x.1 = k then some x.2.1 else lk r k
theorem lk_not {k : Int × Int} : ∀ {ls : List ((Int × Int) × Value × Nat)}, (∀ x ∈ ls, x.1 ≠ k) → lk ls k = none
  | [], _ => rfl
  | x :: r, h => by simp [lk, h x (by simp), lk_not (ls := r) (fun y hy => h y (by simp [hy]))]
theorem lk_none {k : Int × Int} : ∀ {ls : List ((Int × Int) × Value × Nat)}, lk ls k = none → ∀ x ∈ ls, x.1 ≠ k
  | [], _ => by simp
  | x :: r, h => by
    unfold lk at h
    split at h
    · cases h
    · rename_i hx
      intro y hy
      rcases List.mem_cons.1 hy with rfl | hy
      · exact hx
      · exact lk_none h y hy
theorem lk_at {k : Int × Int} : ∀ {ls : List ((Int × Int) × Value × Nat)} {j : Nat} {x : (Int × Int) × Value × Nat}, (ls.map (fun x => x.1)).Nodup → ls[j]? = some x → x.1 = k → lk ls k = some x.2.1
  | [], _, _, _, h, _ => by simp at h
  | y :: r, 0, x, _, h, hk => by
    simp at h
    subst h
    simp [lk, hk]
  | y :: r, j + 1, x, hn, h, hk => by
    simp only [List.getElem?_cons_succ] at h
    simp only [List.map_cons, List.nodup_cons] at hn
    have hne : y.1 ≠ k := fun e => hn.1 (List.mem_map.2 ⟨x, List.mem_of_getElem? h, hk.trans e.symm⟩)
    simp [lk, hne, lk_at hn.2 h hk]
theorem lk_mem {k : Int × Int} {v : Value} : ∀ {ls : List ((Int × Int) × Value × Nat)}, lk ls k = some v → ∃ b, (k, v, b) ∈ ls
  | [], h => by simp [lk] at h
  | y :: r, h => by
    unfold lk at h
    split at h
    · rename_i e
      simp at h
      subst h
      subst e
      exact ⟨y.2.2, by simp⟩
    · obtain ⟨b, hb⟩ := lk_mem h
      exact ⟨b, by simp [hb]⟩
theorem lk_push {ls : List ((Int × Int) × Value × Nat)} {k j : Int × Int} {v : Value} {c : Nat} (h : ∀ x ∈ ls, x.1 ≠ k) : lk (ls ++ [(k, v, c)]) j = if j = k then some v else lk ls j := by
  induction ls with
  | nil => by_cases e : j = k
           · simp [lk, e]
           · have e' : ¬ k = j := fun h => e h.symm
             simp [lk, e, e']
  | cons y r ih =>
    have ih := ih (fun x hx => h x (by simp [hx]))
    simp only [List.cons_append, lk, ih]
    by_cases e : j = k
    · subst e
      simp [h y (by simp)]
    · simp [e]
theorem lk_set : ∀ {ls : List ((Int × Int) × Value × Nat)} {i : Nat} {x : (Int × Int) × Value × Nat} {k j : Int × Int} {v : Value}, (ls.map (fun x => x.1)).Nodup → ls[i]? = some x → x.1 = k → lk (ls.set i (k, v, x.2.2)) j = if j = k then some v else lk ls j
  | [], _, _, _, _, _, _, h, _ => by simp at h
  | y :: r, 0, x, k, j, v, _, h, hk => by
    simp at h
    subst h
    by_cases e : j = k
    · simp [lk, e]
    · have e' : ¬ k = j := fun h => e h.symm
      simp [lk, e, hk, e']
  | y :: r, i + 1, x, k, j, v, hn, h, hk => by
    simp only [List.getElem?_cons_succ] at h
    simp only [List.map_cons, List.nodup_cons] at hn
    have hne : y.1 ≠ k := fun e => hn.1 (List.mem_map.2 ⟨x, List.mem_of_getElem? h, hk.trans e.symm⟩)
    have ih := lk_set (j := j) (v := v) hn.2 h hk
    simp only [List.set_cons_succ, lk, ih]
    by_cases e : j = k
    · subst e
      simp [hne]
    · simp [e]
theorem set_keys {ls : List ((Int × Int) × Value × Nat)} {i : Nat} {x : (Int × Int) × Value × Nat} (h : ls[i]? = some x) (v : Value) : (ls.set i (x.1, v, x.2.2)).map (fun x => x.1) = ls.map (fun x => x.1) ∧ (ls.set i (x.1, v, x.2.2)).map (fun x => x.2.2) = ls.map (fun x => x.2.2) := by
  constructor
  · rw [List.map_set]
    exact WideElems.set_self _ _ _ (by simp [h])
  · rw [List.map_set]
    exact WideElems.set_self _ _ _ (by simp [h])
theorem good_push {ls : List ((Int × Int) × Value × Nat)} {clock : Nat} {k : Int × Int} {v : Value} (hg : Good ls clock) (h : ∀ x ∈ ls, x.1 ≠ k) : Good (ls ++ [(k, v, clock)]) (clock + 1) := by
  obtain ⟨g1, g2, g3⟩ := hg
  refine ⟨?_, ?_, ?_⟩
  · rw [List.map_append, List.nodup_append]
    refine ⟨g1, by simp, fun a ha b hb => ?_⟩
    obtain ⟨x, hx, rfl⟩ := List.mem_map.1 ha
    simp at hb
    subst hb
    exact h x hx
  · rw [List.map_append, List.nodup_append]
    refine ⟨g2, by simp, fun a ha b hb => ?_⟩
    obtain ⟨x, hx, rfl⟩ := List.mem_map.1 ha
    simp at hb
    subst hb
    have := g3 x hx
    omega
  · intro x hx
    rcases List.mem_append.1 hx with hx | hx
    · have := g3 x hx
      omega
    · simp at hx
      subst hx
      simp
theorem good_set {ls : List ((Int × Int) × Value × Nat)} {clock i : Nat} {x : (Int × Int) × Value × Nat} (hg : Good ls clock) (h : ls[i]? = some x) (v : Value) : Good (ls.set i (x.1, v, x.2.2)) clock := by
  obtain ⟨g1, g2, g3⟩ := hg
  have hk := set_keys h v
  refine ⟨hk.1 ▸ g1, hk.2 ▸ g2, fun y hy => ?_⟩
  have : y.2.2 ∈ (ls.set i (x.1, v, x.2.2)).map (fun x => x.2.2) := List.mem_map.2 ⟨y, hy, rfl⟩
  rw [hk.2] at this
  obtain ⟨z, hz, e⟩ := List.mem_map.1 this
  have := g3 z hz
  omega

theorem findKey27 (x : Value) (es : List MapEntry) (w : World) : (Instr.findKey 43 x es).run Tryd.prog w = (Instr.findAsking 43 x es).run Tryd.prog w := by
  cases es with
  | nil => simp [Instr.findKey, run_underlying Tryd.underlying43, Instr.findNow, Instr.findAsking]
  | cons e es => simp [Instr.findKey, run_underlying Tryd.underlying43, Instr.findNow, Instr.sameNow]

theorem lookup27 {T E : TypeId} {z : Value} (ht : Tryd.prog.underlying T = some (.map 43 E)) (hz : ∀ u : World, (zeroValue E).run Tryd.prog u = .ok z u) {w : World} {r : Nat} {ls : List ((Int × Int) × Value × Nat)} {clock : Nat} (h : EM w r ls clock) (hg : Good ls clock) (k : Int × Int) :
    (Instr.lookup T (.map (some r)) (ek k) false).run Tryd.prog w = .ok ((lk ls k).getD z) w := by
  unfold EM at h
  have hf := fun em => check27 em k w
  rcases find27 k w ls 0 with ⟨h1, h2⟩ | ⟨j, x, h1, h2, h3⟩
  · rw [lk_not h2]
    have h1' : (Instr.findKey 43 (ek k) (ls.map toE)).run Tryd.prog w = .ok none w := (findKey27 _ _ _).trans h1
    simp [Instr.lookup, run_underlying ht, MapKept.run_getObj_map h, hf, h1', hz, Result.andThen]
  · rw [lk_at hg.1 h2 h3]
    have h1' : (Instr.findKey 43 (ek k) (ls.map toE)).run Tryd.prog w = .ok (some (j, x.2.1)) w := (findKey27 _ _ _).trans (by simpa using h1)
    simp [Instr.lookup, run_underlying ht, MapKept.run_getObj_map h, hf, h1', Result.andThen]

theorem grown_set {w : World} {r : Nat} {es : Array MapEntry} {c : Nat} (h : w.heap[r]? = some (.map es c)) (o : Obj) : w.grownBy (setBlock w r o) (some r) :=
  ⟨rfl, rfl, rfl, by simp [setBlock], fun _ _ hi => heap_setBlock_other h _ (fun e1 => hi (by rw [e1]))⟩

/-- m[k] = v. -/
theorem update27 {T E : TypeId} (ht : Tryd.prog.underlying T = some (.map 43 E)) {w : World} {r : Nat} {ls : List ((Int × Int) × Value × Nat)} {clock : Nat} (h : EM w r ls clock) (hg : Good ls clock) (k : Int × Int) (val : Value) :
    ∃ ls' clock', (Instr.mapUpdate T (.map (some r)) (ek k) val).run Tryd.prog w = .ok () (setBlock w r (.map (ls'.map toE).toArray clock')) ∧ Good ls' clock' ∧ (∀ j, lk ls' j = if j = k then some val else lk ls j) ∧ (ls'.length = ls.length + if lk ls k = none then 1 else 0) := by
  have hb := h
  unfold EM at hb
  have hf := fun em => check27 em k w
  rcases find27 k w ls 0 with ⟨h1, h2⟩ | ⟨j, x, h1, h2, h3⟩
  · have h1' : (Instr.findKey 43 (ek k) (ls.map toE)).run Tryd.prog w = .ok none w := (findKey27 _ _ _).trans h1
    refine ⟨ls ++ [(k, val, clock)], clock + 1, ?_, good_push hg h2, fun j => lk_push h2, by simp [lk_not h2]⟩
    simp [Instr.mapUpdate, run_underlying ht, MapKept.run_getObj_map hb, hf, h1', MapKept.run_setObj_map _ hb, Result.andThen, setBlock, toE]
  · have h1' : (Instr.findKey 43 (ek k) (ls.map toE)).run Tryd.prog w = .ok (some (j, x.2.1)) w := (findKey27 _ _ _).trans (by simpa using h1)
    have hj : ((ls.map toE).toArray)[j]? = some (toE x) := by simp [h2]
    have hjl : (ls.map toE)[j]? = some (toE x) := by simp [h2]
    have hkx : (toE x).key = ek k := by simp [toE, h3]
    have e1 : lk ls k = some x.2.1 := lk_at hg.1 h2 h3
    have hmod : (ls.map toE).toArray.modify j (fun e => { e with key := ek k, val := val }) = ((ls.set j (x.1, val, x.2.2)).map toE).toArray := by
      apply Array.ext'
      rw [Array.toList_modify]
      show (ls.map toE).modify j _ = (ls.set j (x.1, val, x.2.2)).map toE
      rw [modify_eq_set _ _ _ _ hjl, List.map_set, ← hkx]
      rfl
    have hst := stays27 k w
    refine ⟨ls.set j (x.1, val, x.2.2), clock, ?_, good_set hg h2 val, fun i => by have := lk_set (j := i) (v := val) hg.1 h2 h3; rwa [← h3] at this ⊢, by simp [e1]⟩
    simp only [Instr.mapUpdate, Sem.run_bind, run_underlying ht, MapKept.run_getObj_map hb, hf, h1', Result.andThen, hj, Option.map_some, Option.getD_some, hkx, hst, hmod, MapKept.run_setObj_map _ hb, setBlock]
theorem em_made (w : World) : EM (w.alloc (.map #[] 0)) w.heap.size [] 0 := (MapKept.heap_alloc w _).1
theorem good_nil : Good [] 0 := ⟨by simp, by simp, by simp⟩

end Go.Proofs.YtmjneoaciopioaaDoor.Pm
namespace Go.Proofs.YtmjneoaciopioaaDoor
open Go.RowKit Go.ChangeMaps

/-- The eight steps. -/
def dX (d : Nat) : Int := if d = 0 ∨ d = 1 ∨ d = 7 then 1 else if d = 2 ∨ d = 6 then 0 else -1
def dY (d : Nat) : Int := if d = 1 ∨ d = 2 ∨ d = 3 then 1 else if d = 0 ∨ d = 4 then 0 else -1
theorem d_inj {d e : Nat} (hd : d < 8) (he : e < 8) (h1 : dX d = dX e) (h2 : dY d = dY e) : d = e := by
  have h3 : d = 0 ∨ d = 1 ∨ d = 2 ∨ d = 3 ∨ d = 4 ∨ d = 5 ∨ d = 6 ∨ d = 7 := by omega
  have h4 : e = 0 ∨ e = 1 ∨ e = 2 ∨ e = 3 ∨ e = 4 ∨ e = 5 ∨ e = 6 ∨ e = 7 := by omega
  rcases h3 with rfl | rfl | rfl | rfl | rfl | rfl | rfl | rfl <;> rcases h4 with rfl | rfl | rfl | rfl | rfl | rfl | rfl | rfl <;> first | rfl | (exfalso; simp [dX, dY] at h1 h2)
/-- The list of steps in memory. -/
def D8 (w : World) (g : Nat) : Prop := ∀ d, d < 8 → w.cell? ⟨g, d * 2, none⟩ = some (.int .i64 (dX d)) ∧ w.cell? ⟨g, d * 2 + 1, none⟩ = some (.int .i64 (dY d))

set_option maxRecDepth 100000 in
set_option maxHeartbeats 1600000 in
theorem index_any (g : Nat) (D : Nat) (hD : D < 8) (w : World) (h8 : D8 w g) :
    Calls Tryd.prog 85 #[.slice (some ⟨g, 0, none⟩) 8 8, .agg #[.int .i64 (dX D), .int .i64 (dY D)]] w fun e w' => e = .returned (.int .i64 (D : Int)) ∧ Below w.heap.size w w' := by
  have H8 : Hid (D8 w g) := h8
  have he := eql25
  obtain ⟨X, hX⟩ : ∃ X, X = dX D := ⟨_, rfl⟩
  obtain ⟨Y, hY⟩ : ∃ Y, Y = dY D := ⟨_, rfl⟩
  rw [← hX, ← hY]
  have HXY : Hid (X = dX D ∧ Y = dY D) := ⟨hX, hY⟩
  clear h8 hX hY
  go_enter Tryd.func85, Tryd.ntmps85
  go_wp2
  go_loopg [8] (D + 1) (fun gk s8 wx => ∃ d : Nat, d ≤ D ∧ gk = D + 1 - d ∧ s8 = .int .i64 (d : Int) ∧ Below w.heap.size w wx ∧ (wx.cell? ⟨w.heap.size, 0, none⟩ = some (.int .i64 X) ∧ wx.cell? ⟨w.heap.size, 1, none⟩ = some (.int .i64 Y)))
  case atStart => exact ⟨0, by omega, rfl, rfl, bl_alloc (bl_refl _), by simp [go_sem]⟩
  case round =>
    obtain ⟨d, hd, rfl, rfl, hB, c0, c1⟩ := hrel
    have HB : Hid (Below w.heap.size w wr) := hB
    obtain ⟨e0, e1⟩ := H8.out d (by omega)
    replace e0 := cl_kept hB e0
    replace e1 := cl_kept hB e1
    have z0 : w.heap.size < wr.heap.size := World.block_lt_of_cell? _ _ c0
    have z1 : g < wr.heap.size := World.block_lt_of_cell? _ _ e0
    have i8 : (d : Int) < 8 := by omega
    have i0 : (0 : Int) ≤ (d : Int) := by omega
    clear hB
    obtain ⟨A, hA⟩ : ∃ A, A = dX d := ⟨_, rfl⟩
    obtain ⟨B, hB2⟩ : ∃ B, B = dY d := ⟨_, rfl⟩
    rw [← hA] at e0
    rw [← hB2] at e1
    by_cases h1 : d = D
    · have hs : decide (X = A ∧ Y = B) = true := by
        rw [hA, hB2, h1, HXY.out.1, HXY.out.2]
        simp
      have HD : Hid (d = D) := h1
      clear h1 hA hB2
      go_wp2
      go_quiet (fail)
      go_wp2
      go_ret
      exact ⟨by rw [HD.out]; rfl, bl_drewN HB.out⟩
    · have hs : decide (X = A ∧ Y = B) = false := by
        rw [hA, hB2, HXY.out.1, HXY.out.2]
        simp only [decide_eq_false_iff_not]
        exact fun h => h1 (d_inj hD (by omega) h.1 h.2).symm
      have HD : Hid (d ≠ D) := h1
      clear h1 hA hB2
      go_wp2
      go_quiet (fail)
      go_wp2
      go_roundg (D + 1 - (d + 1))
      case measure => omega
      case rel => exact ⟨d + 1, by have := HD.out; omega, rfl, by go_num, bl_drewN HB.out, c0, c1⟩

set_option maxRecDepth 100000 in
set_option maxHeartbeats 3200000 in
/-- The direction of one point from another. -/
theorem direction_any (p q r s : Int) (D : Nat) (hD : D < 8) (w : World) (hx : cmp3 r p = dX D) (hy : cmp3 s q = dY D) :
    Calls Tryd.prog 58 #[.agg #[.int .i64 p, .int .i64 q], .agg #[.int .i64 r, .int .i64 s]] w fun e w' => e = .returned (.int .i64 (D : Int)) ∧ Below w.heap.size w w' := by
  have CX : Hid (∀ (a b : Int) (W' : World), Calls Tryd.prog 84 #[.int .i64 a, .int .i64 b] W' fun e w' => e = .returned (.int .i64 (cmp3 a b)) ∧ w' = W') := fun a b W' => compare_any a b W'
  have CI : Hid (∀ (W' : World) (g : Nat), D8 W' g → Calls Tryd.prog 85 #[.slice (some ⟨g, 0, none⟩) 8 8, .agg #[.int .i64 (cmp3 r p), .int .i64 (cmp3 s q)]] W' fun e w' => e = .returned (.int .i64 (D : Int)) ∧ Below W'.heap.size W' w') := fun W' g h => by
    rw [hx, hy]
    exact index_any g D hD W' h
  clear hx hy
  go_enter Tryd.func58, Tryd.ntmps58
  go_wp2
  refine wp_named (fun W0 hW0 => ?_)
  have HB0 : Hid (Below w.heap.size w W0) := by
    have : Below w.heap.size w W0 := by rw [hW0]; exact bl_alloc (bl_alloc (bl_refl _))
    exact this
  have c0 : W0.cell? ⟨w.heap.size, 0, none⟩ = some (.int .i64 p) := by rw [hW0]; simp [go_sem]
  have c1 : W0.cell? ⟨w.heap.size, 1, none⟩ = some (.int .i64 q) := by rw [hW0]; simp [go_sem]
  have c2 : W0.cell? ⟨w.heap.size + 1, 0, none⟩ = some (.int .i64 r) := by rw [hW0]; simp [go_sem]
  have c3 : W0.cell? ⟨w.heap.size + 1, 1, none⟩ = some (.int .i64 s) := by rw [hW0]; simp [go_sem]
  have z0 : w.heap.size < W0.heap.size := World.block_lt_of_cell? _ _ c0
  have z1 : w.heap.size + 1 < W0.heap.size := World.block_lt_of_cell? _ _ c2
  clear hW0
  go_cut [5] (fun s5 wx => ∃ g : Nat, s5 = .pointer (some ⟨g, 0, none⟩) ∧ (wx.cell? ⟨g, 0, none⟩ = some (.int .i64 (cmp3 r p)) ∧ wx.cell? ⟨g, 1, none⟩ = some (.int .i64 (cmp3 s q))) ∧ Below W0.heap.size W0 wx)
  case first =>
    go_region_held3 (fun w' => w'.cell? ⟨w.heap.size, 0, none⟩ = some (.int .i64 p) ∧ w'.cell? ⟨w.heap.size, 1, none⟩ = some (.int .i64 q) ∧ w'.cell? ⟨w.heap.size + 1, 0, none⟩ = some (.int .i64 r) ∧ w'.cell? ⟨w.heap.size + 1, 1, none⟩ = some (.int .i64 s))
      ((refine ⟨?_, ?_, ?_, ?_⟩ <;> (repeat' (first | (with_reducible assumption) | (with_reducible refine set_far ?_ ?_) | (dsimp only; omega) | (simp [go_sem]; done) | (with_reducible refine al_old ?_) | (with_reducible refine dr_old ?_)))))
      ((go_at_call 84; refine (CX.out _ _ _).mono ?_; rintro e w8 ⟨rfl, hw8⟩; have hw9 := hw8.symm; clear hw8; subst hw9))
    all_goals
      go_wp2
      go_meet
      case rel =>
        refine ⟨_, rfl, ?_, ?_⟩
        · first | (simp [go_sem]; done) | (simp [go_sem, *]; done)
        · with_reducible repeat' (first | exact bl_refl _ | refine bl_set ?_ ?_ | refine bl_alloc ?_ | refine bl_drew ?_)
          all_goals (first | omega | (dsimp only; omega) | (simp; done))
  case rest =>
    obtain ⟨g, rfl, ⟨d0, d1⟩, hB⟩ := hcut
    have HB : Hid (Below w.heap.size w wc) := bl_via HB0.out hB
    have zg : g < wc.heap.size := World.block_lt_of_cell? _ _ d0
    clear hB c0 c1 c2 c3 z0 z1 HB0
    go_wp2_with (go_at_call 85; refine (CI.out _ wc.heap.size (by intro d hd; have h3 : d = 0 ∨ d = 1 ∨ d = 2 ∨ d = 3 ∨ d = 4 ∨ d = 5 ∨ d = 6 ∨ d = 7 := (by omega); rcases h3 with rfl | rfl | rfl | rfl | rfl | rfl | rfl | rfl <;> simp [go_sem, dX, dY])).mono ?_; rintro e w5 ⟨rfl, hb⟩; have HB5 : Hid (Below w.heap.size w w5) := bl_via (bl_alloc HB.out) hb; clear hb)
    go_ret
    exact ⟨rfl, HB5.out⟩
end Go.Proofs.YtmjneoaciopioaaDoor
