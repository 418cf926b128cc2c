/- Slices of slices of triangles, of one's own. -/
import Derived.Test.YtoedcefbmbfnhabDoorRhol
namespace Go.Proofs.YtoedcefbmbfnhabDoor
open Go.RowKit

/-- The block of a row of one's own bears its elements' type. -/
theorem own_type {w : World} {B : Nat} {e : TypeId} {size : Nat} {v : Value} {n : Nat} {xs : List Value} (h : w.ownsRow B e size v n xs) : ∀ g, v.ownBlock = some g → ∃ c, w.heap[g]? = some (.cells c e (0, 0)) := by
  intro g hg
  rcases h.2 with ⟨rfl, _⟩ | ⟨g', cap, cur, rfl, _, hc, _⟩
  · simp [Value.ownBlock] at hg
  · simp only [Value.ownBlock, Option.some.injEq] at hg
    subst hg
    exact ⟨cur, hc⟩
/-- Rows of triangles in a row, no two of them in one block. -/
def NestV (w : World) (base : Nat) (v : Value) (F : List (List (Int × Int × Int))) (vs : List Value) : Prop :=
  vs.length = F.length ∧ w.ownsRow base 37 1 v F.length vs ∧ (∀ n (h : n < vs.length) (h' : n < F.length), w.ownsRow base 79 3 vs[n] F[n].length (flatV F[n])) ∧
  ∀ n m (hn : n < vs.length) (hm : m < vs.length), n ≠ m → ∀ b, vs[n].ownBlock = some b → vs[m].ownBlock ≠ some b
def Nest (w : World) (base : Nat) (v : Value) (F : List (List (Int × Int × Int))) : Prop := ∃ vs, NestV w base v F vs
theorem nest_nil (w : World) (base : Nat) : Nest w base (.slice none 0 0) [] := ⟨[], rfl, World.ownsRow_nil _ _ _ _, fun n h => by simp at h, fun n m h => by simp at h⟩
theorem NestV.apart {w : World} {base : Nat} {v : Value} {F : List (List (Int × Int × Int))} {vs : List Value} (h : NestV w base v F vs) {n : Nat} (hn : n < vs.length) : vs[n].ownBlock = none ∨ vs[n].ownBlock ≠ v.ownBlock := by
  cases e : vs[n].ownBlock with
  | none => exact Or.inl rfl
  | some b =>
    right
    intro e2
    obtain ⟨c1, g1⟩ := own_type (h.2.2.1 n hn (by rw [← h.1]; exact hn)) b e
    obtain ⟨c2, g2⟩ := own_type h.2.1 b e2.symm
    rw [g1] at g2
    simp at g2
theorem NestV.grown {w w' : World} {base : Nat} {v : Value} {F : List (List (Int × Int × Int))} {vs : List Value} (h : NestV w base v F vs) (hg : w.grownBy w' none) : NestV w' base v F vs :=
  ⟨h.1, h.2.1.kept hg (by cases v.ownBlock <;> simp), fun n h1 h2 => (h.2.2.1 n h1 h2).kept hg (by cases vs[n].ownBlock <;> simp), h.2.2.2⟩
theorem NestV.kept {w w' : World} {base : Nat} {v : Value} {F : List (List (Int × Int × Int))} {vs : List Value} (h : NestV w base v F vs) (hb : Below w.heap.size w w') : NestV w' base v F vs := h.grown (bl_grown hb)
/-- A row with nothing in it at the end. -/
theorem NestV.more {w w' : World} {base : Nat} {v v' : Value} {F : List (List (Int × Int × Int))} {vs : List Value} (h : NestV w base v F vs) (ho : w'.ownsRow base 37 1 v' (F.length + 1) (vs ++ [.slice none 0 0])) (hg : w.grownBy w' v.ownBlock) : NestV w' base v' (F ++ [[]]) (vs ++ [.slice none 0 0]) := by
  refine ⟨by simp [h.1], by simpa using ho, fun n h1 h2 => ?_, fun n m h1 h2 hne b hb => ?_⟩
  · by_cases hn : n < vs.length
    · have hn2 : n < F.length := by rw [← h.1]; exact hn
      rw [List.getElem_append_left hn, List.getElem_append_left hn2]
      exact (h.2.2.1 n hn hn2).kept hg (h.apart hn)
    · have e1 : n = vs.length := by simp at h1; omega
      have e2 : n = F.length := by rw [e1, h.1]
      have q1 : (vs ++ [Value.slice none 0 0])[n] = .slice none 0 0 := by subst e1; simp
      have q2 : (F ++ [[]])[n] = [] := by subst e2; simp
      rw [q1, q2]
      exact World.ownsRow_nil _ _ _ _
  · by_cases hn : n < vs.length
    · rw [List.getElem_append_left hn] at hb
      by_cases hm : m < vs.length
      · rw [List.getElem_append_left hm]
        exact h.2.2.2 n m hn hm hne b hb
      · have e1 : m = vs.length := by simp at h2; omega
        have q1 : (vs ++ [Value.slice none 0 0])[m] = .slice none 0 0 := by subst e1; simp
        rw [q1]
        simp [Value.ownBlock]
    · have e1 : n = vs.length := by simp at h1; omega
      have q1 : (vs ++ [Value.slice none 0 0])[n] = .slice none 0 0 := by subst e1; simp
      rw [q1] at hb
      simp [Value.ownBlock] at hb
theorem flatV_snoc (l : List (Int × Int × Int)) (t : Int × Int × Int) : flatV (l ++ [t]) = flatV l ++ [.int .i64 t.1, .int .i64 t.2.1, .int .i64 t.2.2] := by simp [flatV]
theorem NestV.outer {w w' : World} {base p : Nat} {v : Value} {F : List (List (Int × Int × Int))} {vs : List Value} (h : NestV w base v F vs) (hp : p < vs.length) (hg : w.grownBy w' vs[p].ownBlock) : w'.ownsRow base 37 1 v F.length vs :=
  h.2.1.kept hg (by
    rcases h.apart hp with e | e
    · rw [e]
      cases v.ownBlock <;> simp
    · exact Or.inr (fun q => e q.symm))
/-- A row that has grown by one is put back into its place. -/
theorem NestV.put {w w' : World} {base g cap p : Nat} {u : Value} {F : List (List (Int × Int × Int))} {vs : List Value} {t : Int × Int × Int} (h : NestV w base (.slice (some ⟨g, 0, none⟩) F.length cap) F vs) (hp : p < vs.length) (hp2 : p < F.length)
    (ho : w'.ownsRow base 79 3 u (F[p].length + 1) (flatV F[p] ++ [.int .i64 t.1, .int .i64 t.2.1, .int .i64 t.2.2])) (hg : w.grownBy w' vs[p].ownBlock) (hu : u.ownBlock = vs[p].ownBlock ∨ u.ownBlock = some w.heap.size) :
    NestV (w'.setCell ⟨g, p, none⟩ u) base (.slice (some ⟨g, 0, none⟩) F.length cap) (F.set p (F[p] ++ [t])) (vs.set p u) := by
  have hv : w'.ownsRow base 37 1 (.slice (some ⟨g, 0, none⟩) F.length cap) F.length vs := h.2.1.kept hg (by
    rcases h.apart hp with e | e
    · right
      rw [e]
      simp [Value.ownBlock]
    · exact Or.inr (fun q => e q.symm))
  have hs := hv.stored p u
  have hug : u.ownBlock ≠ some g := by
    intro e
    obtain ⟨c1, g1⟩ := own_type ho g e
    obtain ⟨c2, g2⟩ := own_type hv g (by simp [Value.ownBlock])
    rw [g1] at g2
    simp at g2
  refine ⟨by simp [h.1], by simpa using hs.1, fun n h1 h2 => ?_, fun n m h1 h2 hne b hb => ?_⟩
  · have h1' : n < vs.length := by simpa using h1
    have h2' : n < F.length := by simpa using h2
    by_cases e : n = p
    · subst e
      simp only [List.getElem_set_self]
      rw [flatV_snoc, List.length_append]
      exact ho.kept hs.2 (Or.inr hug)
    · rw [List.getElem_set_ne (by omega), List.getElem_set_ne (by omega)]
      have k1 := (h.2.2.1 n h1' h2').kept hg (by
        cases e3 : vs[n].ownBlock with
        | none => exact Or.inl rfl
        | some b => exact Or.inr (fun q => h.2.2.2 n p h1' hp e b e3 q.symm))
      refine k1.kept hs.2 ?_
      rcases h.apart h1' with e4 | e4
      · exact Or.inl e4
      · exact Or.inr (by simpa [Value.ownBlock] using e4)
  · have h1' : n < vs.length := by simpa using h1
    have h2' : m < vs.length := by simpa using h2
    have lt : ∀ q (hq : q < vs.length), vs[q].ownBlock ≠ some w.heap.size := fun q hq e => by
      have := ((h.2.2.1 q hq (by rw [← h.1]; exact hq)).lt _ e).2
      omega
    by_cases e : n = p
    · subst e
      rw [List.getElem_set_self] at hb
      rw [List.getElem_set_ne (by omega)]
      rcases hu with hu | hu
      · exact h.2.2.2 n m h1' h2' hne b (by rw [← hu]; exact hb)
      · rw [hu] at hb
        cases hb
        exact lt m h2'
    · rw [List.getElem_set_ne (by omega)] at hb
      by_cases e2 : m = p
      · subst e2
        rw [List.getElem_set_self]
        rcases hu with hu | hu
        · rw [hu]
          exact h.2.2.2 n m h1' h2' hne b hb
        · rw [hu]
          intro q
          cases q
          exact lt n h1' hb
      · rw [List.getElem_set_ne (by omega)]
        exact h.2.2.2 n m h1' h2' hne b hb
end Go.Proofs.YtoedcefbmbfnhabDoor
