/- A drawn region whose last operation waits for all the others: one walk of its text serves every order. -/
import Derived.Test.YtoedcefbmbfnhabDoorPkah
namespace Go.Proofs.YtoedcefbmbfnhabDoor
open Go.RowKit

section
variable {P : Program} {ops : Array Oper} {md : Region.Mode} {C : World → Prop}

/-- Operation n waits for each one ahead of it. -/
def waitsAll (md : Region.Mode) (ops : Array Oper) (n : Nat) : Bool :=
  match ops[n]? with
  | some o => (List.range n).all fun i => o.after.any fun e => Region.binds md e && e.on == i
  | none => false
theorem not_yet {n i : Nat} {listed : Array Bool} (h : waitsAll md ops n = true) (hi : i < n) (hun : listed.getD i true = false) : n ∉ Region.ready md ops listed := by
  intro hr
  obtain ⟨_, o, ho, hall⟩ := mem_ready.1 hr
  unfold waitsAll at h
  rw [ho] at h
  have h1 := List.all_eq_true.1 h i (List.mem_range.2 hi)
  obtain ⟨e, he, hb⟩ := Array.any_eq_true'.1 h1
  simp only [Bool.and_eq_true, beq_iff_eq] at hb
  have h2 := hall e he hb.1
  rw [hb.2] at h2
  rcases Nat.lt_or_ge i listed.size with h' | h'
  · simp [h'] at hun h2
    rw [hun] at h2
    cases h2
  · simp [Array.getElem?_eq_none h'] at h2

/-- Whatever order is picked, till operation n alone is left. -/
def wpAnyT (P : Program) (md : Region.Mode) (ops : Array Oper) (C : World → Prop) (n : Nat) (T : Act → Prop) : Nat → Array Bool → Act → Prop
  | 0, listed, a => ((∀ i ∈ Region.ready md ops listed, i = n) ∧ n ∈ Region.ready md ops listed ∧ Region.ready md ops (listed.setIfInBounds n true) = []) ∧ T a
  | f + 1, listed, a => Region.ready md ops listed ≠ [] ∧ ∀ i ∈ Region.ready md ops listed, i ≠ n ∧ qOp P ops C i (wpAnyT P md ops C n T f (listed.setIfInBounds i true)) a

theorem wpAny_of_T {n : Nat} {T : Act → Prop} {Q : Exit → Act → World → Prop} (hT : ∀ a w, C w → T a → wpOp P ops Q n (fun a' w' => Q .normal a' w') a w) :
    ∀ (f : Nat) (listed : Array Bool) (a : Act) (w : World), C w → wpAnyT P md ops C n T f listed a → wpAny P md ops Q (f + 1) listed a w
  | 0, listed, a, w, hw, h => by
    refine ⟨fun h0 => absurd h.1.2.1 (by rw [h0]; simp), fun i hi => ?_⟩
    obtain rfl := h.1.1 i hi
    have h2 := hT a w hw h.2
    have e : (wpAny P md ops Q 0 (listed.setIfInBounds i true)) = fun a' w' => Q .normal a' w' := by
      funext a' w'
      simp only [wpAny, h.1.2.2, true_and]
    rw [e]
    exact h2
  | f + 1, listed, a, w, hw, h => ⟨fun h0 => absurd h0 h.1, fun i hi => wpOp_of_qOp hw (fun a' w' hw' h' => wpAny_of_T hT f _ a' w' hw' h') (h.2 i hi).2⟩

theorem wpAnyT_first {n i : Nat} {oi : Oper} {v : Value} {T : Act → Prop} (hi : ops[i]? = some oi) (hsel : ∀ (j : Nat) (o : Oper) cs b, ops[j]? = some o → o.op ≠ .select cs b) (hw : waitsAll md ops n = true) (hin : i < n) :
    ∀ (f : Nat) (listed : Array Bool) (a : Act),
      (∀ j oj, ops[j]? = some oj → j ≠ i → listed.getD j true = false → (∀ e ∈ oj.after, Region.binds md e = true → e.on ≠ i) → oi.apart ops oj = true) →
      i ∈ Region.ready md ops listed → YieldsIn P ops C oi v a → wpAnyT P md ops C n T f (listed.setIfInBounds i true) (a.put oi.dst v) → wpAnyT P md ops C n T (f + 1) listed a := by
  intro f
  induction f with
  | zero =>
    intro listed a _ hr hy H
    have hun := (mem_ready.1 hr).1
    refine ⟨fun h => (by rw [h] at hr; cases hr), fun j hj => ?_⟩
    have hjn : j ≠ n := fun e => not_yet hw hin hun (e ▸ hj)
    by_cases hji : j = i
    · subst hji
      exact ⟨hjn, hy.qOp hi H⟩
    · exact absurd (H.1.1 j (ready_mono hj hji)) hjn
  | succ f ih =>
    intro listed a hfree hr hy H
    have hun := (mem_ready.1 hr).1
    refine ⟨fun h => (by rw [h] at hr; cases hr), fun j hj => ?_⟩
    have hjn : j ≠ n := fun e => not_yet hw hin hun (e ▸ hj)
    refine ⟨hjn, ?_⟩
    by_cases hji : j = i
    · subst hji
      exact hy.qOp hi H
    · have hq := (H.2 j (ready_mono hj hji)).2
      obtain ⟨hju, oj, hoj, hall⟩ := mem_ready.1 hj
      have hfj : oi.apart ops oj = true := hfree j oj hoj hji hju (fun e he hb heq => by
        have h1 := hall e he hb
        rw [heq] at h1
        rcases Nat.lt_or_ge i listed.size with h' | h'
        · simp [h'] at hun h1
          rw [hun] at h1
          cases h1
        · simp [Array.getElem?_eq_none h'] at h1)
      refine qOp_mono (fun a' h3 => ?_) (qOp_put hoj hfj (fun cs b => hsel i oi cs b hi) (fun cs b => hsel j oj cs b hoj) hy hq)
      refine ih (listed.setIfInBounds j true) a' (fun m om hm hmi hmu hno => hfree m om hm hmi ?_ hno) (ready_mono hr (Ne.symm hji)) h3.1 ?_
      · by_cases hjm : j = m
        · subst hjm
          exact hju
        · rwa [getD_set_ne true hjm] at hmu
      · rw [Array.setIfInBounds_comm _ _ hji]
        exact h3.2

theorem wpAnyT_lex {n : Nat} {T : Act → Prop} (hs : Region.noSelect ops = true) (hw : waitsAll md ops n = true) (hn : ops.size = n + 1) : ∀ (l : List Oper) (k : Nat) (listed : Array Bool) (a : Act), k + l.length = n → (∀ j, j < l.length → l[j]? = ops[k + j]?) → (listed.size = n + 1 ∧ ∀ j, j < k → listed.getD j true = true) →
    Region.lexFrom md ops (l.length + 1) k listed = true → wpQuiet P ops C T l a → wpAnyT P md ops C n T l.length listed a
  | [], k, listed, a, hk, _, hI, hB, h => by
    simp only [List.length_nil, Nat.add_zero] at hk
    subst hk
    simp only [List.length_nil, Region.lexFrom, Bool.and_eq_true, List.isEmpty_iff] at hB
    refine ⟨⟨fun i hi => ?_, by simpa using hB.1.1, hB.2⟩, h⟩
    obtain ⟨h1, o, ho, _⟩ := mem_ready.1 hi
    have h2 : i < ops.size := (Array.getElem?_eq_some_iff.1 ho).1
    rcases Nat.lt_or_ge i k with h3 | h3
    · rw [hI.2 i h3] at h1
      cases h1
    · omega
  | o :: l, k, listed, a, hk, hl, hI, hB, h => by
    have h0 : ops[k]? = some o := by simpa using (hl 0 (by simp)).symm
    simp only [List.length_cons] at hk
    rw [List.length_cons, Region.lexFrom] at hB
    simp only [Bool.and_eq_true] at hB
    obtain ⟨⟨hr, hf⟩, hB'⟩ := hB
    have hst : qOp P ops C k (wpQuiet P ops C T l) a := by
      unfold qOp
      simp only [h0]
      exact h
    obtain ⟨v, hy, hK⟩ := yieldsIn_of_qOp h0 hst
    refine wpAnyT_first h0 (Region.noSelect_spec hs) hw (by omega) l.length listed a (Region.free_spec h0 hf) (by simpa using hr) hy
      (wpAnyT_lex hs hw hn l (k + 1) _ _ (by omega) (fun j hj => by have := hl (j + 1) (by simpa using hj); simpa [Nat.add_assoc, Nat.add_comm 1 j] using this) ⟨by simpa using hI.1, fun j hj => ?_⟩ hB' hK)
    by_cases e : k = j
    · subst e
      simp [hI.1]
    · rw [getD_set_ne true e]
      exact hI.2 j (by omega)
end

theorem op_of_list {P : Program} {Q : Exit → Act → World → Prop} {l : List Oper} {n : Nat} (hn : l.length = n + 1) {a : Act} {w : World} (h : wpList P l.toArray Q (l.drop n) a w) : wpOp P l.toArray Q n (fun a' w' => Q .normal a' w') a w := by
  obtain ⟨o, ho⟩ := List.length_eq_one_iff.1 (show (l.drop n).length = 1 by rw [List.length_drop]; omega)
  rw [ho] at h
  have ho2 : l.toArray[n]? = some o := by
    have : (l.drop n)[0]? = some o := by rw [ho]; rfl
    simpa using this
  unfold wpOp
  simp only [ho2]
  exact h
/-- A drawn region whose operations read, and call what leaves the worlds below alone; its last one is asked in every such world. -/
theorem wp_region_kin_last {P : Program} {id : Nat} {Q : Exit → Act → World → Prop} {a : Act} {W : World} {l : List Oper} (n : Nat) (hm : P.follows .mixedOrders = true) (hB : Region.lexB .any l.toArray = true) (hw : waitsAll .any l.toArray n = true) (hn : l.length = n + 1)
    (h : wpQuiet P l.toArray (fun w' => ∃ n : Kin W, w' = n.w) (fun a' => ∀ w', (∃ n : Kin W, w' = n.w) → wpList P l.toArray Q (l.drop n) a' w') (l.take n) a) : (Code.region id l.toArray true).wp P Q a W := by
  simp only [Region.lexB, Bool.and_eq_true] at hB
  have hlen : (l.take n).length = n := by rw [List.length_take]; omega
  have hsz : l.toArray.size = n + 1 := by simpa using hn
  have hC : (fun w' => ∃ n : Kin W, w' = n.w) W.drew := ⟨⟨W.drew, bl_drew (bl_refl _)⟩, rfl⟩
  have hB2 := hB.2
  rw [hsz] at hB2
  have h2 : wpAnyT P .any l.toArray (fun w' => ∃ n : Kin W, w' = n.w) n (fun a' => ∀ w', (∃ n : Kin W, w' = n.w) → wpList P l.toArray Q (l.drop n) a' w') (l.take n).length (Array.replicate (n + 1) false) a :=
    wpAnyT_lex hB.1 hw hsz (l.take n) 0 _ a (by omega) (fun j hj => by
      rw [hlen] at hj
      simp [hj]) ⟨by simp, fun j hj => by omega⟩ (by rw [hlen]; exact hB2) h
  rw [hlen] at h2
  have h3 : wpAny P .any l.toArray Q (n + 1) (Array.replicate (n + 1) false) a W.drew := wpAny_of_T (fun a w hw h => op_of_list hn (h w hw)) n _ a W.drew hC h2
  refine wp_region_any hm ?_
  rw [hsz]
  exact h3
end Go.Proofs.YtoedcefbmbfnhabDoor
