/- How many points and edges there are: the mathematics. -/
import Derived.Test.YtoedcefbmbfnhabDoorRptm
import Derived.Test.YtoedcefbmbfnhabDoorPntm
import Derived.Test.YtoedcefbmbfnhabDoorPkam
namespace Go.Proofs.YtoedcefbmbfnhabDoor
open Go.RowKit Go.ChangeMaps

theorem sub_len {α : Type} [DecidableEq α] : ∀ (l m : List α), l.Nodup → (∀ x ∈ l, x ∈ m) → l.length ≤ m.length
  | [], _, _, _ => Nat.zero_le _
  | a :: l, m, hn, h => by
    obtain ⟨h1, h2⟩ := List.nodup_cons.1 hn
    have ha := h a (by simp)
    have h3 := sub_len l (m.erase a) h2 (fun x hx => by
      have hne : x ≠ a := fun e => h1 (by rw [← e]; exact hx)
      exact (List.mem_erase_of_ne hne).2 (h x (by simp [hx])))
    rw [List.length_erase_of_mem ha] at h3
    have := List.length_pos_of_mem ha
    rw [List.length_cons]
    omega
theorem same_len {α : Type} [DecidableEq α] {l m : List α} (h1 : l.Nodup) (h2 : m.Nodup) (h : ∀ x, x ∈ l ↔ x ∈ m) : l.length = m.length :=
  Nat.le_antisymm (sub_len l m h1 (fun x hx => (h x).1 hx)) (sub_len m l h2 (fun x hx => (h x).2 hx))

theorem SPt.nodup {pts Cs : List (Int × Int)} (h : SPt pts Cs) : pts.Nodup := h.1.imp (fun {a b} hab e => by
  subst e
  simp only [ltP] at hab
  omega)
theorem hasPt_iff (L : List (Int × Int × Int)) (pt : Int × Int) : hasPt (L.flatMap tps) pt = true ↔ pt ∈ L.flatMap cnr := by
  simp only [hasPt, List.any_eq_true, List.mem_flatMap, decide_eq_true_eq]
  constructor
  · rintro ⟨x, ⟨t, ht, hx⟩, rfl⟩
    refine ⟨t, ht, ?_⟩
    simp only [tps, List.mem_cons, List.not_mem_nil, or_false] at hx
    rcases hx with rfl | rfl | rfl <;> simp [cnr]
  · rintro ⟨t, ht, hx⟩
    simp only [cnr, List.mem_cons, List.not_mem_nil, or_false] at hx
    rcases hx with rfl | rfl | rfl
    · exact ⟨_, ⟨t, ht, by simp only [tps, List.mem_cons]; exact Or.inl rfl⟩, rfl⟩
    · exact ⟨_, ⟨t, ht, by simp only [tps, List.mem_cons]; exact Or.inr (Or.inl rfl)⟩, rfl⟩
    · exact ⟨_, ⟨t, ht, by simp only [tps, List.mem_cons]; exact Or.inr (Or.inr (Or.inl rfl))⟩, rfl⟩
theorem pm_keys {ls : List ((Int × Int) × Value × Nat)} (k : Int × Int) : (∃ v, Pm.lk ls k = some v) ↔ k ∈ ls.map (fun x => x.1) := by
  constructor
  · rintro ⟨v, hv⟩
    obtain ⟨b, hb⟩ := Pm.lk_mem hv
    exact List.mem_map.2 ⟨_, hb, rfl⟩
  · intro hk
    obtain ⟨x, hx, e⟩ := List.mem_map.1 hk
    cases h : Pm.lk ls k with
    | none => exact absurd e (Pm.lk_none h x hx)
    | some v => exact ⟨v, rfl⟩
/-- The code's points and the reference's are as many. -/
theorem points_len {w wx : World} {rm : Nat} {L : List (Int × Int × Int)} {pts : List (Int × Int)} (h : PtM w wx rm (L.flatMap tps)) (hp : SPt pts (L.flatMap cnr)) : ∃ ls c, Pm.EM wx rm ls c ∧ ls.length = pts.length := by
  obtain ⟨ls, c, h1, h2, h3⟩ := h.1
  refine ⟨ls, c, h1, ?_⟩
  have h4 : (ls.map (fun x => x.1)).length = pts.length := same_len h2.1 hp.nodup (fun k => by
    rw [← pm_keys, hp.2 k, ← hasPt_iff, h3 k]
    unfold pv
    cases hh : hasPt (L.flatMap tps) k <;> simp)
  rw [← h4, List.length_map]

theorem em_keys {ls : List ((Int × Int × Int × Int) × Value × Nat)} (k : Int × Int × Int × Int) : (∃ v, lk ls k = some v) ↔ k ∈ ls.map (fun x => x.1) := by
  constructor
  · rintro ⟨v, hv⟩
    obtain ⟨b, hb⟩ := lk_mem hv
    exact List.mem_map.2 ⟨_, hb, rfl⟩
  · intro hk
    obtain ⟨x, hx, e⟩ := List.mem_map.1 hk
    cases h : lk ls k with
    | none => exact absurd e (lk_none h x hx)
    | some v => exact ⟨v, rfl⟩
/-- Edges, each once. -/
def EdgeSet (L : List (Int × Int × Int)) (E : List (Int × Int × Int × Int)) : Prop := E.Nodup ∧ ∀ e, e ∈ E ↔ ∃ t ∈ L, hasT t e = true
theorem gix_some {L : List (Int × Int × Int)} {e : Int × Int × Int × Int} : gix L e ≠ [] ↔ ∃ t ∈ L, hasT t e = true := by
  constructor
  · intro h
    obtain ⟨j, hj⟩ := List.exists_mem_of_ne_nil _ h
    obtain ⟨i, hi, _, ht⟩ := gix_mem.1 hj
    exact ⟨L[i], List.getElem_mem hi, ht⟩
  · rintro ⟨t, ht, hh⟩ h
    obtain ⟨i, hi, e2⟩ := List.getElem_of_mem ht
    subst e2
    have : (i : Int) ∈ gix L e := gix_mem.2 ⟨i, hi, rfl, hh⟩
    rw [h] at this
    cases this
theorem PK.edges {w0 w : World} {base ra rk : Nat} {vt : Value} {L : List (Int × Int × Int)} {kd : Int × Int × Int × Int → Option Value} (h : PK w0 w base ra rk vt L (gix L) kd) : ∃ ls c, EM w ra ls c ∧ EdgeSet L (ls.map (fun x => x.1)) := by
  obtain ⟨_, ⟨ls, c, b1, b2, b3, b4, _⟩, _⟩ := h
  refine ⟨ls, c, b1, b2.1, fun e => ?_⟩
  rw [← em_keys, ← gix_some]
  constructor
  · rintro ⟨v, hv⟩
    exact (b4 e v hv).2.1
  · intro hne
    cases h : lk ls e with
    | none => exact absurd (b3 e h) hne
    | some v => exact ⟨v, rfl⟩

/-- What an edge counts at each of its triangles. -/
def fE (L : List (Int × Int × Int)) (e : Int × Int × Int × Int) : Nat := if cnt L e.1 e.2.1 e.2.2.1 e.2.2.2 = 2 then 1 else 2
def g3 (L : List (Int × Int × Int)) (t : Int × Int × Int) : Nat := fE L (edg t 0) + fE L (edg t 1) + fE L (edg t 2)
theorem cnt_filter (L : List (Int × Int × Int)) (e : Int × Int × Int × Int) : cnt L e.1 e.2.1 e.2.2.1 e.2.2.2 = (L.filter fun t => hasT t e).length := by
  unfold cnt
  rw [List.countP_eq_length_filter]
  rfl
theorem cnt_two {L : List (Int × Int × Int)} (hnd : L.Nodup) (hk : ∀ t ∈ L, Kd t) {e : Int × Int × Int × Int} (h : ∃ t ∈ L, hasT t e = true) : (L.filter fun t => hasT t e).length * fE L e = 2 := by
  obtain ⟨t, ht, hh⟩ := h
  have h1 : 1 ≤ (L.filter fun t => hasT t e).length := List.length_pos_of_mem (List.mem_filter.2 ⟨ht, hh⟩)
  have h2 : (L.filter fun t => hasT t e).length ≤ [t, acr t e].length := sub_len _ _ (hnd.filter _) (fun u hu => by
    obtain ⟨hu1, hu2⟩ := List.mem_filter.1 hu
    by_cases e2 : u = t
    · simp [e2]
    · have := acr_is (hk t ht) (hk u hu1) hh hu2 e2
      simp [this])
  have h3 : (L.filter fun t => hasT t e).length = 1 ∨ (L.filter fun t => hasT t e).length = 2 := by simp at h2; omega
  unfold fE
  rw [cnt_filter]
  rcases h3 with h3 | h3 <;> rw [h3] <;> simp
theorem sum_one {α : Type} [DecidableEq α] (f : α → Nat) (x : α) : ∀ (E : List α), E.Nodup → x ∈ E → (E.map fun e => if e = x then f e else 0).sum = f x
  | [], _, h => by cases h
  | a :: E, hn, h => by
    obtain ⟨h1, h2⟩ := List.nodup_cons.1 hn
    rw [List.map_cons, List.sum_cons]
    by_cases e : a = x
    · subst e
      have : (E.map fun e => if e = a then f e else 0) = E.map fun _ => 0 := List.map_congr_left (fun e he => by
        rw [if_neg]
        exact fun q => h1 (q ▸ he))
      rw [this, if_pos rfl]
      have : ∀ l : List α, (l.map fun _ => 0).sum = 0 := fun l => by induction l with
        | nil => rfl
        | cons b l ih => rw [List.map_cons, List.sum_cons, ih]
      rw [this]
      rfl
    · rw [if_neg e, sum_one f x E h2 (by rcases List.mem_cons.1 h with h | h; exact absurd h.symm e; exact h)]
      omega
theorem sum_add {α : Type} (f g : α → Nat) : ∀ E : List α, (E.map fun e => f e + g e).sum = (E.map f).sum + (E.map g).sum
  | [] => rfl
  | a :: E => by
    rw [List.map_cons, List.sum_cons, List.map_cons, List.sum_cons, List.map_cons, List.sum_cons, sum_add f g E]
    omega
theorem sum_swap {α β : Type} (f : α → β → Nat) (E : List β) : ∀ L : List α, (L.map fun t => (E.map fun e => f t e).sum).sum = (E.map fun e => (L.map fun t => f t e).sum).sum
  | [] => by
    have : ∀ l : List β, (l.map fun _ => 0).sum = 0 := fun l => by induction l with
      | nil => rfl
      | cons b l ih => rw [List.map_cons, List.sum_cons, ih]
    simp [this]
  | a :: L => by
    rw [List.map_cons, List.sum_cons, sum_swap f E L, ← sum_add]
    rfl
theorem sum_ind (L : List (Int × Int × Int)) (p : Int × Int × Int → Bool) (c : Nat) : (L.map fun t => if p t = true then c else 0).sum = (L.filter p).length * c := by
  induction L with
  | nil => simp
  | cons a L ih =>
    rw [List.map_cons, List.sum_cons, ih, List.filter_cons]
    by_cases h : p a = true
    · rw [if_pos h, if_pos h, List.length_cons, Nat.add_mul]
      omega
    · rw [if_neg h, if_neg h]
      omega
/-- All edges are told twice, in all. -/
theorem edges_twice {L : List (Int × Int × Int)} {E : List (Int × Int × Int × Int)} (hE : EdgeSet L E) (hnd : L.Nodup) (hk : ∀ t ∈ L, Kd t) : (L.map (g3 L)).sum = 2 * E.length := by
  have h1 : L.map (g3 L) = L.map fun t => (E.map fun e => if hasT t e = true then fE L e else 0).sum := List.map_congr_left (fun t ht => by
    obtain ⟨n1, n2, n3⟩ := edg_ne (hk t ht)
    have hm : ∀ k, edg t k ∈ E := fun k => (hE.2 _).2 ⟨t, ht, edg_own t k⟩
    have h2 : (E.map fun e => if hasT t e = true then fE L e else 0) = E.map fun e => ((if e = edg t 0 then fE L e else 0) + (if e = edg t 1 then fE L e else 0)) + (if e = edg t 2 then fE L e else 0) := List.map_congr_left (fun e _ => by
      by_cases hh : hasT t e = true
      · obtain ⟨i, hi, he⟩ := hasT_edg hh
        have : i = 0 ∨ i = 1 ∨ i = 2 := by omega
        rw [if_pos hh]
        rcases this with rfl | rfl | rfl
        · rw [if_pos he.symm, if_neg (fun q => n1 (he.trans q)), if_neg (fun q => n2 (he.trans q))]
          omega
        · rw [if_pos he.symm, if_neg (fun q => n1 (he.trans q).symm), if_neg (fun q => n3 (he.trans q))]
          omega
        · rw [if_pos he.symm, if_neg (fun q => n2 (he.trans q).symm), if_neg (fun q => n3 (he.trans q).symm)]
          omega
      · rw [if_neg hh, if_neg, if_neg, if_neg] <;> exact fun q => hh (by rw [q]; exact edg_own _ _))
    rw [h2, sum_add, sum_add, sum_one _ _ E hE.1 (hm 0), sum_one _ _ E hE.1 (hm 1), sum_one _ _ E hE.1 (hm 2)]
    rfl)
  rw [h1, sum_swap]
  have h3 : (E.map fun e => (L.map fun t => if hasT t e = true then fE L e else 0).sum) = E.map fun _ => 2 := List.map_congr_left (fun e he => by
    rw [sum_ind L (fun t => hasT t e) (fE L e)]
    exact cnt_two hnd hk ((hE.2 e).1 he))
  rw [h3]
  clear h1 h3 hE
  induction E with
  | nil => rfl
  | cons a E ih =>
    rw [List.map_cons, List.sum_cons, ih, List.length_cons]
    omega
end Go.Proofs.YtoedcefbmbfnhabDoor
