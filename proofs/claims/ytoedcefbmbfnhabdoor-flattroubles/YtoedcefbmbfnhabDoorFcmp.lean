/- The code's faces and the reference's are the same lists. -/
import Derived.Test.YtoedcefbmbfnhabDoorRfac
namespace Go.Proofs.YtoedcefbmbfnhabDoor
open Go.RowKit

theorem adjC_le {cr : Int × Int × Int × Int → Bool} {L : List (Int × Int × Int)} {who : Nat → Nat} (hnd : L.Nodup) (hk : ∀ t ∈ L, Kd t) (hO : ∀ i e, i < L.length → e < 3 → OkC cr L who i e) {a b : Nat} (ha : a < L.length) (hb : b < L.length) (h : AdjC cr L[a] L[b]) : who a ≤ who b := by
  obtain ⟨hne, e, e1, e2, e3⟩ := h
  obtain ⟨k, hk3, hke⟩ := hasT_edg e1
  have h1 := hO a k ha hk3 ha (by rw [hke]; exact e3) b hb
  apply h1
  rw [hke, ← acr_is (hk _ (List.getElem_mem ha)) (hk _ (List.getElem_mem hb)) e1 e2 hne]
  unfold plc
  rw [if_pos (List.getElem_mem hb)]
  have : L.idxOf L[b] = b := hnd.idxOf_getElem b hb
  rw [this]
theorem reachC_who {cr : Int × Int × Int × Int → Bool} {L : List (Int × Int × Int)} {f : Nat → Int} (hnd : L.Nodup) (hA : ∀ a b (ha : a < L.length) (hb : b < L.length), AdjC cr L[a] L[b] → f a = f b) {a b : Nat} (ha : a < L.length) (hb : b < L.length) (h : ReachC cr L L[a] L[b]) : f a = f b := by
  have h1 := h.2 (fun u => u ∈ L ∧ ∀ c (hc : c < L.length), L[c] = u → f a = f c) ⟨List.getElem_mem ha, fun c hc e => by
    have : c = a := by rw [← hnd.idxOf_getElem c hc, e, hnd.idxOf_getElem a ha]
    rw [this]⟩ (fun u v hu hv huv => by
    refine ⟨hv, fun c hc e => ?_⟩
    obtain ⟨d, hd, e2⟩ := List.getElem_of_mem hu.1
    have h3 := hu.2 d hd e2
    rw [h3]
    exact hA d c hd hc (by rw [e, e2]; exact huv))
  exact h1.2 b hb rfl
theorem same_group {cr : Int × Int × Int × Int → Bool} {L : List (Int × Int × Int)} {who : Nat → Nat} {part : Nat → Int} (hnd : L.Nodup) (hk : ∀ t ∈ L, Kd t) (hP : PartsOk cr L part) (hI : InvC cr L who) (hO : ∀ i e, i < L.length → e < 3 → OkC cr L who i e) {a b : Nat} (ha : a < L.length) (hb : b < L.length) : who a = who b ↔ part a = part b := by
  have hw : ∀ a b (ha : a < L.length) (hb : b < L.length), AdjC cr L[a] L[b] → ((who a : Int)) = (who b : Int) := fun a b ha hb h => by
    have h1 := adjC_le hnd hk hO ha hb h
    have h2 := adjC_le hnd hk hO hb ha h.symm
    omega
  constructor
  · intro e
    obtain ⟨_, q1, r1⟩ := hI a ha
    obtain ⟨_, q2, r2⟩ := hI b hb
    have r3 : ReachC cr L L[a] L[b] := by
      have r2' := r2.symm
      have e2 : L[who b] = L[who a] := by simp only [e]
      rw [e2] at r2'
      exact r1.trans r2'
    exact reachC_who hnd (fun a b ha hb h => (hP.2.1 a b ha hb h).symm) ha hb r3
  · intro e
    have h1 := reachC_who (f := fun a => (who a : Int)) hnd hw ha hb (hP.2.2.1 a b ha hb e)
    omega
theorem first_group {cr : Int × Int × Int × Int → Bool} {L : List (Int × Int × Int)} {who : Nat → Nat} {part : Nat → Int} (hnd : L.Nodup) (hk : ∀ t ∈ L, Kd t) (hP : PartsOk cr L part) (hI : InvC cr L who) (hO : ∀ i e, i < L.length → e < 3 → OkC cr L who i e) {i : Nat} (hi : i < L.length) : who i = i ↔ ∀ b, b < i → part b ≠ part i := by
  constructor
  · intro e b hb he
    have h1 := (same_group hnd hk hP hI hO (by omega : b < L.length) hi).2 he
    have h2 := (hI b (by omega)).1
    omega
  · intro h
    obtain ⟨h1, q, r⟩ := hI i hi
    rcases Nat.lt_or_ge (who i) i with h2 | h2
    · have h3 := reachC_who hnd (fun a b ha hb h => (hP.2.1 a b ha hb h).symm) hi q r
      exact absurd h3.symm (h _ h2)
    · omega
/-- Those of a number, of the first k. -/
def selP (L : List (Int × Int × Int)) (part : Nat → Int) (c : Int) : Nat → List (Int × Int × Int)
  | 0 => []
  | k + 1 => if part k = c then selP L part c k ++ [L.getD k (0, 0, 0)] else selP L part c k
theorem sel_selP {L : List (Int × Int × Int)} {who : Nat → Nat} {part : Nat → Int} {i : Nat} {c : Int} : ∀ k, (∀ a, a < k → (who a = i ↔ part a = c)) → sel L who i k = selP L part c k
  | 0, _ => rfl
  | k + 1, h => by
    unfold sel selP
    rw [sel_selP k (fun a ha => h a (by omega))]
    by_cases e : who k = i
    · rw [if_pos e, if_pos ((h k (by omega)).1 e)]
    · rw [if_neg e, if_neg (fun q => e ((h k (by omega)).2 q))]
theorem selP_none {L : List (Int × Int × Int)} {part : Nat → Int} {c : Int} : ∀ k, (∀ a, a < k → part a ≠ c) → selP L part c k = []
  | 0, _ => rfl
  | k + 1, h => by
    unfold selP
    rw [if_neg (h k (by omega)), selP_none k (fun a ha => h a (by omega))]
theorem fcs_eq {L : List (Int × Int × Int)} {part : Nat → Int} {n : Nat} (h : NumOk part n) : ∀ i, i ≤ n → fcs L part i = (List.range (fcs L part i).length).map fun c : Nat => selP L part (c : Int) i
  | 0, _ => by simp [fcs]
  | i + 1, hi => by
    have ih := fcs_eq (L := L) h i (by omega)
    obtain ⟨h1, h2⟩ := fcs_has L part h i (by omega)
    have h3 := h2 (by omega)
    have h0 := h.1 i (by omega)
    obtain ⟨p, hp⟩ : ∃ p : Nat, part i = (p : Int) := ⟨(part i).toNat, by omega⟩
    have hpn : (part i).toNat = p := by omega
    have hl : (fcs L part (i + 1)).length = if p = (fcs L part i).length then (fcs L part i).length + 1 else (fcs L part i).length := by rw [fcs, putF_len, hpn]
    refine List.ext_getElem (by simp) (fun m hm1 hm2 => ?_)
    rw [List.getElem_map, List.getElem_range]
    have hs : selP L part (m : Int) (i + 1) = if p = m then selP L part (m : Int) i ++ [L.getD i (0, 0, 0)] else selP L part (m : Int) i := by
      rw [selP]
      by_cases e : p = m
      · rw [if_pos (by omega), if_pos e]
      · rw [if_neg (by omega), if_neg e]
    rw [hs]
    have hg : ∀ (q : m < (fcs L part i).length), (fcs L part i)[m] = selP L part (m : Int) i := fun q => by
      have := congrArg (fun l => l[m]?) ih
      simp only [List.getElem?_map] at this
      rw [List.getElem?_eq_getElem q, List.getElem?_range q] at this
      simpa using this
    have hgg : ∀ (q : m < (grwF (fcs L part i) p).length), (grwF (fcs L part i) p)[m] = selP L part (m : Int) i := fun q => by
      by_cases e : m < (fcs L part i).length
      · rw [← hg e]
        simp only [grwF]
        split
        · exact List.getElem_append_left e
        · rfl
      · have q2 := q
        rw [grwF_len] at q2
        have e2 : p = (fcs L part i).length := by
          by_cases e3 : p = (fcs L part i).length
          · exact e3
          · rw [if_neg e3] at q2
            omega
        rw [if_pos e2] at q2
        have e4 : m = (fcs L part i).length := by omega
        rw [selP_none i (fun a ha q3 => by have := h1 a ha; omega)]
        simp only [grwF, if_pos e2]
        subst e4
        simp
    have hm3 : m < (grwF (fcs L part i) p).length := by
      rw [grwF_len, ← hl]
      exact hm1
    simp only [fcs, putF, hpn]
    by_cases e : p = m
    · subst e
      rw [if_pos rfl, List.getElem_set_self, List.getD_eq_getElem?_getD, List.getElem?_eq_getElem hm3, Option.getD_some, hgg hm3]
    · rw [if_neg e, List.getElem_set_ne e, hgg hm3]
/-- Each number below has come up. -/
theorem fcs_come (L : List (Int × Int × Int)) (part : Nat → Int) {n : Nat} (h : NumOk part n) : ∀ i, i ≤ n → ∀ c : Nat, c < (fcs L part i).length → ∃ b, b < i ∧ part b = (c : Int)
  | 0, _, c, hc => by simp [fcs] at hc
  | i + 1, hi, c, hc => by
    have h0 := h.1 i (by omega)
    have h3 := (fcs_has L part h i (by omega)).2 (by omega)
    rw [fcs, putF_len] at hc
    by_cases e : c < (fcs L part i).length
    · obtain ⟨b, hb, he⟩ := fcs_come L part h i (by omega) c e
      exact ⟨b, by omega, he⟩
    · split at hc
      · exact ⟨i, by omega, by omega⟩
      · omega
theorem rfs_eq {cr : Int × Int × Int × Int → Bool} {L : List (Int × Int × Int)} {who : Nat → Nat} {part : Nat → Int} (hnd : L.Nodup) (hk : ∀ t ∈ L, Kd t) (hP : PartsOk cr L part) (hI : InvC cr L who) (hO : ∀ i e, i < L.length → e < 3 → OkC cr L who i e) : ∀ i, i ≤ L.length → rfs L who i = (List.range (fcs L part i).length).map fun c : Nat => selP L part (c : Int) L.length
  | 0, _ => by simp [rfs, fcs]
  | i + 1, hi => by
    have ih := rfs_eq hnd hk hP hI hO i (by omega)
    have h0 := hP.1 i (by omega)
    obtain ⟨h1, h2⟩ := fcs_has L part hP.num i (by omega)
    have h3 := h2 (by omega)
    have hl : (fcs L part (i + 1)).length = if (part i).toNat = (fcs L part i).length then (fcs L part i).length + 1 else (fcs L part i).length := by rw [fcs, putF_len]
    by_cases e : (part i).toNat = (fcs L part i).length
    · rw [if_pos e] at hl
      have hw : who i = i := (first_group hnd hk hP hI hO (by omega)).2 (fun b hb q => by have := h1 b hb; omega)
      rw [rfs, if_pos hw, ih, hl, List.range_succ, List.map_append]
      congr 1
      simp only [List.map_cons, List.map_nil]
      congr 1
      refine sel_selP L.length (fun a ha => ?_)
      have h5 := same_group hnd hk hP hI hO ha (by omega : i < L.length)
      rw [hw] at h5
      rw [h5]
      constructor
      · intro q
        omega
      · intro q
        omega
    · rw [if_neg e] at hl
      have hw : ¬ who i = i := fun q => by
        obtain ⟨b, hb, he⟩ := fcs_come L part hP.num i (by omega) (part i).toNat (by omega)
        exact (first_group hnd hk hP hI hO (by omega)).1 q b hb (by omega)
      rw [rfs, if_neg hw, ih, hl]
/-- The two ways come to the same lists. -/
theorem faces_same {cr : Int × Int × Int × Int → Bool} {L : List (Int × Int × Int)} {who : Nat → Nat} {part : Nat → Int} (hnd : L.Nodup) (hk : ∀ t ∈ L, Kd t) (hP : PartsOk cr L part) (hI : InvC cr L who) (hO : ∀ i e, i < L.length → e < 3 → OkC cr L who i e) : fcs L part L.length = rfs L who L.length := by
  rw [rfs_eq hnd hk hP hI hO L.length (Nat.le_refl _)]
  exact fcs_eq hP.num L.length (Nat.le_refl _)
end Go.Proofs.YtoedcefbmbfnhabDoor
