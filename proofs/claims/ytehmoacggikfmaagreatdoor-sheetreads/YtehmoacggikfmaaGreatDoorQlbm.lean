/- What a crease's line says, case by case; a map of kinds. -/
import Derived.Test.YtehmoacggikfmaaGreatDoorQlbh
import Derived.Test.YtehmoacggikfmaaGreatDoorQlbl
import Derived.Test.YtehmoacggikfmaaGreatDoorQlax
namespace Go.Proofs.YtehmoacggikfmaaGreatDoor
open Go.RowKit Go.ChangeMaps

theorem crS_len {W H : Nat} {inn : E4 → Bool} {cs : List C5} {ws : List (List UInt8)} (h : ws.length ≠ 5) : crS W H inn cs ws = (1, cs) := by
  unfold crS
  rw [if_pos (Or.inl h)]
theorem crS_kind {W H : Nat} {inn : E4 → Bool} {cs : List C5} {x0 x1 x2 x3 x4 : List UInt8} (h : kdW x0 = 0) : crS W H inn cs [x0, x1, x2, x3, x4] = (1, cs) := by
  unfold crS
  rw [if_pos (show [x0, x1, x2, x3, x4].length ≠ 5 ∨ kdW (getW [x0, x1, x2, x3, x4] 0) = 0 from Or.inr h)]
theorem crS_num {W H : Nat} {inn : E4 → Bool} {cs : List C5} {x0 x1 x2 x3 x4 : List UInt8} (hk : kdW x0 ≠ 0) (h : num x1 = none ∨ num x2 = none ∨ num x3 = none ∨ num x4 = none) : crS W H inn cs [x0, x1, x2, x3, x4] = (1, cs) := by
  unfold crS
  rw [if_neg (by simp [getW, hk])]
  simp only [getW, List.getD_cons_zero, List.getD_cons_succ]
  cases h1 : num x1 <;> cases h2 : num x2 <;> cases h3 : num x3 <;> cases h4 : num x4 <;> simp_all
theorem crS_eq {W H : Nat} {inn : E4 → Bool} {cs : List C5} {x0 x1 x2 x3 x4 : List UInt8} {a b c d : Nat} (hk : kdW x0 ≠ 0) (h1 : num x1 = some a) (h2 : num x2 = some b) (h3 : num x3 = some c) (h4 : num x4 = some d) :
    crS W H inn cs [x0, x1, x2, x3, x4] = if !(wthn W H a b && wthn W H c d) || (egs a b c d).isEmpty then (3, cs) else if !((egs a b c d).all inn) then (5, cs) else if (egs a b c d).any (fun e => decide (kdc cs e ≠ 0)) then (6, cs) else (0, putA cs (egs a b c d) (kdW x0)) := by
  unfold crS
  rw [if_neg (by simp [getW, hk])]
  simp only [getW, List.getD_cons_zero, List.getD_cons_succ, h1, h2, h3, h4]
theorem crS_out {W H : Nat} {inn : E4 → Bool} {cs : List C5} {x0 x1 x2 x3 x4 : List UInt8} {a b c d : Nat} (hk : kdW x0 ≠ 0) (h1 : num x1 = some a) (h2 : num x2 = some b) (h3 : num x3 = some c) (h4 : num x4 = some d) (h : wthn W H a b = false ∨ wthn W H c d = false ∨ egs a b c d = []) : crS W H inn cs [x0, x1, x2, x3, x4] = (3, cs) := by
  rw [crS_eq hk h1 h2 h3 h4, if_pos]
  rcases h with h | h | h <;> simp [h]
theorem crS_place {W H : Nat} {inn : E4 → Bool} {cs : List C5} {x0 x1 x2 x3 x4 : List UInt8} {a b c d i : Nat} (hk : kdW x0 ≠ 0) (h1 : num x1 = some a) (h2 : num x2 = some b) (h3 : num x3 = some c) (h4 : num x4 = some d) (w1 : wthn W H a b = true) (w2 : wthn W H c d = true) (hi : i < (egs a b c d).length) (hn : inn ((egs a b c d)[i]) = false) : crS W H inn cs [x0, x1, x2, x3, x4] = (5, cs) := by
  have h5 : (egs a b c d).isEmpty = false := by
    cases he : egs a b c d with
    | nil => rw [he] at hi; simp at hi
    | cons => rfl
  have h6 : (egs a b c d).all inn = false := by
    rw [List.all_eq_false]
    exact ⟨_, List.getElem_mem hi, by simp [hn]⟩
  rw [crS_eq hk h1 h2 h3 h4, if_neg (by simp [w1, w2, h5]), if_pos (by simp only [h6, Bool.not_false])]
theorem crS_twice {W H : Nat} {inn : E4 → Bool} {cs : List C5} {x0 x1 x2 x3 x4 : List UInt8} {a b c d i : Nat} (hk : kdW x0 ≠ 0) (h1 : num x1 = some a) (h2 : num x2 = some b) (h3 : num x3 = some c) (h4 : num x4 = some d) (w1 : wthn W H a b = true) (w2 : wthn W H c d = true) (ha : ∀ e ∈ egs a b c d, inn e = true) (hi : i < (egs a b c d).length) (hn : kdc cs ((egs a b c d)[i]) ≠ 0) : crS W H inn cs [x0, x1, x2, x3, x4] = (6, cs) := by
  have h5 : (egs a b c d).isEmpty = false := by
    cases he : egs a b c d with
    | nil => rw [he] at hi; simp at hi
    | cons => rfl
  have h6 : (egs a b c d).all inn = true := by rw [List.all_eq_true]; exact ha
  have h7 : (egs a b c d).any (fun e => decide (kdc cs e ≠ 0)) = true := by
    rw [List.any_eq_true]
    exact ⟨_, List.getElem_mem hi, by simpa using hn⟩
  rw [crS_eq hk h1 h2 h3 h4, if_neg (by simp [w1, w2, h5]), if_neg (by simp only [h6]; simp), if_pos h7]
theorem crS_ok {W H : Nat} {inn : E4 → Bool} {cs : List C5} {x0 x1 x2 x3 x4 : List UInt8} {a b c d : Nat} (hk : kdW x0 ≠ 0) (h1 : num x1 = some a) (h2 : num x2 = some b) (h3 : num x3 = some c) (h4 : num x4 = some d) (w1 : wthn W H a b = true) (w2 : wthn W H c d = true) (h5 : egs a b c d ≠ []) (ha : ∀ e ∈ egs a b c d, inn e = true) (hn : ∀ e ∈ egs a b c d, kdc cs e = 0) : crS W H inn cs [x0, x1, x2, x3, x4] = (0, putA cs (egs a b c d) (kdW x0)) := by
  have h5 : (egs a b c d).isEmpty = false := by
    cases he : egs a b c d with
    | nil => exact absurd he h5
    | cons => rfl
  have h6 : (egs a b c d).all inn = true := by rw [List.all_eq_true]; exact ha
  have h7 : (egs a b c d).any (fun e => decide (kdc cs e ≠ 0)) = false := by
    rw [List.any_eq_false]
    intro e he
    simp [hn e he]
  rw [crS_eq hk h1 h2 h3 h4, if_neg (by simp [w1, w2, h5]), if_neg (by simp only [h6]; simp), if_neg (by rw [h7]; simp)]
/-- Creases in order, mountains and valleys. -/
def CsOk (cs : List C5) : Prop := srtE cs ∧ ∀ x ∈ cs, x.2 = 1 ∨ x.2 = 2
theorem CsOk.nz {cs : List C5} (h : CsOk cs) : ∀ x ∈ cs, x.2 ≠ 0 := fun x hx => by rcases h.2 x hx with e | e <;> omega
theorem CsOk.not {cs : List C5} {e : E4} (h : CsOk cs) (hk : kdc cs e = 0) : ∀ x ∈ cs, x.1 ≠ e := fun x hx e1 => (kdc_ne h.nz h.1).2 ⟨x, hx, e1⟩ hk
theorem kdc_putC {c : C5} {e : E4} : ∀ {l : List C5}, (∀ x ∈ l, x.1 ≠ c.1) → kdc (putC l c) e = if e = c.1 then c.2 else kdc l e
  | [], _ => by
    simp only [putC, kdc]
    by_cases h : c.1 = e
    · rw [if_pos h, if_pos h.symm]
    · rw [if_neg h, if_neg (fun e1 => h e1.symm)]
  | a :: r, hx => by
    unfold putC
    split
    · rw [kdc]
      by_cases h : c.1 = e
      · rw [if_pos h, if_pos h.symm]
      · rw [if_neg h, if_neg (fun e1 => h e1.symm)]
    · rw [kdc, kdc_putC (fun x h => hx x (by simp [h])), kdc]
      by_cases h : a.1 = e
      · rw [if_pos h, if_pos h, if_neg (fun e1 => hx a (by simp) (h.trans e1))]
      · rw [if_neg h, if_neg h]
theorem putA_ok {cs : List C5} {es : List E4} {K : Int} (h : CsOk cs) (hnd : es.Nodup) (hz : ∀ e ∈ es, kdc cs e = 0) (hK : K = 1 ∨ K = 2) (i : Nat) : CsOk (putA cs (es.take i) K) ∧ ∀ j (hj : j < es.length), i ≤ j → kdc (putA cs (es.take i) K) es[j] = 0 := by
  have hsub : (es.take i).Sublist es := List.take_sublist _ _
  have h1 : srtE (putA cs (es.take i) K) := putA_srt K _ _ h.1 (hsub.nodup hnd) (fun x hx hm => h.not (hz _ (hsub.mem hm)) x hx rfl)
  refine ⟨⟨h1, fun x hx => ?_⟩, fun j hj hij => kdc_not fun x hx e1 => ?_⟩
  · rcases (putA_mem K x _ _).1 hx with hx | ⟨_, hx⟩
    · exact h.2 x hx
    · rw [hx]; exact hK
  · rcases (putA_mem K x _ _).1 hx with hx | ⟨hx, _⟩
    · exact h.not (hz _ (List.getElem_mem hj)) x hx e1
    · rw [e1] at hx
      obtain ⟨k, hk, he⟩ := List.mem_iff_getElem.1 hx
      rw [List.length_take] at hk
      rw [List.getElem_take] at he
      exact absurd he (List.pairwise_iff_getElem.1 hnd k j (by omega) hj (by omega))
/-- A map holds the kinds. -/
def KR (ls : EL) (cs : List C5) : Prop := ∀ e, lk ls e = if kdc cs e = 0 then none else some (.int .i64 (kdc cs e))
theorem KR.get {ls : EL} {cs : List C5} (h : KR ls cs) (e : E4) : (lk ls e).getD (.int .i64 0) = .int .i64 (kdc cs e) := by
  rw [h e]
  split
  · rename_i h0
    rw [h0]
    rfl
  · rfl
theorem KR.put {ls ls' : EL} {cs : List C5} {e : E4} {k : Int} (h : KR ls cs) (hc : CsOk cs) (hk : k ≠ 0) (hn : kdc cs e = 0) (hl : ∀ j, lk ls' j = if j = e then some (.int .i64 k) else lk ls j) : KR ls' (putC cs (e, k)) := fun j => by
  rw [hl j, kdc_putC (c := (e, k)) (hc.not hn)]
  by_cases he : j = e
  · simp [he, hk]
  · simp only [he, if_false]
    exact h j
/-- The map of kinds, in memory. -/
def KM (w : World) (kb : Nat) (cs : List C5) : Prop := ∃ ls c, EM w kb ls c ∧ Good ls c ∧ KR ls cs
theorem KM.lt {w : World} {kb : Nat} {cs : List C5} (h : KM w kb cs) : kb < w.heap.size := by
  obtain ⟨ls, c, h1, _⟩ := h
  exact h1.lt
theorem KM.kept {w wx : World} {kb : Nat} {cs : List C5} (h : KM w kb cs) (hb : Below w.heap.size w wx) : KM wx kb cs := by
  obtain ⟨ls, c, h1, h2, h3⟩ := h
  exact ⟨ls, c, h1.grown (bl_grown hb) (by simp), h2, h3⟩
theorem KM.grown {w wx : World} {kb r : Nat} {cs : List C5} (h : KM w kb cs) (hg : w.grownBy wx (some r)) (hne : kb ≠ r) : KM wx kb cs := by
  obtain ⟨ls, c, h1, h2, h3⟩ := h
  exact ⟨ls, c, h1.grown hg (by simpa using hne), h2, h3⟩
/-- What a crease's line answers. -/
def CrTo (w w' : World) (kb : Nat) (n : Int) (r : Int × List C5) (e : Ending) : Prop :=
  (e = PF r.1 n ∧ r.1 ≠ 0 ∧ Below w.heap.size w w') ∨ (e = .returned (.tuple #[]) ∧ r.1 = 0 ∧ KM w' kb r.2 ∧ CsOk r.2 ∧ w.grownBy w' (some kb))
theorem CrTo.no {w w' : World} {kb : Nat} {n c : Int} {r : Int × List C5} {cs : List C5} {e : Ending} (hr : r = (c, cs)) (hc : c ≠ 0) (h : e = PF c n ∧ Below w.heap.size w w') : CrTo w w' kb n r e := by
  subst hr
  exact Or.inl ⟨h.1, hc, h.2⟩
theorem inn_of (L : List (Int × Int × Int)) (e : E4) : decide (cnt L e.1 e.2.1 e.2.2.1 e.2.2.2 = 2) = (fun e : E4 => decide (cnt L e.1 e.2.1 e.2.2.1 e.2.2.2 = 2)) e := rfl
/-- Edges in memory. -/
def ER (w : World) (a : Option Addr) (l : List E4) : Prop := ∀ i (h : i < l.length), ∃ g, a = some ⟨g, 0, none⟩ ∧ w.cell? ⟨g, i * 4, none⟩ = some (.int .i64 l[i].1) ∧ w.cell? ⟨g, i * 4 + 1, none⟩ = some (.int .i64 l[i].2.1) ∧ w.cell? ⟨g, i * 4 + 2, none⟩ = some (.int .i64 l[i].2.2.1) ∧ w.cell? ⟨g, i * 4 + 3, none⟩ = some (.int .i64 l[i].2.2.2)
theorem ER.kept {w wx : World} {a : Option Addr} {l : List E4} (h : ER w a l) (hb : Below w.heap.size w wx) : ER wx a l := fun i hi => by
  obtain ⟨g, e, h0, h1, h2, h3⟩ := h i hi
  exact ⟨g, e, cl_kept hb h0, cl_kept hb h1, cl_kept hb h2, cl_kept hb h3⟩
theorem flE_length : ∀ l : List E4, (flE l).length = l.length * 4
  | [] => rfl
  | e :: r => by
    rw [show e :: r = [e] ++ r from rfl, flE_add, List.length_append, flE_length r, List.length_append]
    simp [flE]
    omega
theorem flE_at : ∀ (l : List E4) (i : Nat) (h : i < l.length), (flE l)[i * 4]? = some (.int .i64 l[i].1) ∧ (flE l)[i * 4 + 1]? = some (.int .i64 l[i].2.1) ∧ (flE l)[i * 4 + 2]? = some (.int .i64 l[i].2.2.1) ∧ (flE l)[i * 4 + 3]? = some (.int .i64 l[i].2.2.2)
  | e :: r, 0, _ => by simp [flE]
  | e :: r, i + 1, h => by
    have ih := flE_at r i (by simpa using h)
    have e1 : flE (e :: r) = .int .i64 e.1 :: .int .i64 e.2.1 :: .int .i64 e.2.2.1 :: .int .i64 e.2.2.2 :: flE r := rfl
    rw [e1, show (i + 1) * 4 = i * 4 + 1 + 1 + 1 + 1 by omega, show i * 4 + 1 + 1 + 1 + 1 + 1 = (i * 4 + 1) + 1 + 1 + 1 + 1 by omega, show i * 4 + 1 + 1 + 1 + 1 + 2 = (i * 4 + 2) + 1 + 1 + 1 + 1 by omega, show i * 4 + 1 + 1 + 1 + 1 + 3 = (i * 4 + 3) + 1 + 1 + 1 + 1 by omega]
    simpa using ih
theorem ER.grown {w wx : World} {a : Option Addr} {l : List E4} {r : Nat} (h : ER w a l) (hg : w.grownBy wx (some r)) (hne : ∀ g, a = some ⟨g, 0, none⟩ → g ≠ r) : ER wx a l := fun i hi => by
  obtain ⟨g, e, h0, h1, h2, h3⟩ := h i hi
  have q := hne g e
  exact ⟨g, e, grown_cl hg q h0, grown_cl hg q h1, grown_cl hg q h2, grown_cl hg q h3⟩
theorem own_edges {w : World} {base : Nat} {v : Value} {l : List E4} (h : w.ownsRow base 53 4 v l.length (flE l)) : ∃ a cap, v = .slice a l.length cap ∧ ER w a l ∧ ∀ g, a = some ⟨g, 0, none⟩ → base ≤ g := by
  rcases h.2 with ⟨rfl, h0⟩ | ⟨g, cap, cur, rfl, _⟩
  · exact ⟨none, 0, by rw [h0], fun i hi => by omega, fun g e => by cases e⟩
  · refine ⟨some ⟨g, 0, none⟩, cap, rfl, fun i hi => ⟨g, rfl, ?_⟩, fun g' e => by cases e; exact (h.lt g rfl).1⟩
    have f := flE_at l i hi
    exact ⟨(h.cellAt _ (by omega)).trans f.1, (h.cellAt _ (by omega)).trans f.2.1, (h.cellAt _ (by omega)).trans f.2.2.1, (h.cellAt _ (by omega)).trans f.2.2.2⟩
end Go.Proofs.YtehmoacggikfmaaGreatDoor
