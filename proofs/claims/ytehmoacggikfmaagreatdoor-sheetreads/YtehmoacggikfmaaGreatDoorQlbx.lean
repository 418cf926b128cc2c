/- Creases as the reference has them: the mathematics. -/
import Derived.Test.YtehmoacggikfmaaGreatDoorQlbw
import Derived.Test.YtehmoacggikfmaaGreatDoorQlbn
import Derived.Test.YtehmoacggikfmaaGreatDoorQlbl
import Derived.Test.YtehmoacggikfmaaGreatDoorQlbr
namespace Go.Proofs.YtehmoacggikfmaaGreatDoor
open Go.RowKit

theorem putA_same {cs : List C5} {l1 l2 : List E4} {K : Int} (h : CsOk cs) (n1 : l1.Nodup) (n2 : l2.Nodup) (hm : ∀ e, e ∈ l1 ↔ e ∈ l2) (hz : ∀ e ∈ l2, kdc cs e = 0) (hK : K = 1 ∨ K = 2) : putA cs l1 K = putA cs l2 K := by
  have a1 := (putA_ok h n1 (fun e he => hz e ((hm e).1 he)) hK l1.length).1
  have a2 := (putA_ok h n2 hz hK l2.length).1
  rw [List.take_length] at a1 a2
  refine srt_ext a1.1 a2.1 (fun x => ?_)
  rw [putA_mem, putA_mem, hm]
/-- The creases' numbers, one behind the other. -/
def ksOf (cs : List C5) : List Int := cs.flatMap fun x => [x.1.1, x.1.2.1, x.1.2.2.1, x.1.2.2.2, x.2]
theorem ksOf_len : ∀ cs : List C5, (ksOf cs).length = cs.length * 5
  | [] => rfl
  | x :: r => by
    have := ksOf_len r
    unfold ksOf at *
    rw [List.flatMap_cons, List.length_append, this]
    simp
    omega
theorem ks_at : ∀ (cs : List C5) (i : Nat) (h : i < cs.length), ck (ksOf cs) i 0 = cs[i].1.1 ∧ ck (ksOf cs) i 1 = cs[i].1.2.1 ∧ ck (ksOf cs) i 2 = cs[i].1.2.2.1 ∧ ck (ksOf cs) i 3 = cs[i].1.2.2.2 ∧ ck (ksOf cs) i 4 = cs[i].2
  | x :: r, 0, _ => by simp [ck, ksOf]
  | x :: r, i + 1, h => by
    have ih := ks_at r i (by simpa using h)
    have e : ∀ j, ck (ksOf (x :: r)) (i + 1) j = ck (ksOf r) i j := fun j => by
      unfold ck
      have e1 : ksOf (x :: r) = x.1.1 :: x.1.2.1 :: x.1.2.2.1 :: x.1.2.2.2 :: x.2 :: ksOf r := rfl
      rw [e1, show (i + 1) * 5 + j = (i * 5 + j) + 1 + 1 + 1 + 1 + 1 by omega]
      simp only [List.getD_cons_succ]
    rw [e, e, e, e, e]
    simpa using ih
theorem j_crow {w : World} {ca : Option Addr} {cs : List C5} (h : JRow w ca cs) : CRow w ca (ksOf cs) cs.length := fun i hi => by
  obtain ⟨g, e, h0, h1, h2, h3, h4⟩ := h i hi
  obtain ⟨k0, k1, k2, k3, k4⟩ := ks_at cs i hi
  rw [k0, k1, k2, k3, k4]
  exact ⟨g, 0, e, by rw [Nat.zero_add]; exact h0, by rw [Nat.zero_add]; exact h1, by rw [Nat.zero_add]; exact h2, by rw [Nat.zero_add]; exact h3, by rw [Nat.zero_add]; exact h4⟩
theorem ks_edge {cs : List C5} {i : Nat} (hi : i < cs.length) : (ck (ksOf cs) i 0, ck (ksOf cs) i 1, ck (ksOf cs) i 2, ck (ksOf cs) i 3) = cs[i].1 := by
  obtain ⟨k0, k1, k2, k3, _⟩ := ks_at cs i hi
  rw [k0, k1, k2, k3]
theorem cr_one {cs : List C5} (h : srtE cs) : CrOne (ksOf cs) cs.length := fun i j hij hj => by
  rw [ks_edge (by omega), ks_edge hj]
  intro e
  have h2 := List.pairwise_iff_getElem.1 h i j (by omega) hj hij
  rw [e, ltE_irr] at h2
  cases h2
theorem kdn_kdc {cs : List C5} (h : srtE cs) (e : E4) : kdn (ksOf cs) cs.length e = kdc cs e := by
  by_cases hx : ∃ i, ∃ hi : i < cs.length, cs[i].1 = e
  · obtain ⟨i, hi, he⟩ := hx
    rw [kdn_at (cr_one h) hi (by rw [ks_edge hi, he]), (ks_at cs i hi).2.2.2.2]
    refine (kdc_in (k := cs[i].2) h ?_).symm
    rw [← he]
    exact List.getElem_mem hi
  · rw [kdn_not (fun i hi e1 => hx ⟨i, hi, by rw [e1, ks_edge hi]⟩), kdc_not (fun x hxm e1 => hx ?_)]
    obtain ⟨i, hi, rfl⟩ := List.mem_iff_getElem.1 hxm
    exact ⟨i, hi, e1⟩
/-- crS over the reference's list of edges. -/
theorem crR_eq {W H : Nat} {inn : E4 → Bool} {cs : List C5} {x0 x1 x2 x3 x4 : List UInt8} {a b c d : Nat} (hco : CsOk cs) (hk : kdW x0 = 1 ∨ kdW x0 = 2) (h1 : num x1 = some a) (h2 : num x2 = some b) (h3 : num x3 = some c) (h4 : num x4 = some d) (w1 : wthn W H a b = true) (w2 : wthn W H c d = true) :
    crS W H inn cs [x0, x1, x2, x3, x4] = if egR a b c d = [] then (3, cs) else if (egR a b c d).all inn = false then (5, cs) else if (egR a b c d).any (fun e => decide (kdc cs e ≠ 0)) = true then (6, cs) else (0, putA cs (egR a b c d) (kdW x0)) := by
  have p1 := wthn_par w1
  have p2 := wthn_par w2
  have hm : ∀ e, e ∈ egR (a : Int) b c d ↔ e ∈ egs (a : Int) b c d := egR_mem (by omega) (by omega)
  have hnd : (egR (a : Int) b c d).Nodup := egR_nodup (by omega) (by omega)
  rw [crS_eq (by omega) h1 h2 h3 h4, w1, w2]
  have e1 : ((!(true && true) || (egs (a : Int) b c d).isEmpty) = true) = (egR (a : Int) b c d = []) := by
    simp only [Bool.and_self, Bool.not_true, Bool.false_or, List.isEmpty_iff, eq_iff_iff]
    constructor
    · intro h
      exact List.eq_nil_iff_forall_not_mem.2 (fun e he => by have := (hm e).1 he; rw [h] at this; simp at this)
    · intro h
      exact List.eq_nil_iff_forall_not_mem.2 (fun e he => by have := (hm e).2 he; rw [h] at this; simp at this)
  have e2 : ((!(egs (a : Int) b c d).all inn) = true) = ((egR (a : Int) b c d).all inn = false) := by
    rw [Bool.not_eq_true', eq_iff_iff, List.all_eq_false, List.all_eq_false]
    exact ⟨fun ⟨x, hx, h⟩ => ⟨x, (hm x).2 hx, h⟩, fun ⟨x, hx, h⟩ => ⟨x, (hm x).1 hx, h⟩⟩
  have e3 : ((egs (a : Int) b c d).any (fun e => decide (kdc cs e ≠ 0)) = true) = ((egR (a : Int) b c d).any (fun e => decide (kdc cs e ≠ 0)) = true) := by
    rw [eq_iff_iff, List.any_eq_true, List.any_eq_true]
    exact ⟨fun ⟨x, hx, h⟩ => ⟨x, (hm x).2 hx, h⟩, fun ⟨x, hx, h⟩ => ⟨x, (hm x).1 hx, h⟩⟩
  simp only [e1, e2, e3]
  split
  · rfl
  · split
    · rfl
    · split
      · rfl
      · rename_i hz
        rw [putA_same hco hnd (egs_nodup _ _ _ _) hm (fun e he => ?_) hk]
        refine Classical.byContradiction fun h0 => hz ?_
        rw [List.any_eq_true]
        exact ⟨e, (hm e).2 he, by simpa using h0⟩
theorem wthn_iff {W H a b : Nat} : wthn W H a b = true ↔ a ≤ 2 * W ∧ b ≤ 2 * H ∧ (a + b) % 2 = 0 := by
  unfold wthn
  simp only [Bool.and_eq_true, decide_eq_true_eq]
  omega
theorem wthn_le {W H a b : Nat} (hW : W ≤ 8) (hH : H ≤ 8) (h : wthn W H a b = true) : a ≤ 16 ∧ b ≤ 16 := by
  have := wthn_iff.1 h
  omega
end Go.Proofs.YtehmoacggikfmaaGreatDoor
