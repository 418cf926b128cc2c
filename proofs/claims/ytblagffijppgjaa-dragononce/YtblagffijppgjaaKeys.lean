/- Steps by numbers: no number comes twice. -/
import Derived.Test.YtblagffijppgjaaLawt
import Derived.Test.YtblagffijppgjaaBack
namespace Go.Proofs.Ytblagffijppgjaa
open Go.RowKit

def dmin (a d : Int) : Int := if d < 0 then a + d else a
/-- The number of step i. -/
def key (rs : List Int) (i : Nat) : Int := 2 * ((dmin (ps rs i).1 (dr rs i).1 + 128) * 256 + (dmin (ps rs i).2 (dr rs i).2 + 128)) + if (dr rs i).1 = 0 then 1 else 0
set_option maxHeartbeats 2000000 in
theorem key_lem {a b d c : Int × Int} {i j : Nat} (p1 : (a.1 + a.2) % 2 = (i : Int) % 2) (p2 : (b.1 + b.2) % 2 = (j : Int) % 2) (f1 : d.2 = 0 ↔ i % 2 = 0) (f2 : c.2 = 0 ↔ j % 2 = 0)
    (n1 : -94 ≤ a.1 ∧ a.1 ≤ 94 ∧ -94 ≤ a.2 ∧ a.2 ≤ 94) (n2 : -94 ≤ b.1 ∧ b.1 ≤ 94 ∧ -94 ≤ b.2 ∧ b.2 ≤ 94) (d1 : isD d) (d2 : isD c)
    (e : 2 * ((dmin a.1 d.1 + 128) * 256 + (dmin a.2 d.2 + 128)) + (if d.1 = 0 then 1 else 0) = 2 * ((dmin b.1 c.1 + 128) * 256 + (dmin b.2 c.2 + 128)) + (if c.1 = 0 then 1 else 0)) : a = b ∧ d = c := by
  obtain ⟨a1, a2⟩ := a
  obtain ⟨b1, b2⟩ := b
  simp only at p1 p2 n1 n2
  have g1 : ∀ x : Int, dmin x 1 = x := fun x => rfl
  have g0 : ∀ x : Int, dmin x 0 = x := fun x => rfl
  have gm : ∀ x : Int, dmin x (-1) = x + -1 := fun x => rfl
  rcases d1 with rfl | rfl | rfl | rfl <;> rcases d2 with rfl | rfl | rfl | rfl <;> simp only [g1, g0, gm] at e f1 f2 <;> simp at e f1 f2 ⊢ <;> omega
theorem key_inj {rs : List Int} (h : rs.length ≤ 10) {i j : Nat} (hi : i < 2 ^ rs.length) (hj : j < 2 ^ rs.length) (e : key rs i = key rs j) : i = j := by
  have key1 : ps rs i = ps rs j ∧ dr rs i = dr rs j := key_lem (ps_sum rs i) (ps_sum rs j) (dr_flat rs i hi) (dr_flat rs j hj) (near h (i := i) (by omega)) (near h (i := j) (by omega)) (isD_dr rs i) (isD_dr rs j) e
  exact once rs i j hi hj key1.1 key1.2
/-- How step i lies: its lower end, whether it stands upright, whether it is gone downwards. -/
theorem edge {rs : List Int} (h : rs.length ≤ 10) {i : Nat} (hi : i < 2 ^ rs.length) : ∃ (xN yN : Nat), xN < 256 ∧ yN < 256 ∧
    ((ps rs i = ((xN : Int) - 128, (yN : Int) - 128) ∧ ps rs (i + 1) = ((xN : Int) - 127, (yN : Int) - 128) ∧ key rs i = 2 * ((xN : Int) * 256 + yN)) ∨
     (ps rs i = ((xN : Int) - 128, (yN : Int) - 128) ∧ ps rs (i + 1) = ((xN : Int) - 128, (yN : Int) - 127) ∧ key rs i = 2 * ((xN : Int) * 256 + yN) + 1) ∨
     (ps rs i = ((xN : Int) - 127, (yN : Int) - 128) ∧ ps rs (i + 1) = ((xN : Int) - 128, (yN : Int) - 128) ∧ key rs i = 2 * ((xN : Int) * 256 + yN)) ∨
     (ps rs i = ((xN : Int) - 128, (yN : Int) - 127) ∧ ps rs (i + 1) = ((xN : Int) - 128, (yN : Int) - 128) ∧ key rs i = 2 * ((xN : Int) * 256 + yN) + 1)) := by
  have n1 := near h (i := i) (by omega)
  have d1 := isD_dr rs i
  rw [ps]
  unfold key dmin
  generalize ps rs i = a at *
  generalize dr rs i = d at *
  obtain ⟨x, y⟩ := a
  simp only at n1
  rcases d1 with rfl | rfl | rfl | rfl
  · refine ⟨(x + 128).toNat, (y + 128).toNat, by omega, by omega, Or.inl ⟨?_, ?_, ?_⟩⟩
    · exact Prod.ext (by simp; omega) (by simp; omega)
    · exact Prod.ext (by simp; omega) (by simp; omega)
    · simp; omega
  · refine ⟨(x + 128).toNat, (y + 128).toNat, by omega, by omega, Or.inr (Or.inl ⟨?_, ?_, ?_⟩)⟩
    · exact Prod.ext (by simp; omega) (by simp; omega)
    · exact Prod.ext (by simp; omega) (by simp; omega)
    · simp; omega
  · refine ⟨(x + 127).toNat, (y + 128).toNat, by omega, by omega, Or.inr (Or.inr (Or.inl ⟨?_, ?_, ?_⟩))⟩
    · exact Prod.ext (by simp; omega) (by simp; omega)
    · exact Prod.ext (by simp; omega) (by simp; omega)
    · simp; omega
  · refine ⟨(x + 128).toNat, (y + 127).toNat, by omega, by omega, Or.inr (Or.inr (Or.inr ⟨?_, ?_, ?_⟩))⟩
    · exact Prod.ext (by simp; omega) (by simp; omega)
    · exact Prod.ext (by simp; omega) (by simp; omega)
    · simp; omega
/-- What has been seen ahead of step i. -/
def seenO (rs : List Int) (i : Nat) : Nat → Bool := fun s => (List.range i).any fun j => key rs j == (s : Int)
theorem seen_new {rs : List Int} (h : rs.length ≤ 10) {i s : Nat} (hi : i < 2 ^ rs.length) (hs : key rs i = (s : Int)) : seenO rs i s = false := by
  rw [seenO, List.any_eq_false]
  intro j hj e
  have hj2 := List.mem_range.1 hj
  have : j = i := key_inj h (by omega) hi (by rw [hs]; simpa using e)
  omega
theorem seen_succ {rs : List Int} {i s : Nat} (hs : key rs i = (s : Int)) : (fun t => if t = s then true else seenO rs i t) = seenO rs (i + 1) := by
  funext t
  rw [seenO, seenO, List.range_succ, List.any_append]
  by_cases e : t = s
  · subst e
    simp [hs]
  · rw [if_neg e]
    have : (key rs i == (t : Int)) = false := by
      rw [beq_eq_false_iff_ne, hs]
      omega
    simp [this]
theorem seen_zero (rs : List Int) : seenO rs 0 = fun _ => false := by
  funext t
  simp [seenO]
end Go.Proofs.Ytblagffijppgjaa
