/- The reference's FoldsOf. -/
import Derived.Test.YtblagffijppgjaaFlds
namespace Go.Proofs.Ytblagffijppgjaa
open Go.RowKit

theorem shl_big {n : Nat} (h : n ≤ 45) : wrap64 ((2 : Int) ^ n) = ((2 ^ n : Nat) : Int) := by
  have h1 : 2 ^ n ≤ 2 ^ 45 := Nat.pow_le_pow_right (by omega) h
  have e : ((2 : Int) ^ n) = ((2 ^ n : Nat) : Int) := by simp
  rw [e]
  generalize 2 ^ n = N at h1
  unfold wrap64
  omega
/-- The folds that number m tells. -/
def btl (m k : Nat) : List Int := (List.range k).map fun t : Nat => 1 + (((m / 2 ^ t) % 2 : Nat) : Int)
theorem btl_succ (m k : Nat) : btl m (k + 1) = btl m k ++ [1 + (((m / 2 ^ k) % 2 : Nat) : Int)] := by simp [btl, List.range_succ]
theorem btl_len (m k : Nat) : (btl m k).length = k := by simp [btl]
theorem btl_allK (m k : Nat) : allK (btl m k) = true := by
  refine allK_of fun i hi => ?_
  rw [btl_len] at hi
  have e : gt (btl m k) i = 1 + (((m / 2 ^ i) % 2 : Nat) : Int) := by
    rw [gt_lt (by rw [btl_len]; exact hi)]
    simp [btl]
  rw [e]
  omega
theorem btl_cons (m k : Nat) : btl m (k + 1) = (1 + ((m % 2 : Nat) : Int)) :: btl (m / 2) k := by
  rw [btl, List.range_succ_eq_map, List.map_cons, List.map_map]
  simp only [btl, Nat.pow_zero, Nat.div_one, List.cons.injEq, true_and]
  refine List.map_congr_left fun t _ => ?_
  simp only [Function.comp_apply, Nat.succ_eq_add_one]
  rw [Nat.pow_succ, Nat.mul_comm, Nat.div_div_eq_div_mul]
/-- The number of folds. -/
def nmo : List Int → Nat
  | [] => 0
  | x :: l => (x - 1).toNat + 2 * nmo l
theorem nmo_lt : ∀ l : List Int, (∀ x ∈ l, x = 1 ∨ x = 2) → nmo l < 2 ^ l.length
  | [], _ => by simp [nmo]
  | x :: l, h => by
    have h1 := nmo_lt l (fun y hy => h y (by simp [hy]))
    have h2 := h x (by simp)
    simp only [nmo, List.length_cons, Nat.pow_succ]
    omega
theorem btl_nmo : ∀ l : List Int, (∀ x ∈ l, x = 1 ∨ x = 2) → btl (nmo l) l.length = l
  | [], _ => rfl
  | x :: l, h => by
    have h1 := btl_nmo l (fun y hy => h y (by simp [hy]))
    have h2 := h x (by simp)
    rw [List.length_cons, btl_cons, nmo]
    have e1 : ((x - 1).toNat + 2 * nmo l) / 2 = nmo l := by omega
    rw [e1, h1]
    congr 1
    omega
/-- No number below m tells folds that make the word. -/
def Non (ws : List Int) (k m : Nat) : Prop := ∀ m', m' < m → opn (btl m' k) ≠ ws
theorem non_succ {ws : List Int} {k m : Nat} (h : Non ws k m) (hm : opn (btl m k) ≠ ws) : Non ws k (m + 1) := fun m' h' => by
  by_cases e : m' = m
  · rw [e]; exact hm
  · exact h m' (by omega)
theorem code_none {ws : List Int} {k : Nat} (hk : k ≤ 10) (h2 : 2 ^ k = ws.length + 1) (ha : allK ws = true) (hn : Non ws k (2 ^ k)) : fcode ws = 9 ∧ fres ws = [] := by
  have hp : isP ws.length = true := isP_ex.2 ⟨k, hk, h2⟩
  have hne : opn (bg ws) ≠ ws := fun e => by
    have hm := allK_mem (bg_allK h2 ha)
    have h3 := btl_nmo (bg ws) hm
    have h4 := nmo_lt (bg ws) hm
    rw [bg_len h2] at h3 h4
    exact hn _ h4 (by rw [h3]; exact e)
  have hf : fcode ws = 9 := by rw [fcode, if_neg (by rw [hp]; simp), if_neg (by rw [ha]; simp), if_neg hne]
  exact ⟨hf, by rw [fres, hf]; rfl⟩
theorem code_some {ws : List Int} {k m : Nat} (hk : k ≤ 10) (h2 : 2 ^ k = ws.length + 1) (ha : allK ws = true) (he : opn (btl m k) = ws) : fcode ws = 0 ∧ fres ws = btl m k := by
  have hp : isP ws.length = true := isP_ex.2 ⟨k, hk, h2⟩
  have hb : bg ws = btl m k := by
    have := bgl_opn (btl m k)
    rw [btl_len, he] at this
    rw [bg_k h2, this]
  have hf : fcode ws = 0 := by rw [fcode, if_neg (by rw [hp]; simp), if_neg (by rw [ha]; simp), hb, if_pos he]
  exact ⟨hf, by rw [fres, if_pos hf, hb]⟩
theorem code_kind {ws : List Int} {k : Nat} (hk : k ≤ 10) (h2 : 2 ^ k = ws.length + 1) (ha : allK ws = false) : fcode ws = 4 ∧ fres ws = [] := by
  have hp : isP ws.length = true := isP_ex.2 ⟨k, hk, h2⟩
  have hf : fcode ws = 4 := by rw [fcode, if_neg (by rw [hp]; simp), if_pos ha]
  exact ⟨hf, by rw [fres, hf]; rfl⟩
theorem code_size {ws : List Int} {k : Nat} (h1 : ∀ i, i < k → 2 ^ i < ws.length + 1) (h2 : ws.length + 1 ≤ 2 ^ k) (h : 2 ^ k ≠ ws.length + 1 ∨ 10 < k) : fcode ws = 2 ∧ fres ws = [] := by
  have hp : isP ws.length = false := by
    rw [Bool.eq_false_iff]
    intro hp
    obtain ⟨k0, hk0, e⟩ := isP_ex.1 hp
    have a1 : ¬ k0 < k := fun hlt => by have := h1 k0 hlt; omega
    have a2 : ¬ k < k0 := fun hlt => by have := pow_lt hlt; omega
    have : k0 = k := by omega
    subst this
    omega
  have hf : fcode ws = 2 := by rw [fcode, if_pos hp]
  exact ⟨hf, by rw [fres, hf]; rfl⟩
end Go.Proofs.Ytblagffijppgjaa
