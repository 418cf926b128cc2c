/- A part of the proof of sheetReads_holds. -/
import Derived.Test.YtehmoacggikfmaaGreatDoorQlaa
import Derived.Lib.SplitLaws
import Derived.Lib.Split
import Derived.Lib.IndexLaws
import Derived.Lib.IndexBytes
import Derived.Lib.FieldsP
import Derived.Lib.RuneCount
import Derived.Shelf.Small.Strs
import Derived.Shelf.Strings.Cut
import Derived.Shelf.Strings.Split
import Derived.Shelf.Strings.FieldsFuncAny
import Derived.Test.YtehmoacggikfmaaGreatDoorProg
import Derived.Shelf.Bits.Mul64
import Derived.Shelf.Slices.Turned
namespace Go.Proofs.YtehmoacggikfmaaGreatDoor
open Go Go.Lib
abbrev E4 := Int × Int × Int × Int

def isD (c : UInt8) : Bool := decide (48 ≤ c.toNat) && decide (c.toNat ≤ 57)
def numF : List UInt8 → Nat → Option Nat
  | [], n => some n
  | c :: r, n => if isD c then numF r (10 * n + (c.toNat - 48)) else none
/-- A number of one digit to three. -/
def num (w : List UInt8) : Option Nat := if 1 ≤ w.length ∧ w.length ≤ 3 then numF w 0 else none
theorem isD_nat {c : UInt8} (h : isD c = true) : 48 ≤ c.toNat ∧ c.toNat ≤ 57 := by simpa [isD] using h
theorem numF_le : ∀ (l : List UInt8) (n v : Nat), numF l n = some v → v < (n + 1) * 10 ^ l.length
  | [], n, v, h => by
    simp [numF] at h
    subst h
    simp
  | c :: r, n, v, h => by
    rw [numF] at h
    split at h
    · rename_i hc
      have := isD_nat hc
      have h2 := numF_le r _ v h
      refine Nat.lt_of_lt_of_le h2 ?_
      rw [List.length_cons, Nat.pow_succ, Nat.mul_comm (10 ^ r.length) 10, ← Nat.mul_assoc]
      exact Nat.mul_le_mul_right _ (by omega)
    · cases h
theorem num_lt {w : List UInt8} {v : Nat} (h : num w = some v) : v < 1000 := by
  unfold num at h
  split at h
  · rename_i hl
    have := numF_le w 0 v h
    refine Nat.lt_of_lt_of_le this ?_
    rw [Nat.zero_add, Nat.one_mul]
    exact Nat.pow_le_pow_right (by decide) hl.2
  · cases h
/-- A cell's letter. -/
def ltr (c : UInt8) : Option Nat := if isD c then some (c.toNat - 48) else if 97 ≤ c.toNat ∧ c.toNat ≤ 102 then some (c.toNat - 87) else none
def ltrs : List UInt8 := [48, 49, 50, 51, 52, 53, 54, 55, 56, 57, 97, 98, 99, 100, 101, 102]
theorem ltr_index_fin : ∀ i : Fin 256, indexByte ltrs (UInt8.ofNat i.val) = (match ltr (UInt8.ofNat i.val) with | some n => (n : Int) | none => -1) := by decide +kernel
theorem ltr_index (c : UInt8) : indexByte ltrs c = (match ltr c with | some n => (n : Int) | none => -1) := by
  have h := ltr_index_fin ⟨c.toNat, c.toNat_lt⟩
  simpa using h
theorem ltr_le {c : UInt8} {n : Nat} (h : ltr c = some n) : n ≤ 15 := by
  unfold ltr at h
  split at h
  · rename_i hc
    have := isD_nat hc
    simp at h
    omega
  · split at h
    · simp at h
      omega
    · cases h
/-- n edges from a point on, each by one step. -/
def bt : Nat → Int → Int → Int → Int → List E4
  | 0, _, _, _, _ => []
  | n + 1, x, y, u, v => (x, y, x + u, y + v) :: bt n (x + u) (y + v) u v
theorem bt_length : ∀ (n : Nat) (x y u v : Int), (bt n x y u v).length = n
  | 0, _, _, _, _ => rfl
  | n + 1, x, y, u, v => by rw [bt, List.length_cons, bt_length]
theorem bt_snoc : ∀ (n : Nat) (x y u v : Int), bt (n + 1) x y u v = bt n x y u v ++ [(x + n * u, y + n * v, x + (n + 1) * u, y + (n + 1) * v)]
  | 0, x, y, u, v => by simp [bt]
  | n + 1, x, y, u, v => by
    rw [bt, bt_snoc n (x + u) (y + v) u v]
    conv => rhs; rw [bt]
    rw [List.cons_append]
    congr 2
    simp only [List.cons.injEq, Prod.mk.injEq, and_true]
    push_cast
    grind
theorem bt_get (x y u v : Int) : ∀ (n i : Nat), i < n → (bt n x y u v)[i]? = some (x + i * u, y + i * v, x + (i + 1) * u, y + (i + 1) * v)
  | 0, i, h => by omega
  | n + 1, i, h => by
    rw [bt_snoc]
    by_cases hi : i < n
    · rw [List.getElem?_append_left (by rw [bt_length]; omega), bt_get x y u v n i hi]
    · obtain rfl : i = n := by omega
      rw [List.getElem?_append_right (by rw [bt_length]; omega), bt_length]
      simp
/-- The step from a point to a greater one. -/
def stT (a b c d : Int) : Int × Int :=
  if c - a = 0 ∧ 0 < d - b ∧ a % 2 = 0 then (0, 2)
  else if d - b = 0 ∧ 0 < c - a ∧ a % 2 = 0 then (2, 0)
  else if 0 < c - a ∧ c - a = d - b then (1, 1)
  else if 0 < c - a ∧ c - a = -(d - b) then (1, -1)
  else (0, 0)
/-- The edges between two points of the grid, the first not greater. -/
def egU (a b c d : Int) : List E4 :=
  if stT a b c d = (0, 0) then [] else bt (if (stT a b c d).1 = 0 then ((d - b) / 2).toNat else ((c - a) / (stT a b c d).1).toNat) a b (stT a b c d).1 (stT a b c d).2
def ltPt (a b c d : Int) : Bool := decide (a < c) || (decide (a = c) && decide (b < d))
def egs (a b c d : Int) : List E4 := if ltPt c d a b then egU c d a b else egU a b c d
/-- An edge, its lesser point first. -/
def nmE (e : E4) : E4 := if ltPt e.2.2.1 e.2.2.2 e.1 e.2.1 then (e.2.2.1, e.2.2.2, e.1, e.2.1) else e
theorem bt_norm (u v : Int) (h : ltPt 0 0 u v = true) : ∀ (n : Nat) (x y : Int), (bt n x y u v).map nmE = bt n x y u v
  | 0, _, _ => rfl
  | n + 1, x, y => by
    have e : nmE (x, y, x + u, y + v) = (x, y, x + u, y + v) := by
      unfold nmE
      rw [if_neg]
      unfold ltPt at *
      simp at *
      omega
    rw [bt, List.map_cons, bt_norm u v h n, e]
theorem bt_turn (u v : Int) (h : ltPt 0 0 u v = true) (x y : Int) : ∀ (n : Nat) (X Y : Int), X = x + n * u → Y = y + n * v → (bt n X Y (-u) (-v)).map nmE = (bt n x y u v).reverse
  | 0, _, _, _, _ => rfl
  | n + 1, X, Y, hX, hY => by
    have e : nmE (X, Y, X + -u, Y + -v) = (X + -u, Y + -v, X, Y) := by
      unfold nmE
      rw [if_pos]
      unfold ltPt at *
      simp at *
      omega
    have e1 : ((n + 1 : Nat) : Int) * u = n * u + u := by grind
    have e2 : ((n + 1 : Nat) : Int) * v = n * v + v := by grind
    rw [e1] at hX
    rw [e2] at hY
    rw [bt_snoc n x y u v, bt, List.map_cons, bt_turn u v h x y n (X + -u) (Y + -v) (by omega) (by omega), e, List.reverse_append, List.reverse_singleton, List.singleton_append]
    congr 1
    simp only [Prod.mk.injEq]
    refine ⟨by omega, by omega, by grind, by grind⟩
def sgI (x : Int) : Int := if x = 0 then 0 else if 0 < x then 1 else -1
def nR (a b c d : Int) : Int := if c - a = 0 then (if d - b < 0 then -(d - b) else d - b) else if c - a < 0 then -(c - a) else c - a
def slR (a b c d : Int) : Bool := decide (c - a ≠ 0 ∧ d - b ≠ 0)
def byR (a b c d : Int) : Int := if slR a b c d then 1 else 2
/-- No such way. -/
def noR (a b c d : Int) : Bool := decide (nR a b c d = 0 ∨ (slR a b c d = true ∧ c - a ≠ d - b ∧ c - a ≠ -(d - b)) ∨ (slR a b c d = false ∧ a % 2 ≠ 0))
def egR (a b c d : Int) : List E4 :=
  if noR a b c d then [] else (bt (nR a b c d / byR a b c d).toNat a b (byR a b c d * sgI (c - a)) (byR a b c d * sgI (d - b))).map nmE
set_option maxHeartbeats 2000000 in
theorem noR_dirs {a b c d : Int} (hn : ¬ noR a b c d = true) : ((c - a = 0 ∧ 0 < d - b) ∨ (c - a = 0 ∧ d - b < 0) ∨ (0 < c - a ∧ d - b = 0) ∨ (c - a < 0 ∧ d - b = 0) ∨ (0 < c - a ∧ d - b = c - a) ∨ (0 < c - a ∧ d - b = -(c - a)) ∨ (c - a < 0 ∧ d - b = c - a) ∨ (c - a < 0 ∧ d - b = -(c - a))) ∧ ((c - a = 0 ∨ d - b = 0) → a % 2 = 0) := by
  unfold noR nR slR at hn
  simp only [decide_eq_true_eq, decide_eq_false_iff_not, ne_eq, not_or, not_and] at hn
  obtain ⟨n1, n2, n3⟩ := hn
  generalize c - a = x at *
  generalize d - b = y at *
  constructor
  · by_cases hx : x = 0
    · subst hx
      rw [if_pos rfl] at n1
      have : y ≠ 0 := by split at n1 <;> omega
      omega
    · by_cases hy : y = 0
      · omega
      · have := n2 ⟨hx, hy⟩
        omega
  · intro h
    have := n3 (by omega)
    omega
set_option maxHeartbeats 2000000 in
theorem egR_egs (a b c d : Int) (h1 : a % 2 = b % 2) (h2 : c % 2 = d % 2) : egR a b c d = egs a b c d ∨ egR a b c d = (egs a b c d).reverse := by
  by_cases hn : noR a b c d = true
  · left
    unfold egR
    rw [if_pos hn]
    unfold egs
    have hz : ∀ {p q r s : Int}, stT p q r s = (0, 0) → egU p q r s = [] := fun {p q r s} h => by unfold egU; rw [if_pos h]
    unfold noR nR slR at hn
    simp only [decide_eq_true_eq, decide_eq_false_iff_not, ne_eq] at hn
    split
    · rw [hz]
      unfold stT
      rw [if_neg (by split at hn <;> omega), if_neg (by split at hn <;> omega), if_neg (by split at hn <;> omega), if_neg (by split at hn <;> omega)]
    · rw [hz]
      unfold stT
      rw [if_neg (by split at hn <;> omega), if_neg (by split at hn <;> omega), if_neg (by split at hn <;> omega), if_neg (by split at hn <;> omega)]
  · have hm : ∀ {n : Int} {u v : Int}, nR a b c d / byR a b c d = n → byR a b c d * sgI (c - a) = u → byR a b c d * sgI (d - b) = v → egR a b c d = (bt n.toNat a b u v).map nmE := fun {n u v} e1 e2 e3 => by unfold egR; rw [if_neg hn, e1, e2, e3]
    have hu : ∀ {p q r s u v : Int} {n : Nat}, stT p q r s = (u, v) → (u ≠ 0 ∨ v ≠ 0) → ((if u = 0 then (s - q) / 2 else (r - p) / u).toNat = n) → egU p q r s = bt n p q u v := fun {p q r s u v n} h h' e => by
      unfold egU
      have : (u, v) ≠ ((0 : Int), (0 : Int)) := by simp; omega
      rw [h, if_neg this]
      simp only []
      congr 1
      rw [← e]
      split <;> rfl
    have fw : ∀ (u v : Int) (N : Int), ltPt 0 0 u v = true → stT a b c d = (u, v) → ltPt c d a b = false → nR a b c d / byR a b c d = N → byR a b c d * sgI (c - a) = u → byR a b c d * sgI (d - b) = v → (if u = 0 then (d - b) / 2 else (c - a) / u) = N → egR a b c d = egs a b c d := by
      intro u v N q1 q2 q3 q4 q5 q6 q7
      rw [hm q4 q5 q6, bt_norm u v q1]
      unfold egs
      rw [q3, if_neg (by decide), hu q2 (by simp [ltPt] at q1; omega) (by rw [q7])]
    have bw : ∀ (u v : Int) (N : Nat), ltPt 0 0 u v = true → stT c d a b = (u, v) → ltPt c d a b = true → nR a b c d / byR a b c d = (N : Int) → byR a b c d * sgI (c - a) = -u → byR a b c d * sgI (d - b) = -v → (if u = 0 then (b - d) / 2 else (a - c) / u) = (N : Int) → a = c + N * u → b = d + N * v → egR a b c d = (egs a b c d).reverse := by
      intro u v N q1 q2 q3 q4 q5 q6 q7 q8 q9
      rw [hm q4 q5 q6, Int.toNat_natCast, bt_turn u v q1 c d N a b q8 q9]
      unfold egs
      rw [q3, if_pos rfl, hu q2 (by simp [ltPt] at q1; omega) (by rw [q7]), Int.toNat_natCast]
    have hlt : ltPt c d a b = true ↔ c < a ∨ (c = a ∧ d < b) := by simp [ltPt]
    have hlf : ltPt c d a b = false ↔ ¬ (c < a ∨ (c = a ∧ d < b)) := by rw [← hlt]; simp
    obtain ⟨cs, hx⟩ := noR_dirs hn
    clear hn hm hu
    have S : ∀ x : Int, (x = 0 → sgI x = 0) ∧ (0 < x → sgI x = 1) ∧ (x < 0 → sgI x = -1) := fun x => by
      unfold sgI
      refine ⟨fun h => by simp [h], fun h => by rw [if_neg (by omega), if_pos h], fun h => by rw [if_neg (by omega), if_neg (by omega)]⟩
    rcases cs with ⟨k1, k2⟩ | ⟨k1, k2⟩ | ⟨k1, k2⟩ | ⟨k1, k2⟩ | ⟨k1, k2⟩ | ⟨k1, k2⟩ | ⟨k1, k2⟩ | ⟨k1, k2⟩
    · have hy := hx (Or.inl k1)
      have y1 : slR a b c d = false := by simp [slR]; omega
      left
      refine fw 0 2 ((d - b) / 2) rfl (by unfold stT; rw [if_pos ⟨k1, k2, hy⟩]) (hlf.2 (by omega)) ?_ ?_ ?_ (if_pos rfl)
      · unfold nR byR; rw [if_pos k1, if_neg (by omega), y1]; rfl
      · rw [(S _).1 k1]; simp
      · unfold byR; rw [(S _).2.1 k2, y1]; rfl
    · have hy := hx (Or.inl k1)
      have y1 : slR a b c d = false := by simp [slR]; omega
      right
      obtain ⟨N, hN⟩ : ∃ N : Nat, (b - d) / 2 = N := ⟨((b - d) / 2).toNat, by omega⟩
      refine bw 0 2 N rfl (by unfold stT; rw [if_pos ⟨by omega, by omega, by omega⟩]) (hlt.2 (by omega)) ?_ ?_ ?_ (by rw [if_pos rfl]; exact hN) (by omega) (by omega)
      · unfold nR byR; rw [if_pos k1, if_pos k2, y1]; show -(d - b) / 2 = (N : Int); omega
      · rw [(S _).1 k1]; simp
      · unfold byR; rw [(S _).2.2 k2, y1]; rfl
    · have hy := hx (Or.inr k2)
      have y1 : slR a b c d = false := by simp [slR]; omega
      left
      refine fw 2 0 ((c - a) / 2) rfl (by unfold stT; rw [if_neg (by omega), if_pos ⟨k2, k1, hy⟩]) (hlf.2 (by omega)) ?_ ?_ ?_ (if_neg (by decide))
      · unfold nR byR; rw [if_neg (by omega), if_neg (by omega), y1]; rfl
      · unfold byR; rw [(S _).2.1 k1, y1]; rfl
      · rw [(S _).1 k2]; simp
    · have hy := hx (Or.inr k2)
      have y1 : slR a b c d = false := by simp [slR]; omega
      right
      obtain ⟨N, hN⟩ : ∃ N : Nat, (a - c) / 2 = N := ⟨((a - c) / 2).toNat, by omega⟩
      refine bw 2 0 N rfl (by unfold stT; rw [if_neg (by omega), if_pos ⟨by omega, by omega, by omega⟩]) (hlt.2 (by omega)) ?_ ?_ ?_ (by rw [if_neg (by decide)]; exact hN) (by omega) (by omega)
      · unfold nR byR; rw [if_neg (by omega), if_pos k1, y1]; show -(c - a) / 2 = (N : Int); omega
      · unfold byR; rw [(S _).2.2 k1, y1]; rfl
      · rw [(S _).1 k2]; simp
    · have y1 : slR a b c d = true := by simp [slR]; omega
      left
      refine fw 1 1 (c - a) rfl (by unfold stT; rw [if_neg (by omega), if_neg (by omega), if_pos ⟨k1, by omega⟩]) (hlf.2 (by omega)) ?_ ?_ ?_ (by rw [if_neg (by decide)]; omega)
      · unfold nR byR; rw [if_neg (by omega), if_neg (by omega), y1]; simp
      · unfold byR; rw [(S _).2.1 k1, y1]; rfl
      · unfold byR; rw [(S _).2.1 (by omega), y1]; rfl
    · have y1 : slR a b c d = true := by simp [slR]; omega
      left
      refine fw 1 (-1) (c - a) rfl (by unfold stT; rw [if_neg (by omega), if_neg (by omega), if_neg (by omega), if_pos ⟨k1, by omega⟩]) (hlf.2 (by omega)) ?_ ?_ ?_ (by rw [if_neg (by decide)]; omega)
      · unfold nR byR; rw [if_neg (by omega), if_neg (by omega), y1]; simp
      · unfold byR; rw [(S _).2.1 k1, y1]; rfl
      · unfold byR; rw [(S _).2.2 (by omega), y1]; rfl
    · have y1 : slR a b c d = true := by simp [slR]; omega
      right
      obtain ⟨N, hN⟩ : ∃ N : Nat, a - c = N := ⟨(a - c).toNat, by omega⟩
      refine bw 1 1 N rfl (by unfold stT; rw [if_neg (by omega), if_neg (by omega), if_pos ⟨by omega, by omega⟩]) (hlt.2 (by omega)) ?_ ?_ ?_ (by rw [if_neg (by decide)]; omega) (by omega) (by omega)
      · unfold nR byR; rw [if_neg (by omega), if_pos k1, y1]; simp; omega
      · unfold byR; rw [(S _).2.2 k1, y1]; rfl
      · unfold byR; rw [(S _).2.2 (by omega), y1]; rfl
    · have y1 : slR a b c d = true := by simp [slR]; omega
      right
      obtain ⟨N, hN⟩ : ∃ N : Nat, a - c = N := ⟨(a - c).toNat, by omega⟩
      refine bw 1 (-1) N rfl (by unfold stT; rw [if_neg (by omega), if_neg (by omega), if_neg (by omega), if_pos ⟨by omega, by omega⟩]) (hlt.2 (by omega)) ?_ ?_ ?_ (by rw [if_neg (by decide)]; omega) (by omega) (by omega)
      · unfold nR byR; rw [if_neg (by omega), if_pos k1, y1]; simp; omega
      · unfold byR; rw [(S _).2.2 k1, y1]; rfl
      · unfold byR; rw [(S _).2.1 (by omega), y1]; rfl
theorem bt_mem {x y u v : Int} {n : Nat} {e : E4} (h : e ∈ bt n x y u v) : ∃ i : Nat, i < n ∧ e = (x + i * u, y + i * v, x + (i + 1) * u, y + (i + 1) * v) := by
  obtain ⟨i, hi⟩ := List.mem_iff_getElem?.1 h
  have hlt : i < n := by rw [← bt_length n x y u v]; exact (List.getElem?_eq_some_iff.1 hi).1
  rw [bt_get x y u v n i hlt] at hi
  exact ⟨i, hlt, (Option.some.inj hi).symm⟩
theorem bt_nodup {u v : Int} (h : u ≠ 0 ∨ v ≠ 0) : ∀ (n : Nat) (x y : Int), (bt n x y u v).Nodup
  | 0, _, _ => List.nodup_nil
  | n + 1, x, y => by
    rw [bt, List.nodup_cons]
    refine ⟨fun hm => ?_, bt_nodup h n _ _⟩
    obtain ⟨i, _, hi⟩ := bt_mem hm
    simp only [Prod.mk.injEq] at hi
    have e1 : ((i : Int) + 1) * u = 0 := by grind
    have e2 : ((i : Int) + 1) * v = 0 := by grind
    rcases Int.mul_eq_zero.1 e1 with e | e
    · omega
    · rcases Int.mul_eq_zero.1 e2 with e' | e'
      · omega
      · omega
theorem egU_nodup (a b c d : Int) : (egU a b c d).Nodup := by
  unfold egU
  split
  · exact List.nodup_nil
  · rename_i h
    refine bt_nodup ?_ _ _ _
    refine Classical.byContradiction fun hn => h ?_
    simp only [ne_eq, not_or, Classical.not_not] at hn
    exact Prod.ext hn.1 hn.2
theorem egs_nodup (a b c d : Int) : (egs a b c d).Nodup := by
  unfold egs
  split <;> exact egU_nodup ..
theorem egR_nodup {a b c d : Int} (h1 : a % 2 = b % 2) (h2 : c % 2 = d % 2) : (egR a b c d).Nodup := by
  rcases egR_egs a b c d h1 h2 with h | h
  · rw [h]; exact egs_nodup ..
  · rw [h]; exact (List.pairwise_reverse.2 ((egs_nodup a b c d).imp fun h => Ne.symm h))
theorem egR_mem {a b c d : Int} (h1 : a % 2 = b % 2) (h2 : c % 2 = d % 2) (e : E4) : e ∈ egR a b c d ↔ e ∈ egs a b c d := by
  rcases egR_egs a b c d h1 h2 with h | h
  · rw [h]
  · rw [h, List.mem_reverse]
theorem egR_len {a b c d : Int} (h1 : a % 2 = b % 2) (h2 : c % 2 = d % 2) : (egR a b c d).length = (egs a b c d).length := by
  rcases egR_egs a b c d h1 h2 with h | h
  · rw [h]
  · rw [h, List.length_reverse]
abbrev C5 := E4 × Int

def ltE (e f : E4) : Bool := ltPt e.1 e.2.1 f.1 f.2.1 || (decide (e.1 = f.1 ∧ e.2.1 = f.2.1) && ltPt e.2.2.1 e.2.2.2 f.2.2.1 f.2.2.2)
theorem ltE_iff (x y : E4) : ltE x y = true ↔ x.1 < y.1 ∨ (x.1 = y.1 ∧ (x.2.1 < y.2.1 ∨ (x.2.1 = y.2.1 ∧ (x.2.2.1 < y.2.2.1 ∨ (x.2.2.1 = y.2.2.1 ∧ x.2.2.2 < y.2.2.2))))) := by
  simp only [ltE, ltPt, Bool.or_eq_true, Bool.and_eq_true, decide_eq_true_eq]
  omega
theorem ltE_irr (x : E4) : ltE x x = false := by
  rw [← Bool.not_eq_true, ltE_iff]
  omega
theorem ltE_trans {x y z : E4} (h1 : ltE x y = true) (h2 : ltE y z = true) : ltE x z = true := by
  rw [ltE_iff] at *
  omega
theorem ltE_tri {x y : E4} (h1 : ltE x y = false) (h2 : x ≠ y) : ltE y x = true := by
  rw [← Bool.not_eq_true, ltE_iff] at h1
  rw [ltE_iff]
  obtain ⟨a, b, c, d⟩ := x
  obtain ⟨p, q, r, s⟩ := y
  simp only [ne_eq, Prod.mk.injEq] at *
  omega
/-- Rising by the edges. -/
def srtE (l : List C5) : Prop := l.Pairwise (fun x y => ltE x.1 y.1 = true)
def putC : List C5 → C5 → List C5
  | [], c => [c]
  | a :: r, c => if ltE c.1 a.1 then c :: a :: r else a :: putC r c
theorem putC_mem (x c : C5) : ∀ l : List C5, x ∈ putC l c ↔ x = c ∨ x ∈ l
  | [] => by simp [putC]
  | a :: r => by
    unfold putC
    split
    · simp
    · rw [List.mem_cons, putC_mem x c r, List.mem_cons]
      exact ⟨fun h => by rcases h with h | h | h <;> simp [h], fun h => by rcases h with h | h | h <;> simp [h]⟩
theorem putC_srt (c : C5) : ∀ l : List C5, srtE l → (∀ x ∈ l, x.1 ≠ c.1) → srtE (putC l c)
  | [], _, _ => by simp [putC, srtE]
  | a :: r, h, hn => by
    unfold srtE at *
    rw [List.pairwise_cons] at h
    unfold putC
    split
    · rename_i hl
      rw [List.pairwise_cons, List.pairwise_cons]
      refine ⟨fun b hb => ?_, h⟩
      rcases List.mem_cons.1 hb with rfl | hb
      · exact hl
      · exact ltE_trans hl (h.1 b hb)
    · rename_i hl
      rw [List.pairwise_cons]
      refine ⟨fun b hb => ?_, putC_srt c r h.2 (fun x hx => hn x (by simp [hx]))⟩
      rcases (putC_mem b c r).1 hb with rfl | hb
      · exact ltE_tri (by simpa using hl) (fun e => hn a (by simp) e.symm)
      · exact h.1 b hb
/-- Two that rise and hold the same are the same. -/
theorem srt_ext : ∀ {l m : List C5}, srtE l → srtE m → (∀ x, x ∈ l ↔ x ∈ m) → l = m
  | [], [], _, _, _ => rfl
  | [], b :: m, _, _, h => by have := (h b).2 (by simp); simp at this
  | a :: l, [], _, _, h => by have := (h a).1 (by simp); simp at this
  | a :: l, b :: m, hl, hm, h => by
    unfold srtE at hl hm
    rw [List.pairwise_cons] at hl hm
    have hab : a = b := by
      rcases List.mem_cons.1 ((h a).1 (by simp)) with e | ha
      · exact e
      · rcases List.mem_cons.1 ((h b).2 (by simp)) with e | hb
        · exact e.symm
        · have h1 := ltE_trans (hl.1 b hb) (hm.1 a ha)
          rw [ltE_irr] at h1
          cases h1
    subst hab
    congr 1
    refine srt_ext hl.2 hm.2 (fun x => ?_)
    constructor
    · intro hx
      rcases List.mem_cons.1 ((h x).1 (by simp [hx])) with rfl | hx'
      · have h1 := hl.1 x hx
        rw [ltE_irr] at h1
        cases h1
      · exact hx'
    · intro hx
      rcases List.mem_cons.1 ((h x).2 (by simp [hx])) with rfl | hx'
      · have h1 := hm.1 x hx
        rw [ltE_irr] at h1
        cases h1
      · exact hx'
def putA (l : List C5) (es : List E4) (k : Int) : List C5 := es.foldl (fun l e => putC l (e, k)) l
theorem putA_snoc (l : List C5) (es : List E4) (e : E4) (k : Int) : putA l (es ++ [e]) k = putC (putA l es k) (e, k) := by simp [putA]
theorem putA_mem (k : Int) (x : C5) : ∀ (es : List E4) (l : List C5), x ∈ putA l es k ↔ x ∈ l ∨ (x.1 ∈ es ∧ x.2 = k)
  | [], l => by simp [putA]
  | e :: es, l => by
    show x ∈ putA (putC l (e, k)) es k ↔ _
    rw [putA_mem k x es, putC_mem]
    obtain ⟨x1, x2⟩ := x
    simp only [Prod.mk.injEq, List.mem_cons]
    constructor
    · rintro ((⟨h1, h2⟩ | h) | ⟨h1, h2⟩)
      · exact Or.inr ⟨Or.inl h1, h2⟩
      · exact Or.inl h
      · exact Or.inr ⟨Or.inr h1, h2⟩
    · rintro (h | ⟨h1 | h1, h2⟩)
      · exact Or.inl (Or.inr h)
      · exact Or.inl (Or.inl ⟨h1, h2⟩)
      · exact Or.inr ⟨h1, h2⟩
theorem putA_srt (k : Int) : ∀ (es : List E4) (l : List C5), srtE l → es.Nodup → (∀ x ∈ l, x.1 ∉ es) → srtE (putA l es k)
  | [], l, h, _, _ => h
  | e :: es, l, h, hn, hx => by
    rw [List.nodup_cons] at hn
    show srtE (putA (putC l (e, k)) es k)
    refine putA_srt k es _ (putC_srt _ _ h (fun x hxl e1 => hx x hxl (by simp [e1]))) hn.2 (fun x hxl => ?_)
    rcases (putC_mem x _ l).1 hxl with rfl | hxl
    · exact hn.1
    · exact fun h2 => hx x hxl (by simp [h2])
/-- An edge's kind; 0: it has none. -/
def kdc : List C5 → E4 → Int
  | [], _ => 0
  | a :: r, e => if a.1 = e then a.2 else kdc r e
theorem kdc_not {e : E4} : ∀ {l : List C5}, (∀ x ∈ l, x.1 ≠ e) → kdc l e = 0
  | [], _ => rfl
  | a :: r, h => by rw [kdc, if_neg (h a (by simp)), kdc_not (fun x hx => h x (by simp [hx]))]
theorem kdc_in {e : E4} {k : Int} : ∀ {l : List C5}, srtE l → (e, k) ∈ l → kdc l e = k
  | a :: r, hs, h => by
    unfold srtE at hs
    rw [List.pairwise_cons] at hs
    rw [kdc]
    rcases List.mem_cons.1 h with h1 | h1
    · rw [← h1, if_pos rfl]
    · rw [if_neg (fun e1 => by
        have := hs.1 _ h1
        simp only [e1, ltE_irr] at this
        cases this), kdc_in hs.2 h1]
theorem kdc_ne {e : E4} {l : List C5} (hk : ∀ x ∈ l, x.2 ≠ 0) (hs : srtE l) : kdc l e ≠ 0 ↔ ∃ x ∈ l, x.1 = e := by
  constructor
  · intro h
    refine Classical.byContradiction fun hn => h (kdc_not fun x hx e1 => hn ⟨x, hx, e1⟩)
  · rintro ⟨x, hx, rfl⟩
    rw [kdc_in (k := x.2) hs hx]
    exact hk x hx

/-- Which bytes part words. -/
def sepB (c : UInt8) : Bool := c == 9 || c == 13 || c == 32
def sepR (x : Nat) : Bool := x == 9 || x == 13 || x == 32
/-- Words of bytes; cur: what was begun. -/
def wdF : List UInt8 → List UInt8 → List (List UInt8)
  | [], cur => if cur = [] then [] else [cur]
  | c :: r, cur => if sepB c then (if cur = [] then wdF r [] else cur :: wdF r []) else wdF r (cur ++ [c])
def wd (l : List UInt8) : List (List UInt8) := wdF l []

theorem sepB_nat (c : UInt8) : sepB c = sepR c.toNat := by
  unfold sepB sepR
  have h : ∀ (n : Nat) (d : UInt8), d.toNat = n → (c == d) = (c.toNat == n) := fun n d hd => by
    subst hd
    by_cases e : c = d
    · simp [e]
    · have h2 : c.toNat ≠ d.toNat := fun h => e (UInt8.toNat_inj.1 h)
      rw [beq_eq_false_iff_ne.2 e, beq_eq_false_iff_ne.2 h2]
  rw [h 9 9 rfl, h 13 13 rfl, h 32 32 rfl]
theorem sepR_wide {x : Nat} (h : 128 ≤ x) : sepR x = false := by unfold sepR; simp; omega
theorem wdF_skip : ∀ (a : List UInt8) (r cur : List UInt8), (∀ c ∈ a, sepB c = false) → wdF (a ++ r) cur = wdF r (cur ++ a)
  | [], r, cur, _ => by simp
  | c :: a, r, cur, h => by
    rw [List.cons_append, wdF, h c (by simp), if_neg (by decide), wdF_skip a r _ (fun d hd => h d (by simp [hd]))]
    simp
/-- What a decoder takes at a place. -/
theorem decode_ascii (s : ByteArray) (i : Nat) (h : (s.get! i).toNat < 128) : Utf8.decode s i = ((s.get! i).toNat, 1) := by
  unfold Utf8.decode
  simp [h]
theorem decode_wide (s : ByteArray) (i : Nat) (hi : i < s.size) (h : 128 ≤ (s.get! i).toNat) : 128 ≤ (Utf8.decode s i).1 ∧ 1 ≤ (Utf8.decode s i).2 ∧ i + (Utf8.decode s i).2 ≤ s.size ∧ ∀ j, j < (Utf8.decode s i).2 → 128 ≤ (s.get! (i + j)).toNat := by
  have h0 : 128 ≤ (s.get! (i + 0)).toNat := h
  unfold Utf8.decode Utf8.runeError
  simp only []
  have key : ∀ n : Nat, 1 ≤ n → (∀ k, 1 ≤ k → k < n → i + k < s.size ∧ 128 ≤ (s.get! (i + k)).toNat) → i + n ≤ s.size ∧ ∀ j, j < n → 128 ≤ (s.get! (i + j)).toNat := by
    intro n h1 hk
    constructor
    · by_cases e : n = 1
      · omega
      · have := (hk (n - 1) (by omega) (by omega)).1
        omega
    · intro j hj
      by_cases e : j = 0
      · subst e; exact h0
      · exact (hk j (by omega) hj).2
  have one := key 1 (Nat.le_refl _) (fun k a b => by omega)
  simp only [Bool.and_eq_true, decide_eq_true_eq, beq_iff_eq]
  repeat' split
  all_goals first
    | (exfalso; omega)
    | exact ⟨by omega, by omega, one⟩
    | skip
  · exact ⟨by omega, by omega, key 2 (by omega) (fun k a b => by
      have : k = 1 := by omega
      subst this
      omega)⟩
  · exact ⟨by omega, by omega, key 3 (by omega) (fun k a b => by
      have : k = 1 ∨ k = 2 := by omega
      rcases this with rfl | rfl <;> omega)⟩
  · exact ⟨by omega, by omega, key 4 (by omega) (fun k a b => by
      have : k = 1 ∨ k = 2 ∨ k = 3 := by omega
      rcases this with rfl | rfl | rfl <;> omega)⟩

theorem get_list (s : ByteArray) (i : Nat) (h : i < s.size) : s.data.toList[i]? = some (s.get! i) := by
  have e : s.get! i = s.data[i]'h := by
    rw [ByteArray.get!]
    exact getElem!_pos s.data i h
  rw [e]
  simp [Array.getElem?_toList]
/-- Bytes from a place to another. -/
def mdB (s : ByteArray) (a b : Nat) : List UInt8 := (s.data.toList.drop a).take (b - a)
theorem mdB_toList (s : ByteArray) (a b : Nat) : (s.extract a b).data.toList = mdB s a b := by
  unfold mdB
  rw [ByteArray.data_extract, Array.toList_extract, List.extract]
theorem mdB_snoc (s : ByteArray) (a b n : Nat) (hab : a ≤ b) (_h : b + n ≤ s.size) : mdB s a (b + n) = mdB s a b ++ mdB s b (b + n) := by
  unfold mdB
  rw [show b + n - a = (b - a) + n by omega, show b + n - b = n by omega, List.take_add, List.drop_drop, show a + (b - a) = b by omega]
theorem mdB_mem {s : ByteArray} {a n : Nat} (hw : a + n ≤ s.size) (h : ∀ j, j < n → sepB (s.get! (a + j)) = false) : ∀ c ∈ mdB s a (a + n), sepB c = false := by
  intro c hc
  unfold mdB at hc
  obtain ⟨j, hj⟩ := List.mem_iff_getElem?.1 hc
  rw [show a + n - a = n by omega, List.getElem?_take] at hj
  by_cases hjn : j < n
  · rw [if_pos hjn, List.getElem?_drop, get_list s (a + j) (by omega)] at hj
    cases hj
    exact h j hjn
  · rw [if_neg hjn] at hj
    cases hj
theorem drop_mdB (s : ByteArray) (a n : Nat) : s.data.toList.drop a = mdB s a (a + n) ++ s.data.toList.drop (a + n) := by
  unfold mdB
  rw [show a + n - a = n by omega, ← List.drop_drop, List.take_append_drop]
def curOf (s : ByteArray) (pos : Nat) : Option Nat → List UInt8
  | none => []
  | some a => mdB s a pos
theorem mdB_ne {s : ByteArray} {a b : Nat} (h : a < b) (hb : b ≤ s.size) : mdB s a b ≠ [] := by
  intro e
  have := congrArg List.length e
  unfold mdB at this
  simp only [List.length_take, List.length_drop, List.length_nil, Array.length_toList] at this
  have : s.data.size = s.size := rfl
  omega
def pcs (s : ByteArray) (l : List (Nat × Nat)) : List (List UInt8) := l.map fun x => mdB s x.1 x.2
theorem spans_wd (s : ByteArray) : ∀ (f pos : Nat) (st : Option Nat) (acc : List (Nat × Nat)), pos ≤ s.size → s.size - pos ≤ f → (∀ a, st = some a → a < pos) →
    pcs s (closeSpans s (spansFromP sepR s f pos st acc)) = pcs s acc ++ wdF (s.data.toList.drop pos) (curOf s pos st)
  | f, pos, st, acc, hp, hf, hst => by
    by_cases he : pos < s.size
    · obtain ⟨f, rfl⟩ : ∃ g, f = g + 1 := ⟨f - 1, by omega⟩
      unfold spansFromP
      rw [if_pos he]
      by_cases h7 : (s.get! pos).toNat < 128
      · rw [decode_ascii s pos h7]
        have hd : s.data.toList.drop pos = s.get! pos :: s.data.toList.drop (pos + 1) := by
          rw [List.drop_eq_getElem?_toList_append, get_list s pos he]
          rfl
        simp only []
        by_cases hs : sepR (s.get! pos).toNat = true
        · rw [if_pos hs, hd, wdF, sepB_nat, hs, if_pos rfl]
          cases st with
          | none =>
            simp only []
            rw [spans_wd s f (pos + 1) none acc (by omega) (by omega) (by simp)]
            simp [curOf]
          | some a =>
            have ha := hst a rfl
            simp only []
            rw [spans_wd s f (pos + 1) none _ (by omega) (by omega) (by simp), if_neg (show curOf s pos (some a) ≠ [] from mdB_ne ha hp)]
            simp [pcs, curOf]
        · have hs' : sepR (s.get! pos).toNat = false := by simpa using hs
          have hone : mdB s pos (pos + 1) = [s.get! pos] := by
            unfold mdB
            rw [hd]
            simp
          rw [if_neg hs, hd, wdF, sepB_nat, hs', if_neg (by decide)]
          cases st with
          | none =>
            simp only []
            rw [spans_wd s f (pos + 1) (some pos) acc (by omega) (by omega) (fun a e => by cases e; omega)]
            simp [curOf, hone]
          | some a =>
            have ha := hst a rfl
            simp only []
            rw [spans_wd s f (pos + 1) (some a) acc (by omega) (by omega) (fun a' e => by cases e; omega)]
            simp only [curOf]
            rw [mdB_snoc s a pos 1 (by omega) (by omega), hone]
      · obtain ⟨q1, q2, q3, q4⟩ := decode_wide s pos he (by omega)
        generalize Utf8.decode s pos = d at *
        obtain ⟨r, n⟩ := d
        simp only [] at q1 q2 q3 q4 ⊢
        rw [sepR_wide q1, if_neg (by decide)]
        have hskip : ∀ c ∈ mdB s pos (pos + n), sepB c = false := mdB_mem q3 (fun j hj => by rw [sepB_nat]; exact sepR_wide (q4 j hj))
        rw [drop_mdB s pos n, wdF_skip _ _ _ hskip]
        cases st with
        | none =>
          simp only []
          rw [spans_wd s f (pos + n) (some pos) acc q3 (by omega) (fun a e => by cases e; omega)]
          simp [curOf]
        | some a =>
          have ha := hst a rfl
          simp only []
          rw [spans_wd s f (pos + n) (some a) acc q3 (by omega) (fun a' e => by cases e; omega)]
          simp only [curOf]
          rw [mdB_snoc s a pos n (by omega) q3]
    · rw [spansFromP_end _ _ _ _ _ _ he]
      have e1 : s.data.toList.drop pos = [] := List.drop_eq_nil_of_le (by simpa using (by omega : s.size ≤ pos))
      have e2 : pos = s.size := by omega
      rw [e1, wdF]
      cases st with
      | none => simp [closeSpans, pcs, curOf]
      | some a =>
        have ha := hst a rfl
        rw [if_neg (show curOf s pos (some a) ≠ [] from mdB_ne ha hp)]
        simp [closeSpans, pcs, curOf, e2]
/-- The shelf's pieces are the words. -/
theorem fields_wd (s : ByteArray) : (goFieldsP sepR s).map (fun x => x.data.toList) = wd s.data.toList := by
  have h := spans_wd s s.size 0 none [] (Nat.zero_le _) (Nat.le_refl _) (by simp)
  simp only [curOf, List.drop_zero] at h
  unfold wd
  rw [← show pcs s [] ++ wdF s.data.toList [] = wdF s.data.toList [] by simp [pcs], ← h]
  unfold goFieldsP spansOfP pcs
  rw [List.map_map]
  refine List.map_congr_left fun x _ => ?_
  exact mdB_toList s _ _

def lnG : List UInt8 → List UInt8 → List (List UInt8)
  | [], cur => [cur]
  | c :: r, cur => if c = 10 then cur :: lnG r [] else lnG r (cur ++ [c])
/-- Lines; cur: what was begun. -/
def lnF : List UInt8 → List UInt8 → List (List UInt8)
  | [], cur => if cur = [] then [] else [cur]
  | c :: r, cur => if c = 10 then cur :: lnF r [] else lnF r (cur ++ [c])
def ln (l : List UInt8) : List (List UInt8) := lnF l []
theorem lnG_ne (l cur : List UInt8) : lnG l cur ≠ [] := by
  induction l generalizing cur with
  | nil => simp [lnG]
  | cons c r ih =>
    rw [lnG]
    split
    · simp
    · exact ih _
theorem lnF_G : ∀ (l cur : List UInt8), lnF l cur = if (lnG l cur).getLast? = some [] then (lnG l cur).dropLast else lnG l cur
  | [], cur => by
    unfold lnF lnG
    by_cases h : cur = [] <;> simp [h]
  | c :: r, cur => by
    unfold lnF lnG
    by_cases h : c = 10
    · have hn := lnG_ne r []
      rw [if_pos h, if_pos h, lnF_G r [], List.getLast?_cons_of_ne_nil hn, List.dropLast_cons_of_ne_nil hn]
      split <;> rfl
    · rw [if_neg h, if_neg h, lnF_G r]
theorem lnG_skip : ∀ (a r cur : List UInt8), (∀ c ∈ a, c ≠ 10) → lnG (a ++ r) cur = lnG r (cur ++ a)
  | [], r, cur, _ => by simp
  | c :: a, r, cur, h => by
    rw [List.cons_append, lnG, if_neg (h c (by simp)), lnG_skip a r _ (fun d hd => h d (by simp [hd]))]
    simp
theorem split_ln : ∀ (k : Nat) (s : ByteArray), countB s ⟨#[10]⟩ = k → (splitB ⟨#[10]⟩ 0 k s).map (fun x => x.data.toList) = lnG s.data.toList []
  | k, s, hk => by
    have h1 : indexB s ⟨#[10]⟩ = indexByte s.data.toList 10 := index_one s.data.toList 10
    rcases indexB_cases s ⟨#[10]⟩ with h | ⟨i, h, hi⟩
    · rw [splitB_miss _ _ _ _ h]
      rw [h1] at h
      have hn := indexByte_none h
      have := lnG_skip s.data.toList [] [] (fun c hc e => by
        subst e
        obtain ⟨j, hj⟩ := List.mem_iff_getElem?.1 hc
        exact hn j hj)
      rw [List.append_nil] at this
      rw [this]
      simp [lnG]
    · have hc := countB_hit s ⟨#[10]⟩ i (by decide) h
      obtain ⟨k, rfl⟩ : ∃ j, k = j + 1 := ⟨k - 1, by omega⟩
      rw [splitB_hit _ _ _ _ i h, List.map_cons, split_ln k _ (by omega)]
      rw [h1] at h
      obtain ⟨g1, g2⟩ := indexByte_some h
      have hlt : i < s.data.toList.length := (List.getElem?_eq_some_iff.1 g1).1
      have e1 : s.data.toList = s.data.toList.take i ++ (10 :: s.data.toList.drop (i + 1)) := by
        conv => lhs; rw [← List.take_append_drop i s.data.toList]
        rw [List.drop_eq_getElem?_toList_append (i := i), g1]
        rfl
      have e2 : (s.extract 0 (i + 0)).data.toList = s.data.toList.take i := by rw [extract_from_zero]; rfl
      have e3 : (s.extract (i + (ByteArray.mk #[10]).size) s.size).data.toList = s.data.toList.drop (i + 1) := by rw [extract_to_end]; rfl
      rw [e2, e3]
      conv => rhs; rw [e1]
      rw [lnG_skip _ _ _ (fun c hc e => by
        subst e
        obtain ⟨j, hj⟩ := List.mem_iff_getElem?.1 hc
        rw [List.getElem?_take] at hj
        by_cases hji : j < i
        · rw [if_pos hji] at hj
          exact g2 j hji hj
        · rw [if_neg hji] at hj
          cases hj), lnG, if_pos rfl]
      simp
/-- What stands ahead of a sign. -/
def ahd (l : List UInt8) : List UInt8 := l.takeWhile (fun c => c != 35)
theorem takeWhile_at : ∀ (l : List UInt8) (i : Nat), l[i]? = some 35 → (∀ k, k < i → l[k]? ≠ some 35) → l.takeWhile (fun c => c != 35) = l.take i
  | [], i, h, _ => by simp at h
  | c :: r, 0, h, _ => by
    simp at h
    subst h
    rfl
  | c :: r, i + 1, h, hk => by
    have hc : c ≠ 35 := fun e => hk 0 (by omega) (by simp [e])
    rw [List.takeWhile_cons, if_pos (by simpa using hc), takeWhile_at r i (by simpa using h) (fun k hki => by have := hk (k + 1) (by omega); simpa using this)]
    rfl
theorem takeWhile_all : ∀ (l : List UInt8), (∀ c ∈ l, c ≠ 35) → l.takeWhile (fun c => c != 35) = l
  | [], _ => rfl
  | c :: r, h => by
    rw [List.takeWhile_cons, if_pos (by simpa using h c (by simp)), takeWhile_all r (fun d hd => h d (by simp [hd]))]
theorem cut_ahd (l : List UInt8) : (Lib.cut l [35]).1 = ahd l := by
  unfold Lib.cut ahd
  rw [index_one]
  by_cases h : 0 ≤ indexByte l 35
  · rw [if_pos h]
    obtain ⟨o, ho⟩ : ∃ o : Nat, indexByte l 35 = o := ⟨(indexByte l 35).toNat, by omega⟩
    obtain ⟨g1, g2⟩ := indexByte_some ho
    rw [ho, takeWhile_at l o g1 g2]
    simp
  · rw [if_neg h]
    have hg := indexByte_ge l 35
    have hn := indexByte_none (l := l) (c := 35) (by omega)
    refine (takeWhile_all l fun c hc => ?_).symm
    rintro rfl
    obtain ⟨j, hj⟩ := List.mem_iff_getElem?.1 hc
    exact hn j hj
def getW (w : List (List UInt8)) (i : Nat) : List UInt8 := w.getD i []
def sheetW : List UInt8 := [115, 104, 101, 101, 116]
/-- What the first line says: a code, and the sizes. -/
def szS (w : List (List UInt8)) : Int × Nat × Nat :=
  if w.length ≠ 3 ∨ getW w 0 ≠ sheetW then (1, 0, 0) else
  match num (getW w 1), num (getW w 2) with
  | some a, some b => if (1 ≤ a ∧ a ≤ 8) ∧ (1 ≤ b ∧ b ≤ 8) then (0, a, b) else (3, 0, 0)
  | _, _ => (1, 0, 0)
def ltI (c : UInt8) : Int := ((ltr c).getD 0 : Nat)
def rowOk (W : Nat) (w : List (List UInt8)) : Bool := decide (w.length = 1) && decide ((getW w 0).length = W) && (getW w 0).all (fun c => (ltr c).isSome)
/-- Letters, laid from a place on. -/
def stM (m : List Int) (b : Nat) : List UInt8 → List Int
  | [] => m
  | c :: r => stM (m.set b (ltI c)) (b + 1) r
theorem stM_length : ∀ (l : List UInt8) (m : List Int) (b : Nat), (stM m b l).length = m.length
  | [], _, _ => rfl
  | c :: r, m, b => by rw [stM, stM_length r, List.length_set]
theorem stM_snoc : ∀ (l : List UInt8) (m : List Int) (b : Nat) (c : UInt8), stM m b (l ++ [c]) = (stM m b l).set (b + l.length) (ltI c)
  | [], m, b, c => by simp [stM]
  | d :: r, m, b, c => by
    rw [List.cons_append, stM, stM_snoc r, stM, List.length_cons]
    congr 1
    omega
theorem ltI_bd (c : UInt8) : 0 ≤ ltI c ∧ ltI c ≤ 15 := by
  unfold ltI
  cases h : ltr c with
  | none => simp
  | some n =>
    have := ltr_le h
    simp
    omega
theorem stM_bd : ∀ (l : List UInt8) (m : List Int) (b : Nat), (∀ z ∈ m, 0 ≤ z ∧ z ≤ 15) → ∀ z ∈ stM m b l, 0 ≤ z ∧ z ≤ 15
  | [], _, _, h => h
  | c :: r, m, b, h => by
    rw [stM]
    refine stM_bd r _ _ (fun z hz => ?_)
    rcases List.mem_or_eq_of_mem_set hz with hz | rfl
    · exact h z hz
    · exact ltI_bd c
/-- A crease's letter. -/
def kdW (w : List UInt8) : Int := if w = [109] ∨ w = [226, 136, 167] then 1 else if w = [118] ∨ w = [226, 136, 168] then 2 else 0
def wthn (W H a b : Nat) : Bool := decide (a ≤ 2 * W) && decide (b ≤ 2 * H) && decide (a % 2 = b % 2)
/-- What a line says of creases: a code, and the creases. inn: which edges are inner. -/
def crS (W H : Nat) (inn : E4 → Bool) (cs : List C5) (w : List (List UInt8)) : Int × List C5 :=
  if w.length ≠ 5 ∨ kdW (getW w 0) = 0 then (1, cs) else
  match num (getW w 1), num (getW w 2), num (getW w 3), num (getW w 4) with
  | some a, some b, some c, some d =>
    if !(wthn W H a b && wthn W H c d) || (egs a b c d).isEmpty then (3, cs)
    else if !((egs a b c d).all inn) then (5, cs)
    else if (egs a b c d).any (fun e => decide (kdc cs e ≠ 0)) then (6, cs)
    else (0, putA cs (egs a b c d) (kdW (getW w 0)))
  | _, _, _, _ => (1, cs)
structure RS where
  W : Nat
  H : Nat
  rows : Nat
  mask : List Int
  cs : List C5
def RS0 : RS := ⟨0, 0, 0, [], []⟩
/-- One line that has words. -/
def stp (inn : Nat → Nat → List Int → E4 → Bool) (st : RS) (w : List (List UInt8)) : Int × RS :=
  if st.W = 0 then ((szS w).1, ⟨(szS w).2.1, (szS w).2.2, 0, List.replicate ((szS w).2.1 * (szS w).2.2) 0, []⟩)
  else if st.rows < st.H then
    (if rowOk st.W w then 0 else 1, { st with rows := st.rows + 1, mask := stM st.mask ((st.H - 1 - st.rows) * st.W) (getW w 0) })
  else ((crS st.W st.H (inn st.W st.H st.mask) st.cs w).1, { st with cs := (crS st.W st.H (inn st.W st.H st.mask) st.cs w).2 })
/-- All lines from the i-th on: a code, where, and what came of them. -/
def rdF (inn : Nat → Nat → List Int → E4 → Bool) : RS → Nat → List (List UInt8) → Int × Nat × RS
  | st, i, [] => if st.W = 0 ∨ st.rows < st.H then (1, i + 1, st) else (0, 0, st)
  | st, i, x :: r =>
    if wd (ahd x) = [] then rdF inn st (i + 1) r
    else if (stp inn st (wd (ahd x))).1 = 0 then rdF inn (stp inn st (wd (ahd x))).2 (i + 1) r
    else ((stp inn st (wd (ahd x))).1, i + 1, st)
/-- The next line that has words. -/
def nx : Nat → List (List UInt8) → Option (Nat × List (List UInt8))
  | _, [] => none
  | i, x :: r => if wd (ahd x) = [] then nx (i + 1) r else some (i, wd (ahd x))
theorem nx_le : ∀ (l : List (List UInt8)) (i j : Nat) (w : List (List UInt8)), nx i l = some (j, w) → i ≤ j ∧ j < i + l.length ∧ w ≠ []
  | [], i, j, w, h => by simp [nx] at h
  | x :: r, i, j, w, h => by
    rw [nx] at h
    split at h
    · have := nx_le r (i + 1) j w h
      rw [List.length_cons]
      exact ⟨by omega, by omega, this.2.2⟩
    · rename_i hne
      simp only [Option.some.injEq, Prod.mk.injEq] at h
      obtain ⟨rfl, rfl⟩ := h
      exact ⟨Nat.le_refl _, by simp, hne⟩
theorem rdF_none (inn : Nat → Nat → List Int → E4 → Bool) : ∀ (l : List (List UInt8)) (i : Nat) (st : RS), nx i l = none → rdF inn st i l = rdF inn st (i + l.length) []
  | [], i, st, _ => rfl
  | x :: r, i, st, h => by
    rw [nx] at h
    conv => lhs; rw [rdF]
    split at h
    · rename_i he
      rw [if_pos he, rdF_none inn r (i + 1) st h, List.length_cons, show i + 1 + r.length = i + (r.length + 1) by omega]
    · cases h
theorem rdF_some (inn : Nat → Nat → List Int → E4 → Bool) : ∀ (l : List (List UInt8)) (i j : Nat) (w : List (List UInt8)) (st : RS), nx i l = some (j, w) →
    rdF inn st i l = if (stp inn st w).1 = 0 then rdF inn (stp inn st w).2 (j + 1) (l.drop (j + 1 - i)) else ((stp inn st w).1, j + 1, st)
  | [], i, j, w, st, h => by simp [nx] at h
  | x :: r, i, j, w, st, h => by
    have hle := nx_le _ _ _ _ h
    rw [nx] at h
    rw [rdF]
    split at h
    · rename_i he
      have h2 := nx_le _ _ _ _ h
      rw [if_pos he, rdF_some inn r (i + 1) j w st h, show j + 1 - i = (j + 1 - (i + 1)) + 1 by omega, List.drop_succ_cons]
    · rename_i he
      simp only [Option.some.injEq, Prod.mk.injEq] at h
      obtain ⟨rfl, rfl⟩ := h
      rw [if_neg he, show i + 1 - i = 0 + 1 by omega, List.drop_succ_cons, List.drop_zero]
end Go.Proofs.YtehmoacggikfmaaGreatDoor
namespace Go.Proofs.YtehmoacggikfmaaGreatDoor
open Go.RowKit

theorem bl_refl (w : World) : Below w.heap.size w w := Below.refl _ _
theorem bl_alloc {w v : World} {o : Obj} (h : Below w.heap.size w v) : Below w.heap.size w (v.alloc o) := h.alloc h.size _
theorem bl_drew {w v : World} (h : Below w.heap.size w v) : Below w.heap.size w v.drew := h.drew
theorem bl_drewN {w v : World} {n : Nat} (h : Below w.heap.size w v) : Below w.heap.size w (v.drewN n) := ⟨h.os, h.tape, h.output, h.size, h.block⟩
theorem bl_via {w v u : World} (h : Below w.heap.size w v) (k : Below v.heap.size v u) : Below w.heap.size w u := h.trans (k.mono h.size)
theorem bl_set {w v : World} {p : Addr} {u : Value} (h : Below w.heap.size w v) (hp : w.heap.size ≤ p.block) : Below w.heap.size w (v.setCell p u) := h.setCell hp _

/-- A map's six numbers in a row of memory. -/
def Mp (w : World) (g : Nat) (a b c d e f : Int) : Prop :=
  w.cell? ⟨g, 0, none⟩ = some (.int .i64 a) ∧ w.cell? ⟨g, 1, none⟩ = some (.int .i64 b) ∧ w.cell? ⟨g, 2, none⟩ = some (.int .i64 c) ∧ w.cell? ⟨g, 3, none⟩ = some (.int .i64 d) ∧ w.cell? ⟨g, 4, none⟩ = some (.int .i64 e) ∧ w.cell? ⟨g, 5, none⟩ = some (.int .i64 f)
/-- A point's two numbers. -/
def Pt (w : World) (g : Nat) (x y : Int) : Prop := w.cell? ⟨g, 0, none⟩ = some (.int .i64 x) ∧ w.cell? ⟨g, 1, none⟩ = some (.int .i64 y)
/-- A triangle's three numbers. -/
def Tr (w : World) (g : Nat) (x y k : Int) : Prop := w.cell? ⟨g, 0, none⟩ = some (.int .i64 x) ∧ w.cell? ⟨g, 1, none⟩ = some (.int .i64 y) ∧ w.cell? ⟨g, 2, none⟩ = some (.int .i64 k)
/-- The first six cells of a row may be written. -/
def Fr (w : World) (g : Nat) : Prop :=
  w.frozen? ⟨g, 0, none⟩ = false ∧ w.frozen? ⟨g, 1, none⟩ = false ∧ w.frozen? ⟨g, 2, none⟩ = false ∧ w.frozen? ⟨g, 3, none⟩ = false ∧ w.frozen? ⟨g, 4, none⟩ = false ∧ w.frozen? ⟨g, 5, none⟩ = false

theorem cl_kept {w wx : World} {a : Addr} {v : Value} (hb : Below w.heap.size w wx) (h : w.cell? a = some v) : wx.cell? a = some v := (hb.cell (World.block_lt_of_cell? _ _ h)).trans h
theorem Mp.kept {w wx : World} {g : Nat} {a b c d e f : Int} (h : Mp w g a b c d e f) (hb : Below w.heap.size w wx) : Mp wx g a b c d e f := by
  obtain ⟨h0, h1, h2, h3, h4, h5⟩ := h
  exact ⟨cl_kept hb h0, cl_kept hb h1, cl_kept hb h2, cl_kept hb h3, cl_kept hb h4, cl_kept hb h5⟩
theorem Pt.kept {w wx : World} {g : Nat} {a b : Int} (h : Pt w g a b) (hb : Below w.heap.size w wx) : Pt wx g a b := ⟨cl_kept hb h.1, cl_kept hb h.2⟩
theorem Tr.kept {w wx : World} {g : Nat} {a b c : Int} (h : Tr w g a b c) (hb : Below w.heap.size w wx) : Tr wx g a b c := ⟨cl_kept hb h.1, cl_kept hb h.2.1, cl_kept hb h.2.2⟩
theorem Fr.kept {w wx : World} {g : Nat} (h : Fr w g) (hg : g < w.heap.size) (hb : Below w.heap.size w wx) : Fr wx g := by
  obtain ⟨h0, h1, h2, h3, h4, h5⟩ := h
  exact ⟨(hb.frozen (p := ⟨g, 0, none⟩) hg).trans h0, (hb.frozen (p := ⟨g, 1, none⟩) hg).trans h1, (hb.frozen (p := ⟨g, 2, none⟩) hg).trans h2, (hb.frozen (p := ⟨g, 3, none⟩) hg).trans h3, (hb.frozen (p := ⟨g, 4, none⟩) hg).trans h4, (hb.frozen (p := ⟨g, 5, none⟩) hg).trans h5⟩
theorem Mp.lt {w : World} {g : Nat} {a b c d e f : Int} (h : Mp w g a b c d e f) : g < w.heap.size := World.block_lt_of_cell? (w := w) (a := ⟨g, 0, none⟩) h.1
theorem Pt.lt {w : World} {g : Nat} {a b : Int} (h : Pt w g a b) : g < w.heap.size := World.block_lt_of_cell? (w := w) (a := ⟨g, 0, none⟩) h.1
theorem Tr.lt {w : World} {g : Nat} {a b c : Int} (h : Tr w g a b c) : g < w.heap.size := World.block_lt_of_cell? (w := w) (a := ⟨g, 0, none⟩) h.1
theorem al_old {w : World} {o : Obj} {a : Addr} {v : Value} (h : w.cell? a = some v) : (w.alloc o).cell? a = some v := (World.cell?_alloc_lt _ _ _ (World.block_lt_of_cell? _ _ h)).trans h
theorem dr_old {w : World} {a : Addr} {v : Value} (h : w.cell? a = some v) : w.drew.cell? a = some v := h


def mapB (a b c d e f : Int) : Bool := ((unitB a && decide (b = 0) && decide (c = 0) && unitB d) || (decide (a = 0) && unitB b && unitB c && decide (d = 0))) && evenB e && evenB f

end Go.Proofs.YtehmoacggikfmaaGreatDoor
namespace Go.Proofs
open Go.Shelf
def Tryz.lays137_ren : Go.Shelf.Ren := ⟨fun | 137 => 26 | 217 => 44 | 266 => 70 | n => n, fun | 9 => 9 | 5 => 5 | 3 => 3 | n => n, fun | n => n⟩
theorem Tryz.lays137 : Go.Proofs.Lays.n137 Tryz.prog Tryz.lays137_ren := {
  mixed := by kernel_rfl
  f137 := Tryz.func26.trans (congrArg some (by kernel_rfl))
  f217 := Tryz.func44.trans (congrArg some (by kernel_rfl))
  f266 := Tryz.func70.trans (congrArg some (by kernel_rfl))
  t3 := Tryz.underlying3
  a3 := Tryz.isAgg3
  z3 := Tryz.sizeOf3
  v3 := Tryz.zeroValue3
  t5 := Tryz.underlying5
  a5 := Tryz.isAgg5
  z5 := Tryz.sizeOf5
  v5 := Tryz.zeroValue5
  t9 := Tryz.underlying9
  a9 := Tryz.isAgg9
  z9 := Tryz.sizeOf9
  v9 := Tryz.zeroValue9 }
open Go.RowKit in
/-- strings.IndexByte: "IndexByte returns the index of the first instance of c in s, or -1 if c is not present in s.": IT RETURNS 'Lib.indexByte s c'; the world is as it was. (LAID: no walk: one application.) -/
theorem Tryz.strings_IndexByte (s : ByteArray) (c : Int) (w : World) :
    Calls Tryz.prog 26 #[.string s, .int .u8 c] w fun e w' => e = .returned (.int .i64 (Lib.indexByte s.data.toList c.toNat.toUInt8)) ∧ w' = w := Any.strings_IndexByte Tryz.lays137 s c w
def Tryz.lays145_ren : Go.Shelf.Ren := ⟨fun | 145 => 41 | 220 => 67 | 219 => 85 | 217 => 44 | 225 => 101 | 224 => 102 | 267 => 103 | 266 => 70 | 314 => 113 | n => n, fun | 9 => 9 | 4 => 4 | 59 => 81 | 3 => 3 | 5 => 5 | 46 => 114 | 146 => 135 | 51 => 134 | n => n, fun | 1 => 0 | n => n⟩
theorem Tryz.lays145 : Go.Proofs.Lays.n145 Tryz.prog Tryz.lays145_ren := {
  mixed := by kernel_rfl
  f145 := Tryz.func41.trans (congrArg some (by kernel_rfl))
  f217 := Tryz.func44.trans (congrArg some (by kernel_rfl))
  f219 := Tryz.func85.trans (congrArg some (by kernel_rfl))
  f220 := Tryz.func67.trans (congrArg some (by kernel_rfl))
  f224 := Tryz.func102.trans (congrArg some (by kernel_rfl))
  f225 := Tryz.func101.trans (congrArg some (by kernel_rfl))
  f266 := Tryz.func70.trans (congrArg some (by kernel_rfl))
  f267 := Tryz.func103.trans (congrArg some (by kernel_rfl))
  f314 := Tryz.func113.trans (congrArg some (by kernel_rfl))
  t3 := Tryz.underlying3
  a3 := Tryz.isAgg3
  z3 := Tryz.sizeOf3
  v3 := Tryz.zeroValue3
  t4 := Tryz.underlying4
  a4 := Tryz.isAgg4
  z4 := Tryz.sizeOf4
  v4 := Tryz.zeroValue4
  t5 := Tryz.underlying5
  a5 := Tryz.isAgg5
  z5 := Tryz.sizeOf5
  v5 := Tryz.zeroValue5
  t9 := Tryz.underlying9
  a9 := Tryz.isAgg9
  z9 := Tryz.sizeOf9
  v9 := Tryz.zeroValue9
  t46 := Tryz.underlying114
  a46 := Tryz.isAgg114
  z46 := Tryz.sizeOf114
  v46 := Tryz.zeroValue114
  t51 := Tryz.underlying134
  a51 := Tryz.isAgg134
  z51 := Tryz.sizeOf134
  v51 := Tryz.zeroValue134
  t59 := Tryz.underlying81
  a59 := Tryz.isAgg81
  z59 := Tryz.sizeOf81
  v59 := Tryz.zeroValue81
  t146 := Tryz.underlying135
  a146 := Tryz.isAgg135
  z146 := Tryz.sizeOf135
  v146 := Tryz.zeroValue135
  g1 := by kernel_rfl }
open Go.RowKit Go.Lib in
/-- strings.Cut: "Cut slices s around the first instance of sep, returning the text before and after sep. The found result reports whether sep appears in s. If sep does not appear in s, cut returns s, "", false.": IT RETURNS 'Lib.cut s sep'; the world is as it was but for the count of draws. (LAID: no walk: one application.) -/
theorem Tryz.strings_Cut (s sep : ByteArray) (m : Int) (w : World) (hs : s.size < 4294967281) (hm : w.cell? ⟨0, 0, none⟩ = some (.int .i64 m)) :
    Calls Tryz.prog 41 #[.string s, .string sep] w fun e w' => e = .returned (.tuple #[.string ⟨(Lib.cut s.data.toList sep.data.toList).1.toArray⟩, .string ⟨(Lib.cut s.data.toList sep.data.toList).2.1.toArray⟩, .bool (Lib.cut s.data.toList sep.data.toList).2.2]) ∧ ∃ n, w' = w.drewN n := Any.strings_Cut Tryz.lays145 s sep m w hs hm
def Tryz.lays146_ren : Go.Shelf.Ren := ⟨fun | 146 => 21 | 221 => 40 | 268 => 64 | 138 => 65 | 143 => 66 | 195 => 82 | 197 => 83 | 218 => 84 | 219 => 85 | 260 => 100 | 217 => 44 | 225 => 101 | 224 => 102 | 267 => 103 | 266 => 70 | 314 => 113 | n => n, fun | 9 => 9 | 31 => 33 | 3 => 3 | 4 => 4 | 0 => 0 | 105 => 127 | 21 => 21 | 5 => 5 | 46 => 114 | 119 => 159 | 139 => 162 | 138 => 161 | 146 => 135 | 51 => 134 | n => n, fun | 1 => 0 | 3 => 1 | 4 => 2 | n => n⟩
theorem Tryz.lays146 : Go.Proofs.Lays.n146 Tryz.prog Tryz.lays146_ren := {
  mixed := by kernel_rfl
  f138 := Tryz.func65.trans (congrArg some (by kernel_rfl))
  f143 := Tryz.func66.trans (congrArg some (by kernel_rfl))
  f146 := Tryz.func21.trans (congrArg some (by kernel_rfl))
  f195 := Tryz.func82.trans (congrArg some (by kernel_rfl))
  f197 := Tryz.func83.trans (congrArg some (by kernel_rfl))
  f217 := Tryz.func44.trans (congrArg some (by kernel_rfl))
  f218 := Tryz.func84.trans (congrArg some (by kernel_rfl))
  f219 := Tryz.func85.trans (congrArg some (by kernel_rfl))
  f221 := Tryz.func40.trans (congrArg some (by kernel_rfl))
  f224 := Tryz.func102.trans (congrArg some (by kernel_rfl))
  f225 := Tryz.func101.trans (congrArg some (by kernel_rfl))
  f260 := Tryz.func100.trans (congrArg some (by kernel_rfl))
  f266 := Tryz.func70.trans (congrArg some (by kernel_rfl))
  f267 := Tryz.func103.trans (congrArg some (by kernel_rfl))
  f268 := Tryz.func64.trans (congrArg some (by kernel_rfl))
  f314 := Tryz.func113.trans (congrArg some (by kernel_rfl))
  t0 := Tryz.underlying0
  a0 := Tryz.isAgg0
  z0 := Tryz.sizeOf0
  v0 := Tryz.zeroValue0
  t3 := Tryz.underlying3
  a3 := Tryz.isAgg3
  z3 := Tryz.sizeOf3
  v3 := Tryz.zeroValue3
  t4 := Tryz.underlying4
  a4 := Tryz.isAgg4
  z4 := Tryz.sizeOf4
  v4 := Tryz.zeroValue4
  t5 := Tryz.underlying5
  a5 := Tryz.isAgg5
  z5 := Tryz.sizeOf5
  v5 := Tryz.zeroValue5
  t9 := Tryz.underlying9
  a9 := Tryz.isAgg9
  z9 := Tryz.sizeOf9
  v9 := Tryz.zeroValue9
  t21 := Tryz.underlying21
  a21 := Tryz.isAgg21
  z21 := Tryz.sizeOf21
  v21 := Tryz.zeroValue21
  t31 := Tryz.underlying33
  a31 := Tryz.isAgg33
  z31 := Tryz.sizeOf33
  v31 := Tryz.zeroValue33
  t46 := Tryz.underlying114
  a46 := Tryz.isAgg114
  z46 := Tryz.sizeOf114
  v46 := Tryz.zeroValue114
  t51 := Tryz.underlying134
  a51 := Tryz.isAgg134
  z51 := Tryz.sizeOf134
  v51 := Tryz.zeroValue134
  t105 := Tryz.underlying127
  a105 := Tryz.isAgg127
  z105 := Tryz.sizeOf127
  v105 := Tryz.zeroValue127
  t119 := Tryz.underlying159
  a119 := Tryz.isAgg159
  z119 := Tryz.sizeOf159
  t138 := Tryz.underlying161
  a138 := Tryz.isAgg161
  z138 := Tryz.sizeOf161
  v138 := Tryz.zeroValue161
  t139 := Tryz.underlying162
  a139 := Tryz.isAgg162
  z139 := Tryz.sizeOf162
  v139 := Tryz.zeroValue162
  t146 := Tryz.underlying135
  a146 := Tryz.isAgg135
  z146 := Tryz.sizeOf135
  v146 := Tryz.zeroValue135
  g1 := by kernel_rfl
  g3 := by kernel_rfl
  g4 := by kernel_rfl }
open Go.RowKit Go.Lib in
/-- strings.Split. (LAID: no walk: one application.) -/
theorem Tryz.strings_Split (s sep : ByteArray) (m : Int) (w : World) (hs : s.size < 4294967281) (hm : w.cell? ⟨0, 0, none⟩ = some (.int .i64 m)) (h1 : 1 ≤ sep.size) :
    Calls Tryz.prog 21 #[.string s, .string sep] w fun e w' =>
      e = .returned (.slice (some ⟨w.heap.size, 0, none⟩) (Lib.countB s sep + 1) (Lib.countB s sep + 1)) ∧ w' = w.alloc (.cells ((Lib.splitB sep 0 (Lib.countB s sep) s).map Value.string).toArray 9) := Any.strings_Split Tryz.lays146 (by kernel_rfl) s sep m w hs hm h1
def Tryz.lays229_ren : Go.Shelf.Ren := ⟨fun | 229 => 68 | n => n, fun | 9 => 9 | 40 => 108 | 31 => 33 | 152 => 129 | 3 => 3 | 0 => 0 | 4 => 4 | 21 => 21 | 154 => 131 | n => n, fun | n => n⟩
theorem Tryz.lays229 : Go.Proofs.Lays.n229 Tryz.prog Tryz.lays229_ren := {
  mixed := by kernel_rfl
  f229 := Tryz.func68.trans (congrArg some (by kernel_rfl))
  t0 := Tryz.underlying0
  a0 := Tryz.isAgg0
  z0 := Tryz.sizeOf0
  v0 := Tryz.zeroValue0
  t3 := Tryz.underlying3
  a3 := Tryz.isAgg3
  z3 := Tryz.sizeOf3
  v3 := Tryz.zeroValue3
  t4 := Tryz.underlying4
  a4 := Tryz.isAgg4
  z4 := Tryz.sizeOf4
  v4 := Tryz.zeroValue4
  t9 := Tryz.underlying9
  a9 := Tryz.isAgg9
  z9 := Tryz.sizeOf9
  v9 := Tryz.zeroValue9
  t21 := Tryz.underlying21
  a21 := Tryz.isAgg21
  z21 := Tryz.sizeOf21
  v21 := Tryz.zeroValue21
  t31 := Tryz.underlying33
  a31 := Tryz.isAgg33
  z31 := Tryz.sizeOf33
  v31 := Tryz.zeroValue33
  t40 := Tryz.underlying108
  a40 := Tryz.isAgg108
  z40 := Tryz.sizeOf108
  v40 := Tryz.zeroValue108
  t152 := Tryz.underlying129
  a152 := Tryz.isAgg129
  z152 := Tryz.sizeOf129
  v152 := Tryz.zeroValue129
  t154 := Tryz.underlying131
  a154 := Tryz.isAgg131
  z154 := Tryz.sizeOf131
  v154 := Tryz.zeroValue131 }
open Go.RowKit Go.Lib in
theorem Tryz.strings_FieldsFunc_runes (g : Nat) (lb : Array Value) (eg : ∀ args w, (callFunc g args).run Tryz.prog w = .ok (.enter g args) w) (p : Nat → Bool) (s : ByteArray) (w : World) (hs : s.size ≤ 4294967296) (hp : PredAtRunes Tryz.prog g lb p w) :
    Calls Tryz.prog 68 #[.string s, .func (.func g) #[] lb] w fun e w' => ∃ A, e = .returned (.slice (some ⟨A, 0, none⟩) (Lib.goFieldsP p s).length (Lib.goFieldsP p s).length) ∧ w.heap.size ≤ A ∧
      w'.ownsRow w.heap.size 9 1 (.slice (some ⟨A, 0, none⟩) (Lib.goFieldsP p s).length (Lib.goFieldsP p s).length) (Lib.goFieldsP p s).length ((Lib.goFieldsP p s).map Value.string) ∧ Below w.heap.size w w' := Any.strings_FieldsFunc_runes Tryz.lays229 g lb eg p s w hs hp (by kernel_rfl) (by kernel_rfl)
open Go.RowKit Go.Lib in
/-- .. over a hand of the authors' house's premise as it stands. (LAID: no walk: one application.) -/
theorem Tryz.strings_FieldsFunc (g : Nat) (lb : Array Value) (eg : ∀ args w, (callFunc g args).run Tryz.prog w = .ok (.enter g args) w) (p : Nat → Bool) (s : ByteArray) (w : World) (hs : s.size ≤ 4294967296) (hp : PredAt Tryz.prog g lb encR p w) :
    Calls Tryz.prog 68 #[.string s, .func (.func g) #[] lb] w fun e w' => ∃ A, e = .returned (.slice (some ⟨A, 0, none⟩) (Lib.goFieldsP p s).length (Lib.goFieldsP p s).length) ∧ w.heap.size ≤ A ∧
      w'.ownsRow w.heap.size 9 1 (.slice (some ⟨A, 0, none⟩) (Lib.goFieldsP p s).length (Lib.goFieldsP p s).length) (Lib.goFieldsP p s).length ((Lib.goFieldsP p s).map Value.string) ∧ Below w.heap.size w w' := Any.strings_FieldsFunc Tryz.lays229 g lb eg p s w hs hp (by kernel_rfl) (by kernel_rfl)
end Go.Proofs
namespace Go.Proofs
open Go.Shelf
def Tryz.lays264_ren : Go.Shelf.Ren := ⟨fun | 264 => 88 | n => n, fun | 53 => 137 | 46 => 114 | n => n, fun | n => n⟩
theorem Tryz.lays264 : Go.Proofs.Lays.n264 Tryz.prog Tryz.lays264_ren := {
  mixed := by kernel_rfl
  f264 := Tryz.func88.trans (congrArg some (by kernel_rfl))
  t46 := Tryz.underlying114
  a46 := Tryz.isAgg114
  z46 := Tryz.sizeOf114
  v46 := Tryz.zeroValue114
  t53 := Tryz.underlying137
  a53 := Tryz.isAgg137
  z53 := Tryz.sizeOf137
  v53 := Tryz.zeroValue137 }
open Go.RowKit Go.Lib in
theorem Tryz.bits_Mul64 (x y : Nat) (hx : x < 18446744073709551616) (hy : y < 18446744073709551616) (w : World) :
    Calls Tryz.prog 88 #[.int .u64 x, .int .u64 y] w fun e w' => e = .returned (.tuple #[.int .u64 ((x * y / 18446744073709551616 : Nat) : Int), .int .u64 ((x * y % 18446744073709551616 : Nat) : Int)]) ∧ w' = w := Any.bits_Mul64 Tryz.lays264 x y hx hy w
def Tryz.lays212_ren : Go.Shelf.Ren := ⟨fun | 212 => 73 | 263 => 87 | 264 => 88 | n => n, fun | 46 => 114 | 51 => 134 | 146 => 135 | 53 => 137 | 148 => 138 | n => n, fun | n => n⟩
theorem Tryz.lays212 : Go.Proofs.Lays.n212 Tryz.prog Tryz.lays212_ren := {
  mixed := by kernel_rfl
  f212 := Tryz.func73.trans (congrArg some (by kernel_rfl))
  f263 := Tryz.func87.trans (congrArg some (by kernel_rfl))
  f264 := Tryz.func88.trans (congrArg some (by kernel_rfl))
  t46 := Tryz.underlying114
  a46 := Tryz.isAgg114
  z46 := Tryz.sizeOf114
  v46 := Tryz.zeroValue114
  t51 := Tryz.underlying134
  a51 := Tryz.isAgg134
  z51 := Tryz.sizeOf134
  v51 := Tryz.zeroValue134
  t53 := Tryz.underlying137
  a53 := Tryz.isAgg137
  z53 := Tryz.sizeOf137
  v53 := Tryz.zeroValue137
  t146 := Tryz.underlying135
  a146 := Tryz.isAgg135
  z146 := Tryz.sizeOf135
  v146 := Tryz.zeroValue135
  t148 := Tryz.underlying138
  a148 := Tryz.isAgg138
  z148 := Tryz.sizeOf138
  v148 := Tryz.zeroValue138 }
open Go.RowKit Go.Lib in
/-- math/bits.Mul: "Mul returns the full-width product of x and y": on a machine of 64 bits: Mul64's. (LAID: no walk: one application.) -/
theorem Tryz.bits_Mul (x y : Nat) (hx : x < 18446744073709551616) (hy : y < 18446744073709551616) (w : World) :
    Calls Tryz.prog 73 #[.int .u64 x, .int .u64 y] w fun e w' => e = .returned (.tuple #[.int .u64 ((x * y / 18446744073709551616 : Nat) : Int), .int .u64 ((x * y % 18446744073709551616 : Nat) : Int)]) ∧ w' = w := Any.bits_Mul Tryz.lays212 x y hx hy w
end Go.Proofs
namespace Go.Proofs
open Go.Shelf
def Tryz.lays113_ren : Go.Shelf.Ren := ⟨fun | 113 => 31 | n => n, fun | 28 => 22 | 3 => 3 | 4 => 4 | 9 => 9 | 20 => 20 | 0 => 0 | n => n, fun | n => n⟩
theorem Tryz.lays113 : Go.Proofs.Lays.n113 Tryz.prog Tryz.lays113_ren := {
  mixed := by kernel_rfl
  f113 := Tryz.func31.trans (congrArg some (by kernel_rfl))
  t0 := Tryz.underlying0
  a0 := Tryz.isAgg0
  z0 := Tryz.sizeOf0
  v0 := Tryz.zeroValue0
  t3 := Tryz.underlying3
  a3 := Tryz.isAgg3
  z3 := Tryz.sizeOf3
  v3 := Tryz.zeroValue3
  t4 := Tryz.underlying4
  a4 := Tryz.isAgg4
  z4 := Tryz.sizeOf4
  v4 := Tryz.zeroValue4
  t9 := Tryz.underlying9
  a9 := Tryz.isAgg9
  z9 := Tryz.sizeOf9
  v9 := Tryz.zeroValue9
  t20 := Tryz.underlying20
  a20 := Tryz.isAgg20
  z20 := Tryz.sizeOf20
  v20 := Tryz.zeroValue20
  t28 := Tryz.underlying22
  a28 := Tryz.isAgg22
  z28 := Tryz.sizeOf22
  v28 := Tryz.zeroValue22 }
open Go.Lib in
/-- slices.Max at []int: "Max returns the maximal value in x. It panics if x is empty.": OF A SLICE THAT IS NOT EMPTY IT RETURNS 'Lib.maxOf (the elements)'; the world is as it was. (Of an empty one it panics: no contract here.) (LAID: no walk: one application.) -/
theorem Tryz.slices_Max_int (b off n c : Nat) (zs : List Int) (w : World) (hn : 0 < n) (hz : n ≤ zs.length) (hbig : n ≤ 9223372036854775807) (hc : ∀ j, j < zs.length → w.cell? ⟨b, off + j, none⟩ = some (.int .i64 (zs.getD j 0))) :
    Calls Tryz.prog 31 #[.slice (some ⟨b, off, none⟩) n c] w fun e w' => e = .returned (.int .i64 (Lib.maxOf (zs.take n))) ∧ w' = w := Any.slices_Max_int Tryz.lays113 b off n c zs w hn hz hbig hc
end Go.Proofs
