/- The way along an opened strip: no step is gone twice. -/
import Derived.Test.YtblagffijppgjaaDrag
namespace Go.Proofs.Ytblagffijppgjaa
open Go.RowKit

/-- To the left at 2, else to the right. -/
def tn (d : Int × Int) (k : Int) : Int × Int := if k = 2 then (-d.2, d.1) else (d.2, -d.1)
/-- The direction of step i along a word; the point ahead of it. -/
def dw (w : List Int) : Nat → Int × Int
  | 0 => (1, 0)
  | i + 1 => tn (dw w i) (gt w i)
def pw (w : List Int) : Nat → Int × Int
  | 0 => (0, 0)
  | i + 1 => ((pw w i).1 + (dw w i).1, (pw w i).2 + (dw w i).2)
def isD (d : Int × Int) : Prop := d = (1, 0) ∨ d = (0, 1) ∨ d = (-1, 0) ∨ d = (0, -1)
theorem isD_tn {d : Int × Int} (h : isD d) (k : Int) : isD (tn d k) := by
  unfold tn
  rcases h with rfl | rfl | rfl | rfl <;> split <;> simp [isD]
theorem isD_dw (w : List Int) : ∀ i, isD (dw w i)
  | 0 => Or.inl rfl
  | i + 1 => isD_tn (isD_dw w i) _
theorem isD_small {d : Int × Int} (h : isD d) : -1 ≤ d.1 ∧ d.1 ≤ 1 ∧ -1 ≤ d.2 ∧ d.2 ≤ 1 := by
  rcases h with rfl | rfl | rfl | rfl <;> simp
theorem pw_small (w : List Int) : ∀ i : Nat, -(i : Int) ≤ (pw w i).1 ∧ (pw w i).1 ≤ (i : Int) ∧ -(i : Int) ≤ (pw w i).2 ∧ (pw w i).2 ≤ (i : Int)
  | 0 => by simp [pw]
  | i + 1 => by
    have h1 := pw_small w i
    have h2 := isD_small (isD_dw w i)
    simp only [pw]
    omega
/-- The same by the folds, the last one first. -/
def dr : List Int → Nat → Int × Int
  | [], _ => (1, 0)
  | k :: rs, i => if i % 2 = i / 2 % 2 then dr rs (i / 2) else tn (dr rs (i / 2)) k
def ps (rs : List Int) : Nat → Int × Int
  | 0 => (0, 0)
  | i + 1 => ((ps rs i).1 + (dr rs i).1, (ps rs i).2 + (dr rs i).2)
theorem tn_swap (d : Int × Int) (a b : Int) : tn (tn d a) b = tn (tn d b) a := by
  unfold tn
  split <;> split <;> simp
theorem tn_back (d : Int × Int) {k : Int} (hk : k = 1 ∨ k = 2) : tn (tn d k) (3 - k) = d := by
  rcases hk with rfl | rfl <;> simp [tn]
theorem dr_cons (k : Int) (rs : List Int) (i : Nat) : dr (k :: rs) i = if i % 2 = i / 2 % 2 then dr rs (i / 2) else tn (dr rs (i / 2)) k := rfl
theorem dr_zero : ∀ rs, dr rs 0 = (1, 0)
  | [] => rfl
  | k :: rs => by simp [dr_cons, dr_zero rs]
theorem dr_turn : ∀ (rs : List Int), (∀ k ∈ rs, k = 1 ∨ k = 2) → ∀ p, 1 ≤ p → p < 2 ^ rs.length → dr rs p = tn (dr rs (p - 1)) (pl rs p)
  | [], _, p, h1, h2 => by simp at h2; omega
  | k :: rs, h, p, h1, h2 => by
    have hk := h k (by simp)
    rw [List.length_cons, Nat.pow_succ] at h2
    rw [pl_cons, dr_cons, dr_cons]
    by_cases c : p % 2 = 1
    · rw [if_pos c, show (p - 1) / 2 = p / 2 from by omega]
      by_cases d : p % 4 = 3
      · rw [if_pos d, if_pos (by omega), if_neg (by omega), tn_back _ hk]
      · rw [if_neg d, if_neg (by omega), if_pos (by omega)]
    · have ih := dr_turn rs (fun k hk => h k (by simp [hk])) (p / 2) (by omega) (by omega)
      rw [if_neg c, show (p - 1) / 2 = p / 2 - 1 from by omega, ih]
      by_cases d : p / 2 % 2 = 0
      · rw [if_pos (by omega), if_pos (by omega)]
      · rw [if_neg (by omega), if_neg (by omega), tn_swap]
theorem dw_dr {rs : List Int} (h : ∀ k ∈ rs, k = 1 ∨ k = 2) : ∀ i, i < 2 ^ rs.length → dw (opr rs) i = dr rs i
  | 0, _ => (dr_zero rs).symm
  | i + 1, hi => by
    rw [dr_turn rs h (i + 1) (by omega) hi, dw, dw_dr h i (by omega), ← opr_at rs (i + 1) (by omega) hi, Nat.add_sub_cancel]
theorem pw_ps {rs : List Int} (h : ∀ k ∈ rs, k = 1 ∨ k = 2) : ∀ i, i ≤ 2 ^ rs.length → pw (opr rs) i = ps rs i
  | 0, _ => rfl
  | i + 1, hi => by rw [pw, ps, pw_ps h i (by omega), dw_dr h i (by omega)]
/-- Times (1 + u). -/
def up (k : Int) (q : Int × Int) : Int × Int := (q.1 + (tn q k).1, q.2 + (tn q k).2)
theorem ps_even (k : Int) (rs : List Int) : ∀ j, ps (k :: rs) (2 * j) = up k (ps rs j)
  | 0 => by simp [ps, up, tn]
  | j + 1 => by
    have ih := ps_even k rs j
    rw [show 2 * (j + 1) = 2 * j + 1 + 1 from by omega, ps, ps, ih, ps]
    rw [dr_cons, dr_cons, show (2 * j + 1) / 2 = j from by omega, show 2 * j / 2 = j from by omega]
    by_cases c : j % 2 = 0
    · rw [if_pos (by omega), if_neg (by omega)]
      unfold up tn
      split <;> simp <;> omega
    · rw [if_neg (by omega), if_pos (by omega)]
      unfold up tn
      split <;> simp <;> omega
theorem isD_dr : ∀ rs i, isD (dr rs i)
  | [], _ => Or.inl rfl
  | k :: rs, i => by
    rw [dr_cons]
    split
    · exact isD_dr rs _
    · exact isD_tn (isD_dr rs _) k
/-- A step's direction: horizontal at even places. -/
theorem dr_flat : ∀ rs i, i < 2 ^ rs.length → ((dr rs i).2 = 0 ↔ i % 2 = 0)
  | [], i, h => by
    have : i = 0 := by simpa using h
    subst this
    simp [dr]
  | k :: rs, i, h => by
    rw [List.length_cons, Nat.pow_succ] at h
    have ih := dr_flat rs (i / 2) (by omega)
    have hd := isD_dr rs (i / 2)
    rw [dr_cons]
    by_cases c : i % 2 = i / 2 % 2
    · rw [if_pos c, ih, c]
    · rw [if_neg c]
      unfold tn
      generalize dr rs (i / 2) = d at ih hd
      rcases hd with rfl | rfl | rfl | rfl <;> split <;> simp at ih ⊢ <;> omega
/-- Points by turns: the sum of their numbers. -/
theorem ps_sum : ∀ rs i, ((ps rs i).1 + (ps rs i).2) % 2 = (i : Int) % 2
  | rs, 0 => by simp [ps]
  | rs, i + 1 => by
    have ih := ps_sum rs i
    have hd := isD_dr rs i
    rw [ps]
    generalize dr rs i = d at hd
    rcases hd with rfl | rfl | rfl | rfl <;> simp <;> omega
theorem up_inj {k : Int} {a b : Int × Int} (h : up k a = up k b) : a = b := by
  obtain ⟨a1, a2⟩ := a
  obtain ⟨b1, b2⟩ := b
  unfold up tn at h
  split at h <;> simp at h ⊢ <;> omega
theorem tn_inj {k : Int} {a b : Int × Int} (h : tn a k = tn b k) : a = b := by
  obtain ⟨a1, a2⟩ := a
  obtain ⟨b1, b2⟩ := b
  unfold tn at h
  split at h <;> simp at h ⊢ <;> omega
/-- NO STEP IS GONE TWICE. -/
theorem once : ∀ (rs : List Int) (i j : Nat), i < 2 ^ rs.length → j < 2 ^ rs.length → ps rs i = ps rs j → dr rs i = dr rs j → i = j
  | [], i, j, h1, h2, _, _ => by simp at h1 h2; omega
  | k :: rs, i, j, h1, h2, hp, hd => by
    rw [List.length_cons, Nat.pow_succ] at h1 h2
    have s1 := ps_sum (k :: rs) i
    have s2 := ps_sum (k :: rs) j
    rw [hp, s2] at s1
    have ih := once rs (i / 2) (j / 2) (by omega) (by omega)
    rw [dr_cons, dr_cons] at hd
    by_cases c : i % 2 = 0
    · have ei : i = 2 * (i / 2) := by omega
      have ej : j = 2 * (j / 2) := by omega
      have e1 : ps (k :: rs) i = up k (ps rs (i / 2)) := by rw [← ps_even, ← ei]
      have e2 : ps (k :: rs) j = up k (ps rs (j / 2)) := by rw [← ps_even, ← ej]
      rw [e1, e2] at hp
      have hq := up_inj hp
      have t1 := ps_sum rs (i / 2)
      have t2 := ps_sum rs (j / 2)
      rw [hq, t2] at t1
      have hdd : dr rs (i / 2) = dr rs (j / 2) := by
        by_cases d : i / 2 % 2 = 0
        · rwa [if_pos (by omega), if_pos (by omega)] at hd
        · rw [if_neg (by omega), if_neg (by omega)] at hd
          exact tn_inj hd
      have := ih hq hdd
      omega
    · have ei : i + 1 = 2 * (i / 2 + 1) := by omega
      have ej : j + 1 = 2 * (j / 2 + 1) := by omega
      have hp1 : ps (k :: rs) (i + 1) = ps (k :: rs) (j + 1) := by
        rw [ps, ps, dr_cons, dr_cons, hp, hd]
      have e1 : ps (k :: rs) (i + 1) = up k (ps rs (i / 2 + 1)) := by rw [← ps_even, ← ei]
      have e2 : ps (k :: rs) (j + 1) = up k (ps rs (j / 2 + 1)) := by rw [← ps_even, ← ej]
      rw [e1, e2] at hp1
      have hq := up_inj hp1
      have t1 := ps_sum rs (i / 2 + 1)
      have t2 := ps_sum rs (j / 2 + 1)
      rw [hq, t2] at t1
      have hdd : dr rs (i / 2) = dr rs (j / 2) := by
        by_cases d : i / 2 % 2 = 0
        · rw [if_neg (by omega), if_neg (by omega)] at hd
          exact tn_inj hd
        · rwa [if_pos (by omega), if_pos (by omega)] at hd
      have hqq : ps rs (i / 2) = ps rs (j / 2) := by
        rw [ps, ps, hdd] at hq
        simp only [Prod.mk.injEq] at hq
        exact Prod.ext (by omega) (by omega)
      have := ih hqq hdd
      omega
/-- The way ends as far away as the root of 2^k. -/
theorem end_far : ∀ rs : List Int, (ps rs (2 ^ rs.length)).1 * (ps rs (2 ^ rs.length)).1 + (ps rs (2 ^ rs.length)).2 * (ps rs (2 ^ rs.length)).2 = ((2 ^ rs.length : Nat) : Int)
  | [] => by simp [ps, dr]
  | k :: rs => by
    have ih := end_far rs
    rw [List.length_cons, Nat.pow_succ, Nat.mul_comm, ps_even]
    generalize ps rs (2 ^ rs.length) = q at ih
    obtain ⟨a, b⟩ := q
    have e : ((2 * 2 ^ rs.length : Nat) : Int) = 2 * ((2 ^ rs.length : Nat) : Int) := by omega
    rw [e, ← ih]
    unfold up tn
    split <;> simp [Int.mul_add, Int.add_mul, Int.neg_mul, Int.mul_neg] <;> (rw [Int.mul_comm b a]; omega)
/-- How far points lie: by the greater number, by the sum. -/
def farA : Nat → Int × Int
  | 0 => (1, 1)
  | n + 1 => ((farA n).2 + 1, 2 * (farA n).1 + 1)
def within (q : Int × Int) (A B : Int) : Prop := -A ≤ q.1 ∧ q.1 ≤ A ∧ -A ≤ q.2 ∧ q.2 ≤ A ∧ q.1 + q.2 ≤ B ∧ q.1 - q.2 ≤ B ∧ -q.1 + q.2 ≤ B ∧ -q.1 - q.2 ≤ B
theorem far_in : ∀ (rs : List Int) (i : Nat), i ≤ 2 ^ rs.length → within (ps rs i) (farA rs.length).1 (farA rs.length).2
  | [], i, h => by
    have : i = 0 ∨ i = 1 := by simp at h; omega
    rcases this with rfl | rfl <;> simp [ps, dr, within, farA]
  | k :: rs, i, h => by
    rw [List.length_cons, Nat.pow_succ] at h
    have ih := far_in rs (i / 2) (by omega)
    rw [List.length_cons, farA]
    have key : within (ps (k :: rs) (2 * (i / 2))) ((farA rs.length).2) (2 * (farA rs.length).1) := by
      rw [ps_even]
      generalize ps rs (i / 2) = q at ih
      obtain ⟨a, b⟩ := q
      unfold within at ih ⊢
      unfold up tn
      simp only at ih
      split <;> simp <;> omega
    by_cases c : i % 2 = 0
    · rw [show 2 * (i / 2) = i from by omega] at key
      unfold within at key ⊢
      omega
    · have hd := isD_dr (k :: rs) (2 * (i / 2))
      rw [show i = 2 * (i / 2) + 1 from by omega, ps]
      rw [show 2 * (i / 2) = 2 * ((2 * (i / 2) + 1) / 2) from by omega] at key hd ⊢
      generalize ps (k :: rs) (2 * ((2 * (i / 2) + 1) / 2)) = q at key
      generalize dr (k :: rs) (2 * ((2 * (i / 2) + 1) / 2)) = d at hd
      unfold within at key ⊢
      rcases hd with rfl | rfl | rfl | rfl <;> simp <;> omega
theorem farA_10 : ∀ n, n ≤ 10 → (farA n).1 ≤ 94 := by decide
theorem near {rs : List Int} (h : rs.length ≤ 10) {i : Nat} (hi : i ≤ 2 ^ rs.length) : -94 ≤ (ps rs i).1 ∧ (ps rs i).1 ≤ 94 ∧ -94 ≤ (ps rs i).2 ∧ (ps rs i).2 ≤ 94 := by
  have h1 := far_in rs i hi
  have h2 := farA_10 _ h
  unfold within at h1
  omega
end Go.Proofs.Ytblagffijppgjaa
