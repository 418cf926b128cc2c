/- By any kinds there is an order. -/
import Derived.Test.YtdflindoemffaaaLawb
namespace Go.Proofs.Ytdflindoemffaaa

/-- Lists of m kinds. -/
def kl : Nat → List (List Int)
  | 0 => [[]]
  | m + 1 => (kl m).flatMap fun l => [1 :: l, 2 :: l]
theorem kl_all : ∀ (ks : List Int), (∀ x ∈ ks, x = 1 ∨ x = 2) → ks ∈ kl ks.length
  | [], _ => by simp [kl]
  | x :: ks, h => by
    have h1 := kl_all ks (fun y hy => h y (by simp [hy]))
    rw [List.length_cons, kl, List.mem_flatMap]
    refine ⟨ks, h1, ?_⟩
    rcases h x (by simp) with rfl | rfl <;> simp
/-- One stamp more, next to the last one. -/
def nxt (l : List Int) (i : Nat) (k : Int) : List Int :=
  l.flatMap fun x => if x = (i : Int) then (if decide (k = 2) = decide (i % 2 = 1) then [x, (i : Int) + 1] else [(i : Int) + 1, x]) else [x]
def wit : Nat → List Int → List Int → List Int
  | _, [], l => l
  | i, k :: ks, l => wit (i + 1) ks (nxt l i k)
def good (ks : List Int) : Bool := byP ks (wit 1 ks [1]) && (prmB (wit 1 ks [1]) && decide ((wit 1 ks [1]).length = ks.length + 1))
theorem good0 : (kl 0).all good = true := by decide +kernel
theorem good1 : (kl 1).all good = true := by decide +kernel
theorem good2 : (kl 2).all good = true := by decide +kernel
theorem good3 : (kl 3).all good = true := by decide +kernel
theorem good4 : (kl 4).all good = true := by decide +kernel
theorem good5 : (kl 5).all good = true := by decide +kernel
theorem good6 : (kl 6).all good = true := by decide +kernel
theorem good7 : (kl 7).all good = true := by decide +kernel
theorem good_any (ks : List Int) (h8 : ks.length < 8) (h : ∀ x ∈ ks, x = 1 ∨ x = 2) : good ks = true := by
  have hm := kl_all ks h
  have : ks.length = 0 ∨ ks.length = 1 ∨ ks.length = 2 ∨ ks.length = 3 ∨ ks.length = 4 ∨ ks.length = 5 ∨ ks.length = 6 ∨ ks.length = 7 := by omega
  rcases this with e | e | e | e | e | e | e | e <;> rw [e] at hm
  · exact List.all_eq_true.1 good0 ks hm
  · exact List.all_eq_true.1 good1 ks hm
  · exact List.all_eq_true.1 good2 ks hm
  · exact List.all_eq_true.1 good3 ks hm
  · exact List.all_eq_true.1 good4 ks hm
  · exact List.all_eq_true.1 good5 ks hm
  · exact List.all_eq_true.1 good6 ks hm
  · exact List.all_eq_true.1 good7 ks hm
theorem mem_ords {P : List Int → Bool} {n : Nat} {l : List Int} (hp : Pp n l) (hP : P l = true) : ∀ f (b r : List Int), l = b ++ r → r.length = f → b.length + f = n → l ∈ ords P n f b
  | 0, b, r, e, hr, _ => by
    have : r = [] := List.length_eq_zero_iff.1 hr
    rw [this, List.append_nil] at e
    rw [← e]
    unfold ords
    rw [if_pos hP]
    simp
  | f + 1, b, r, e, hr, hn => by
    match r, hr with
    | x :: r', hr =>
      have hl : l.length = n := by rw [e, List.length_append]; simp at hr; simp; omega
      have hx : gt l b.length = x := by
        rw [gt_lt (by simp at hr; omega)]
        simp [e]
      have hbd := hp.1 b.length (by simp at hr; omega)
      rw [hx] at hbd
      unfold ords
      rw [List.mem_flatMap]
      refine ⟨(x - 1).toNat, List.mem_range.2 (by omega), ?_⟩
      rw [show (((x - 1).toNat : Nat) : Int) + 1 = x by omega]
      rw [if_neg]
      · exact mem_ords hp hP f (b ++ [x]) r' (by rw [e]; simp) (by simpa using hr) (by simp; omega)
      · rw [List.contains_iff_mem]
        intro hm
        obtain ⟨k, hk, ek⟩ := mem_gt hm
        have h1 : gt l k = x := by
          rw [gt_lt (by omega), ← ek, gt_lt hk]
          simp [e, List.getElem_append_left hk]
        have := hp.2 k b.length (by omega) (by simp at hr; omega) (h1.trans hx.symm)
        omega
theorem pp_of_prm {l : List Int} (h : Prm l) : Pp l.length l := ⟨fun _ hi => h.range hi, fun _ _ hi hk e => h.inj hk hi e⟩
theorem ords_some (ks : List Int) (h8 : ks.length < 8) (h : ∀ x ∈ ks, x = 1 ∨ x = 2) : ords (byP ks) (ks.length + 1) (ks.length + 1) [] ≠ [] := by
  have hg := good_any ks h8 h
  unfold good at hg
  simp only [Bool.and_eq_true, decide_eq_true_eq] at hg
  obtain ⟨h1, h2, h3⟩ := hg
  have hp := pp_of_prm ((prm_iff _).1 h2)
  rw [h3] at hp
  have := mem_ords hp h1 (ks.length + 1) [] (wit 1 ks [1]) (by simp) h3 (by simp)
  intro e
  rw [e] at this
  simp at this
theorem ords_P (P : List Int → Bool) (n : Nat) : ∀ f b, ∀ l ∈ ords P n f b, P l = true
  | 0, b, l, hl => by
    unfold ords at hl
    split at hl
    · rename_i h
      simp at hl
      rw [hl]
      exact h
    · simp at hl
  | f + 1, b, l, hl => by
    unfold ords at hl
    rw [List.mem_flatMap] at hl
    obtain ⟨t, h1, ht⟩ := hl
    split at ht
    · simp at ht
    · exact ords_P P n f _ l ht
end Go.Proofs.Ytdflindoemffaaa
