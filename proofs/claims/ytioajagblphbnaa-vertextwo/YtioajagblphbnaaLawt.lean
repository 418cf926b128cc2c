/- The law VertexTwo, walked. -/
import Derived.Test.YtioajagblphbnaaLawc
import Derived.Test.YtioajagblphbnaaTwoo
import Derived.Deep.AppendLies
namespace Go.Proofs.Ytioajagblphbnaa
open Go.RowKit

/-- Rows in blocks of their own. -/
def Apart (u v : Value) : Prop := ∀ q, u.ownBlock = some q → v.ownBlock ≠ some q
theorem Apart.swap {u v : Value} (h : Apart u v) : Apart v u := fun q h1 h2 => h q h2 h1
theorem Apart.other {u v : Value} (h : Apart u v) : v.ownBlock = none ∨ v.ownBlock ≠ u.ownBlock := by
  cases e : v.ownBlock with
  | none => exact Or.inl rfl
  | some q => exact Or.inr fun e2 => h q e2.symm e
theorem own_lt {w : World} {base : Nat} {e : TypeId} {size : Nat} {v : Value} {n : Nat} {xs : List Value} (h : w.ownsRow base e size v n xs) : ∀ k, v.ownBlock = some k → k < w.heap.size := by
  intro k hk
  rcases h.2 with ⟨rfl, _⟩ | ⟨g, cap, cur, rfl, _, h3, _⟩
  · simp [Value.ownBlock] at hk
  · simp [Value.ownBlock] at hk
    subst hk
    exact (Array.getElem?_eq_some_iff.1 h3).1
theorem Apart.grew {w : World} {base : Nat} {e : TypeId} {size : Nat} {u u' v : Value} {n : Nat} {xs : List Value} (h : Apart u v) (hv : w.ownsRow base e size v n xs) (hu : u'.ownBlock = u.ownBlock ∨ ∃ H, w.heap.size ≤ H ∧ u'.ownBlock = some H) : Apart u' v := fun q h1 h2 => by
  rcases hu with e | ⟨H, hH, e⟩
  · exact h q (e ▸ h1) h2
  · have := own_lt hv q h2
    rw [e] at h1
    cases h1
    omega
theorem msm_bd {ks : List Int} {n : Nat} (h : ∀ i, i < n → gt ks i = 1 ∨ gt ks i = 2) : ∀ k, k ≤ n → -(k : Int) ≤ msm ks k ∧ msm ks k ≤ k
  | 0, _ => by simp [msm]
  | k + 1, hk => by
    have ih := msm_bd h k (by omega)
    have := h k (by omega)
    unfold msm
    omega
theorem oth_take {ks : List Int} {k : Nat} (h : k < ks.length) : (oth ks).take (k + 1) = (oth ks).take k ++ [3 - gt ks k] := by
  rw [List.take_add_one, ← oth_at h, gt_lt (by simpa [oth] using h), List.getElem?_eq_getElem (by simpa [oth] using h)]
  rfl
theorem rev_take {l : List Int} {k : Nat} (h : k < l.length) : l.reverse.take (k + 1) = l.reverse.take k ++ [gt l (l.length - 1 - k)] := by
  rw [List.take_add_one, ← rev_at h, gt_lt (by simpa using h), List.getElem?_eq_getElem (by simpa using h)]
  rfl
theorem trn_at {n : Nat} {ks : List Int} {k : Nat} (h : k < n) : gt (trn n ks) k = gt ks ((n - k) % n) := gt_map _ h
theorem trn_take {n : Nat} {ks : List Int} {k : Nat} (h : k < n) : (trn n ks).take (k + 1) = (trn n ks).take k ++ [gt ks ((n - k) % n)] := by
  rw [List.take_add_one, ← trn_at h, gt_lt (by simpa [trn] using h), List.getElem?_eq_getElem (by simpa [trn] using h)]
  rfl
theorem take_len {l : List Int} {k : Nat} (h : k ≤ l.length) : k = (l.take k).length := by
  rw [List.length_take]
  omega
theorem count1111 (g : Nat) (w : World) (h0 : w.cell? ⟨g, 0, none⟩ = some (.int .i64 1)) (h1 : w.cell? ⟨g, 1, none⟩ = some (.int .i64 1)) (h2 : w.cell? ⟨g, 2, none⟩ = some (.int .i64 1)) (h3 : w.cell? ⟨g, 3, none⟩ = some (.int .i64 1)) :
    Calls Try.prog 5 #[.slice (some ⟨g, 0, none⟩) 4 4] w fun e w' => e = .returned (.tuple #[.int .i64 8, .int .i64 0]) ∧ Below w.heap.size w w' := by
  have hr : Rw w g [1, 1, 1, 1] := fun i hi => by
    have : i = 0 ∨ i = 1 ∨ i = 2 ∨ i = 3 := by simp at hi; omega
    rcases this with rfl | rfl | rfl | rfl
    · exact h0
    · exact h1
    · exact h2
    · exact h3
  have h := count_ok (.slice (some ⟨g, 0, none⟩) 4 4) [1, 1, 1, 1] w (Sl.sg (Or.inr ⟨g, 4, rfl, hr⟩)) (by decide) (by decide)
  rw [show (2 : Nat) ^ [(1 : Int), 1, 1, 1].length = 16 from rfl, cnt4b] at h
  exact h
set_option maxRecDepth 100000 in
set_option maxHeartbeats 1600000 in
theorem two_bad (a : Option Addr) (c : Nat) (l : List Int) (w : World) (hv : Sg w (.slice a l.length c) l) (hl : l.length ≤ 17592186044416) (hw : wrongV l ≠ 0) :
    Calls Try.prog 3 #[.slice a l.length c] w fun e w' => e = .returned (.bool true) ∧ Below w.heap.size w w' := by
  have C6 : Hid (∀ W : World, Below w.heap.size w W → Calls Try.prog 6 #[.slice a l.length c] W fun e w' => e = .returned (.tuple #[.slice none 0 0, .int .i64 (wrongV l)]) ∧ Below W.heap.size W w') := fun W hW => all_bad _ l W (hv.kept hW) hl hw
  have C5 : Hid (∀ W : World, Below w.heap.size w W → Calls Try.prog 5 #[.slice a l.length c] W fun e w' => e = .returned (.tuple #[.int .i64 0, .int .i64 (wrongV l)]) ∧ Below W.heap.size W w') := fun W hW => count_bad _ l W (hv.kept hW) hl hw
  obtain ⟨z, hz⟩ : ∃ z, z = wrongV l := ⟨_, rfl⟩
  rw [← hz] at C6 C5 hw
  have qz : (z != 0) = true := by simpa using hw
  have qe : (z == z) = true := by simp
  clear hv hl hw hz
  go_enter Try.func3, Try.ntmps3
  go_upto_region 2 with (go_at_call 5; refine (count1111 w.heap.size _ (by simp [go_sem]) (by simp [go_sem]) (by simp [go_sem]) (by simp [go_sem])).mono ?_; rintro e w1 ⟨rfl, hb1⟩; have HB : Hid (Below w.heap.size w w1) := bl_via (bl_alloc (bl_refl w)) hb1; clear hb1)
  go_wp2_with (first
    | (go_at_call 6; refine (C6.out _ HB.out).mono ?_; rintro e w2 ⟨rfl, hb⟩; have hq := bl_via HB.out hb; clear hb HB; have HB : Hid (Below w.heap.size w w2) := hq; clear hq)
    | (go_at_call 5; refine (C5.out _ HB.out).mono ?_; rintro e w2 ⟨rfl, hb⟩; have hq := bl_via HB.out hb; clear hb HB; have HB : Hid (Below w.heap.size w w2) := hq; clear hq))
  go_ret
  exact ⟨rfl, HB.out⟩
end Go.Proofs.Ytioajagblphbnaa
