/- refused: why a list is no order of stamps at all. -/
import Derived.Test.YtdflindoemffaaaRowz
namespace Go.Proofs.Ytdflindoemffaaa
open Go.RowKit

theorem frozen_new (w : World) (c : Array Value) (T : TypeId) (i : Nat) : (w.alloc (.cells c T)).frozen? ⟨w.heap.size, i, none⟩ = false := by
  have h3 : (w.alloc (.cells c T)).heap[w.heap.size]? = some (.cells c T) := heap_alloc_new w _
  generalize w.alloc (.cells c T) = W at h3 ⊢
  simp [World.frozen?, h3]
theorem noV_two {l : List Int} (h : cntB (l.length : Int) = false) : noV l = 2 := by rw [noV, h]; rfl
theorem noV_one {l : List Int} (h : cntB (l.length : Int) = true) (hp : ¬ Prm l) : noV l = 1 := by
  rw [noV, if_pos h, if_neg (fun e => hp ((prm_iff l).1 e))]
theorem noV_zero {l : List Int} (h : cntB (l.length : Int) = true) (hp : Prm l) : noV l = 0 := by
  rw [noV, if_pos h, if_pos ((prm_iff l).2 hp)]
theorem take_has {l : List Int} {i : Nat} (s : Int) (h : (l.take i).contains s = true) : ∃ k, k < i ∧ k < l.length ∧ gt l k = s := by
  rw [List.contains_iff_mem] at h
  obtain ⟨k, hk, e⟩ := List.getElem_of_mem h
  rw [List.length_take] at hk
  refine ⟨k, by omega, by omega, ?_⟩
  rw [gt_lt (by omega), ← e, List.getElem_take]
theorem take_hasnt {l : List Int} {i : Nat} (s : Int) (h : (l.take i).contains s = false) : ∀ k, k < i → k < l.length → gt l k ≠ s := by
  intro k hk hl e
  rw [Bool.eq_false_iff] at h
  apply h
  rw [List.contains_iff_mem, ← e, gt_lt hl]
  exact List.mem_take_iff_getElem.2 ⟨k, by omega, rfl⟩
theorem take_more {l : List Int} {i : Nat} (hi : i < l.length) (s : Int) : (l.take (i + 1)).contains s = ((l.take i).contains s || (s == gt l i)) := by
  rw [List.take_succ_eq_append_getElem hi, ← gt_lt hi, List.contains_eq_mem, List.contains_eq_mem, Bool.eq_iff_iff]
  simp
set_option maxRecDepth 100000 in
set_option maxHeartbeats 1600000 in
theorem refused_any (v : Value) (l : List Int) (w : World) (hv : Sg w v l) (hl : l.length ≤ 17592186044416) :
    Calls Try.prog 22 #[v] w fun e w' => e = .returned (.int .i64 (noV l)) ∧ Below w.heap.size w w' := by
  obtain ⟨a, c, rfl, hR⟩ := hv
  have HR : Hid (∀ i, i < l.length → ∃ g off, a = some ⟨g, off, none⟩ ∧ w.cell? ⟨g, off + i, none⟩ = some (.int .i64 (gt l i))) := hR
  obtain ⟨nv, hnv⟩ : ∃ b, b = noV l := ⟨_, rfl⟩
  have HC : Hid (nv = noV l) := hnv
  rw [← hnv]
  have C0 := counted_any (l.length : Int) w
  clear hnv hR
  cases qc : cntB (l.length : Int)
  · rw [qc] at C0
    have CN : Hid (Calls Try.prog 28 #[.int .i64 (l.length : Int)] w fun e w' => e = .returned (.bool false) ∧ Below w.heap.size w w') := C0
    have HE : Hid (nv = 2) := by
      have : nv = 2 := by rw [HC.out, noV_two qc]
      exact this
    clear C0
    go_enter Try.func22, Try.ntmps22
    go_wp2_with (go_at_call 28; refine CN.out.mono ?_; rintro e w1 ⟨rfl, hb⟩)
    go_ret
    exact ⟨ret_int HE.out.symm, hb⟩
  · rw [qc] at C0
    have CN : Hid (Calls Try.prog 28 #[.int .i64 (l.length : Int)] w fun e w' => e = .returned (.bool true) ∧ Below w.heap.size w w') := C0
    have H0 : Hid (Prm l → nv = 0) := fun h => by rw [HC.out, noV_zero qc h]
    have H1 : Hid (¬ Prm l → nv = 1) := fun h => by rw [HC.out, noV_one qc h]
    have n8 : 1 ≤ l.length ∧ l.length ≤ 8 := by simp [cntB] at qc; omega
    obtain ⟨n1, n8⟩ := n8
    clear C0 HC qc
    go_enter Try.func22, Try.ntmps22
    go_wp2_with (go_at_call 28; refine CN.out.mono ?_; rintro e w1 ⟨rfl, hb⟩)
    refine wp_named (fun W1 hW1 => ?_)
    have HO : Hid (BR W1 w1.heap.size 9 (fun k => (l.take 0).contains (k : Int)) ∧ Below w.heap.size w W1) := by
      have : BR W1 w1.heap.size 9 (fun k => (l.take 0).contains (k : Int)) ∧ Below w.heap.size w W1 := by
        rw [hW1]
        refine ⟨fun i hi => ?_, bl_alloc hb⟩
        have : i = 0 ∨ i = 1 ∨ i = 2 ∨ i = 3 ∨ i = 4 ∨ i = 5 ∨ i = 6 ∨ i = 7 ∨ i = 8 := by omega
        rcases this with rfl | rfl | rfl | rfl | rfl | rfl | rfl | rfl | rfl <;> exact ⟨by simp [go_sem], frozen_new _ _ _ _⟩
      exact this
    obtain ⟨B, hBB⟩ : ∃ B, B = w1.heap.size := ⟨_, rfl⟩
    have HS : Hid (w.heap.size ≤ B) := by rw [hBB]; exact hb.size
    rw [← hBB] at HO ⊢
    clear hW1 hb hBB CN
    go_loopg [12] l.length (fun gk s12 wx => ∃ i : Nat, i ≤ l.length ∧ gk = l.length - i ∧ s12 = .int .i64 (i : Int) ∧ Below w.heap.size w wx ∧ BR wx B 9 (fun k => (l.take i).contains (k : Int)) ∧ (∀ k, k < i → 1 ≤ gt l k ∧ gt l k ≤ (l.length : Int)) ∧ ∀ j k, j < k → k < i → gt l j ≠ gt l k)
    case atStart => exact ⟨0, by omega, rfl, rfl, HO.out.2, HO.out.1, fun k hk => by omega, fun j k h1 h2 => by omega⟩
    case round =>
      clear HO
      obtain ⟨i, hi, rfl, rfl, hB, hT, hr, hd⟩ := hrel
      have HB : Hid (Below w.heap.size w wr ∧ BR wr B 9 (fun k => (l.take i).contains (k : Int)) ∧ (∀ k, k < i → 1 ≤ gt l k ∧ gt l k ≤ (l.length : Int)) ∧ ∀ j k, j < k → k < i → gt l j ≠ gt l k) := ⟨hB, hT, hr, hd⟩
      clear hB hT hr hd
      by_cases h1 : i < l.length
      · have i1 : (i : Int) < (l.length : Int) := by omega
        have i0 : (0 : Int) ≤ (i : Int) := by omega
        obtain ⟨g, off, rfl, c0⟩ := HR.out i h1
        replace c0 := cl_kept HB.out.1 c0
        have zg : g < wr.heap.size := World.block_lt_of_cell? _ _ c0
        obtain ⟨vi, hvi⟩ : ∃ v, v = gt l i := ⟨_, rfl⟩
        rw [← hvi] at c0
        have HVI : Hid (vi = gt l i) := hvi
        clear hvi
        by_cases q1 : vi < 1
        · have HE : Hid (nv = 1) := H1.out fun h => by
            have := h.range h1
            rw [← HVI.out] at this
            omega
          go_wp2
          go_ret
          exact ⟨ret_int HE.out.symm, HB.out.1⟩
        · by_cases q2 : (l.length : Int) < vi
          · have HE : Hid (nv = 1) := H1.out fun h => by
              have := h.range h1
              rw [← HVI.out] at this
              omega
            go_wp2
            go_ret
            exact ⟨ret_int HE.out.symm, HB.out.1⟩
          · obtain ⟨s, rfl⟩ : ∃ s : Nat, vi = (s : Int) := ⟨vi.toNat, by omega⟩
            have k1 : (s : Int) < 9 := by omega
            have k0 : (0 : Int) ≤ (s : Int) := by omega
            have c1 := (HB.out.2.1 s (by omega)).1
            have f1 := (HB.out.2.1 s (by omega)).2
            have z1 : B < wr.heap.size := World.block_lt_of_cell? _ _ c1
            obtain ⟨tb, htb⟩ : ∃ b, b = (l.take i).contains (s : Int) := ⟨_, rfl⟩
            rw [show (fun k : Nat => (l.take i).contains (k : Int)) s = tb from htb.symm] at c1
            have HT : Hid (tb = (l.take i).contains (s : Int)) := htb
            clear htb
            cases tb
            · have HN : Hid ((∀ k, k < i + 1 → 1 ≤ gt l k ∧ gt l k ≤ (l.length : Int)) ∧ ∀ j k, j < k → k < i + 1 → gt l j ≠ gt l k) := by
                have : (∀ k, k < i + 1 → 1 ≤ gt l k ∧ gt l k ≤ (l.length : Int)) ∧ ∀ j k, j < k → k < i + 1 → gt l j ≠ gt l k := by
                  refine ⟨fun k hk => ?_, fun j k hj hk => ?_⟩
                  · by_cases hki : k < i
                    · exact HB.out.2.2.1 k hki
                    · have : k = i := by omega
                      rw [this, ← HVI.out]
                      omega
                  · by_cases hki : k < i
                    · exact HB.out.2.2.2 j k hj hki
                    · have : k = i := by omega
                      rw [this, ← HVI.out]
                      exact take_hasnt _ HT.out.symm j (by omega) (by omega)
                exact this
              have HS2 : Hid (BR (wr.setCell ⟨B, s, none⟩ (.bool true)) B 9 (fun k => (l.take (i + 1)).contains (k : Int))) := fun k hk => by
                have := HB.out.2.1.set (k := s) true k hk
                refine ⟨?_, this.2⟩
                rw [this.1]
                simp only [Option.some.injEq, Value.bool.injEq]
                rw [take_more h1, ← HVI.out]
                by_cases e : k = s
                · subst e
                  simp
                · have : ((k : Int) == (s : Int)) = false := by rw [beq_eq_false_iff_ne]; omega
                  simp [e, this]
              go_wp2
              go_roundg (l.length - (i + 1))
              case measure => omega
              case rel => exact ⟨i + 1, by omega, rfl, by go_num, bl_set HB.out.1 HS.out, HS2.out, HN.out.1, HN.out.2⟩
            · have HE : Hid (nv = 1) := H1.out fun h => by
                obtain ⟨k, hk, hk2, e⟩ := take_has _ HT.out.symm
                rw [HVI.out] at e
                have := h.inj h1 hk2 e
                omega
              go_wp2
              go_ret
              exact ⟨ret_int HE.out.symm, HB.out.1⟩
      · have i1 : ¬ (i : Int) < (l.length : Int) := by omega
        obtain rfl : i = l.length := by omega
        have HE : Hid (nv = 0) := H0.out (prm_of HB.out.2.2.1 fun j k hj hk e => by
          rcases Nat.lt_trichotomy j k with h | h | h
          · exact absurd e (HB.out.2.2.2 j k h hk)
          · exact h
          · exact absurd e.symm (HB.out.2.2.2 k j h hj))
        go_wp2
        go_ret
        exact ⟨ret_int HE.out.symm, HB.out.1⟩
end Go.Proofs.Ytdflindoemffaaa
