/- The small functions of the disc: sectors, past, meet, between. -/
import Derived.Test.YtioajagblphbnaaBase
namespace Go.Proofs.Ytioajagblphbnaa
open Go.RowKit

theorem sectors_any (a : Option Addr) (n cap j : Nat) (w : World) (hn : 2 ≤ n) (hn8 : n ≤ 8) (hj : j ≤ 8) :
    Calls Try.prog 28 #[.slice a n cap, .int .i64 (j : Int)] w fun e w' => e = .returned (.tuple #[.int .i64 ((sA n j : Nat) : Int), .int .i64 (j : Int)]) ∧ Below w.heap.size w w' := by
  have hs := sA_int (j := j) hn
  have h0 : (n : Int) ≠ 0 := by omega
  go_enter Try.func28, Try.ntmps28
  go_wp2
  exact bodyPost_ret (v := .tuple #[.int .i64 ((sA n j : Nat) : Int), .int .i64 (j : Int)]) (by simp [results, Try.results28, go_sem]) rfl ⟨rfl, bl_refl _⟩
set_option maxRecDepth 100000 in
set_option maxHeartbeats 1600000 in
theorem between_any (g cap : Nat) (l : List Int) (k a b : Nat) (w : World) (hr : Rw w g l) (h8 : l.length ≤ 8) (hk : k < l.length) (ha : a < l.length) (hb : b < l.length) :
    Calls Try.prog 32 #[.slice (some ⟨g, 0, none⟩) l.length cap, .int .i64 (k : Int), .int .i64 (a : Int), .int .i64 (b : Int)] w fun e w' => e = .returned (.bool (btw l k a b)) ∧ Below w.heap.size w w' := by
  have i1 : (k : Int) < (l.length : Int) := by omega
  have i2 : (a : Int) < (l.length : Int) := by omega
  have i3 : (b : Int) < (l.length : Int) := by omega
  have j1 : (0 : Int) ≤ (k : Int) := by omega
  have j2 : (0 : Int) ≤ (a : Int) := by omega
  have j3 : (0 : Int) ≤ (b : Int) := by omega
  have c1 := hr k hk
  have c2 := hr a ha
  have c3 := hr b hb
  have zg : g < w.heap.size := hr.lt (by omega)
  obtain ⟨vk, hvk⟩ : ∃ v, v = gt l k := ⟨_, rfl⟩
  obtain ⟨va, hva⟩ : ∃ v, v = gt l a := ⟨_, rfl⟩
  obtain ⟨vb, hvb⟩ : ∃ v, v = gt l b := ⟨_, rfl⟩
  have hB : btw l k a b = bet vk va vb := by rw [btw, hvk, hva, hvb]
  rw [← hvk] at c1
  rw [← hva] at c2
  rw [← hvb] at c3
  rw [hB]
  clear hr hvk hva hvb hB hk ha hb
  have kc := Kin.cells w
  have kn : Nonempty (Kin w) := ⟨⟨w, bl_refl _⟩⟩
  go_enter Try.func32, Try.ntmps32
  go_wp2
  by_cases q1 : (if vb < va then vb else va) < vk
  · refine wp_region_kin (by kernel_rfl) (by kernel_rfl) ?_
    repeat (go_big_quiet_step (fail))
    refine wpQuiet_nil ?_
    intro wq hw'
    obtain ⟨nq, hw''⟩ := hw'
    have hq : Below w.heap.size w wq := hw'' ▸ nq.h
    clear hw'' nq
    go_wp2
    all_goals
      go_ret
      refine ⟨ret_bool ?_, hq⟩
      unfold bet
      rw [Bool.eq_iff_iff]
      simp only [decide_eq_true_eq]
      (repeat' split at *) <;> omega
  · refine wp_region_kin (by kernel_rfl) (by kernel_rfl) ?_
    repeat (go_big_quiet_step (fail))
    refine wpQuiet_nil ?_
    intro wq hw'
    obtain ⟨nq, hw''⟩ := hw'
    have hq : Below w.heap.size w wq := hw'' ▸ nq.h
    clear hw'' nq
    go_wp2
    all_goals
      go_ret
      refine ⟨ret_bool ?_, hq⟩
      unfold bet
      rw [Bool.eq_iff_iff]
      simp only [decide_eq_true_eq, Bool.false_eq_true, false_iff]
      (repeat' split at *) <;> omega
set_option maxRecDepth 100000 in
set_option maxHeartbeats 1600000 in
theorem past_any (g cap : Nat) (l : List Int) (k j : Nat) (w : World) (hr : Rw w g l) (h2 : 2 ≤ l.length) (h8 : l.length ≤ 8) (hk : k < l.length) (hj : j < l.length) :
    Calls Try.prog 31 #[.slice (some ⟨g, 0, none⟩) l.length cap, .int .i64 (k : Int), .int .i64 (j : Int)] w fun e w' => e = .returned (.bool (pastB l l.length k j)) ∧ Below w.heap.size w w' := by
  obtain ⟨m, hm⟩ : ∃ m, m = (k + 1) % l.length := ⟨_, rfl⟩
  have hml : m < l.length := by rw [hm]; exact Nat.mod_lt _ (by omega)
  have hx := nx_int l.length k
  rw [← hm] at hx
  have i1 : (k : Int) < (l.length : Int) := by omega
  have i2 : (j : Int) < (l.length : Int) := by omega
  have i3 : (m : Int) < (l.length : Int) := by omega
  have j1 : (0 : Int) ≤ (k : Int) := by omega
  have j2 : (0 : Int) ≤ (j : Int) := by omega
  have j3 : (0 : Int) ≤ (m : Int) := by omega
  have n0 : (l.length : Int) ≠ 0 := by omega
  have c1 := hr k hk
  have c2 := hr j hj
  have c3 := hr m hml
  have zg : g < w.heap.size := hr.lt (by omega)
  obtain ⟨vk, hvk⟩ : ∃ v, v = gt l k := ⟨_, rfl⟩
  obtain ⟨va, hva⟩ : ∃ v, v = gt l j := ⟨_, rfl⟩
  obtain ⟨vb, hvb⟩ : ∃ v, v = gt l m := ⟨_, rfl⟩
  have hB : pastB l l.length k j = bet va vk vb := by rw [pastB, ← hm, hvk, hva, hvb]
  rw [← hvk] at c1
  rw [← hva] at c2
  rw [← hvb] at c3
  rw [hB]
  clear hr hvk hva hvb hB hk hj hm hml
  have kc := Kin.cells w
  have kn : Nonempty (Kin w) := ⟨⟨w, bl_refl _⟩⟩
  go_enter Try.func31, Try.ntmps31
  go_wp2
  refine wp_region_kin (by kernel_rfl) (by kernel_rfl) ?_
  repeat (go_big_quiet_step (fail))
  refine wpQuiet_nil ?_
  intro wq hw'
  obtain ⟨nq, hw''⟩ := hw'
  have hq : Below w.heap.size w wq := hw'' ▸ nq.h
  clear hw'' nq
  replace c2 := cl_kept hq c2
  have zq : g < wq.heap.size := World.block_lt_of_cell? _ _ c2
  clear c1 c3 kc kn
  by_cases q1 : (if vb < vk then vb else vk) < va
  · go_wp2
    all_goals
      go_ret
      refine ⟨ret_bool ?_, hq⟩
      unfold bet
      rw [Bool.eq_iff_iff]
      simp only [decide_eq_true_eq]
      (repeat' split at *) <;> omega
  · go_wp2
    all_goals
      go_ret
      refine ⟨ret_bool ?_, hq⟩
      unfold bet
      rw [Bool.eq_iff_iff]
      simp only [decide_eq_true_eq, Bool.false_eq_true, false_iff]
      (repeat' split at *) <;> omega
set_option maxRecDepth 100000 in
set_option maxHeartbeats 1600000 in
theorem meet_any (g cap : Nat) (l : List Int) (i j : Nat) (w : World) (hr : Rw w g l) (h8 : l.length ≤ 8) (hk : i < l.length) (hj : j < l.length) :
    Calls Try.prog 33 #[.slice (some ⟨g, 0, none⟩) l.length cap, .int .i64 (i : Int), .int .i64 (j : Int)] w fun e w' => e = .returned (.bool (meetB l i j)) ∧ Below w.heap.size w w' := by
  have i1 : (i : Int) < (l.length : Int) := by omega
  have i2 : (j : Int) < (l.length : Int) := by omega
  have j1 : (0 : Int) ≤ (i : Int) := by omega
  have j2 : (0 : Int) ≤ (j : Int) := by omega
  have t1 := two_int i
  have t2 := two_int j
  have c1 := hr i hk
  have c2 := hr j hj
  have zg : g < w.heap.size := hr.lt (by omega)
  obtain ⟨vk, hvk⟩ : ∃ v, v = gt l i := ⟨_, rfl⟩
  obtain ⟨va, hva⟩ : ∃ v, v = gt l j := ⟨_, rfl⟩
  have hB : meetB l i j = (decide (i ≠ j) && (decide (i % 2 = j % 2) && decide (vk = va))) := by rw [meetB, hvk, hva]
  rw [← hvk] at c1
  rw [← hva] at c2
  rw [hB]
  clear hr hvk hva hB hk hj
  have kc := Kin.cells w
  have kn : Nonempty (Kin w) := ⟨⟨w, bl_refl _⟩⟩
  go_enter Try.func33, Try.ntmps33
  go_wp2
  by_cases q1 : (i : Int) = (j : Int)
  · refine wp_region_kin (by kernel_rfl) (by kernel_rfl) ?_
    repeat (go_big_quiet_step (fail))
    refine wpQuiet_nil ?_
    intro wq hw'
    obtain ⟨nq, hw''⟩ := hw'
    have hq : Below w.heap.size w wq := hw'' ▸ nq.h
    clear hw'' nq
    go_wp2
    go_ret
    refine ⟨ret_bool ?_, hq⟩
    have : i = j := by omega
    simp [this]
  · have q1b : ((i : Int) != (j : Int)) = true := by simpa using q1
    by_cases q2 : (i : Int) % 2 = (j : Int) % 2
    · have q2b : ((i : Int) % 2 == (j : Int) % 2) = true := by simpa using q2
      refine wp_region_kin (by kernel_rfl) (by kernel_rfl) ?_
      repeat (go_big_quiet_step (fail))
      refine wpQuiet_nil ?_
      intro wq hw'
      obtain ⟨nq, hw''⟩ := hw'
      have hq : Below w.heap.size w wq := hw'' ▸ nq.h
      clear hw'' nq
      go_wp2
      go_ret
      refine ⟨ret_bool ?_, hq⟩
      have e1 : i ≠ j := by omega
      have e2 : i % 2 = j % 2 := by omega
      rw [Bool.eq_iff_iff]
      simp [e1, e2]
    · have q2b : ((i : Int) % 2 == (j : Int) % 2) = false := by simpa using q2
      refine wp_region_kin (by kernel_rfl) (by kernel_rfl) ?_
      repeat (go_big_quiet_step (fail))
      refine wpQuiet_nil ?_
      intro wq hw'
      obtain ⟨nq, hw''⟩ := hw'
      have hq : Below w.heap.size w wq := hw'' ▸ nq.h
      clear hw'' nq
      go_wp2
      go_ret
      refine ⟨ret_bool ?_, hq⟩
      have e1 : i ≠ j := by omega
      have e2 : ¬ i % 2 = j % 2 := by omega
      rw [Bool.eq_iff_iff]
      simp [e1, e2]
end Go.Proofs.Ytioajagblphbnaa
