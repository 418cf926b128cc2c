/- The reference's InForm. -/
import Derived.Test.YtohnppjbmpaomaaInfm
namespace Go.Proofs.Ytohnppjbmpaomaa
open Go.RowKit

theorem g3_dvd (a b c : Int) : (g3 a b c : Int) ∣ a ∧ (g3 a b c : Int) ∣ b ∧ (g3 a b c : Int) ∣ c := by
  have h1 : g3 a b c ∣ Nat.gcd a.natAbs b.natAbs := Nat.gcd_dvd_left _ _
  refine ⟨Int.ofNat_dvd_left.2 (Nat.dvd_trans h1 (Nat.gcd_dvd_left _ _)), Int.ofNat_dvd_left.2 (Nat.dvd_trans h1 (Nat.gcd_dvd_right _ _)), Int.ofNat_dvd_left.2 (Nat.gcd_dvd_right _ _)⟩
/-- A number divided by what divides it has its sign. -/
theorem quo_sign {x : Int} {g : Nat} (h : (g : Int) ∣ x) (hg : 0 < g) : (x.tdiv g < 0 ↔ x < 0) ∧ (x.tdiv g = 0 ↔ x = 0) := by
  obtain ⟨k, rfl⟩ := h
  rw [Int.mul_tdiv_cancel_left _ (by omega)]
  have p : (0 : Int) < (g : Int) := by omega
  refine ⟨⟨fun h => Int.mul_neg_of_pos_of_neg p h, fun h => ?_⟩, ⟨fun h => by rw [h, Int.mul_zero], fun h => ?_⟩⟩
  · rcases Int.lt_or_le k 0 with e | e
    · exact e
    · have := Int.mul_nonneg (Int.le_of_lt p) e
      omega
  · rcases Int.mul_eq_zero.1 h with e | e
    · omega
    · exact e
set_option maxRecDepth 100000 in
set_option maxHeartbeats 1600000 in
theorem inForm28 (a b c : Int) (w : World) (h : ¬ (a = 0 ∧ b = 0)) (ha : sm a) (hb : sm b) (hc : sm c) :
    Calls Try.prog 28 #[.int .i64 a, .int .i64 b, .int .i64 c] w fun e w' => e = .returned (frm a b c) ∧ Below w.heap.size w w' := by
  have hp := g3_pos (c := c) h
  have hg : sm ((Nat.gcd a.natAbs b.natAbs : Nat) : Int) := by
    have e := g3_le (c := 0) h ha hb
    have e2 : g3 a b 0 = Nat.gcd a.natAbs b.natAbs := by simp [g3]
    rw [e2] at e
    unfold sm
    omega
  have C1 : Hid (∀ W, Calls Try.prog 43 #[.int .i64 a, .int .i64 b] W fun e w' => e = .returned (.int .i64 ((Nat.gcd a.natAbs b.natAbs : Nat) : Int)) ∧ Below W.heap.size W w') := fun W => commonR_pos a b W ha hb
  have C2 : Hid (∀ W, Calls Try.prog 43 #[.int .i64 ((Nat.gcd a.natAbs b.natAbs : Nat) : Int), .int .i64 c] W fun e w' => e = .returned (.int .i64 (g3 a b c : Int)) ∧ Below W.heap.size W w') := fun W => by
    have := commonR_pos ((Nat.gcd a.natAbs b.natAbs : Nat) : Int) c W hg hc
    rw [Int.natAbs_natCast] at this
    exact this
  obtain ⟨d1, d2, d3⟩ := g3_dvd a b c
  have HS : Hid ((a.tdiv (g3 a b c) < 0 ↔ a < 0) ∧ (a.tdiv (g3 a b c) = 0 ↔ a = 0) ∧ (b.tdiv (g3 a b c) < 0 ↔ b < 0)) := ⟨(quo_sign d1 hp).1, (quo_sign d1 hp).2, (quo_sign d2 hp).1⟩
  have HP : Hid (¬ (a < 0 ∨ (a = 0 ∧ b < 0)) → frm a b c = st (a.tdiv (g3 a b c)) (b.tdiv (g3 a b c)) (c.tdiv (g3 a b c))) := fun h => by rw [frm, dv_pos h]
  have HN : Hid (a < 0 ∨ (a = 0 ∧ b < 0) → frm a b c = st (-(a.tdiv (g3 a b c))) (-(b.tdiv (g3 a b c))) (-(c.tdiv (g3 a b c)))) := fun h => by rw [frm, dv_neg h, Int.tdiv_neg, Int.tdiv_neg, Int.tdiv_neg]
  have wa := w_tdiv (d := g3 a b c) ha
  have wb := w_tdiv (d := g3 a b c) hb
  have wc := w_tdiv (d := g3 a b c) hc
  have sa := sm_tdiv (d := g3 a b c) ha
  have sb := sm_tdiv (d := g3 a b c) hb
  have sc := sm_tdiv (d := g3 a b c) hc
  obtain ⟨G, hG⟩ : ∃ G, G = g3 a b c := ⟨_, rfl⟩
  rw [← hG] at C2 hp HS HP HN wa wb wc sa sb sc
  obtain ⟨F, hF⟩ : ∃ F, F = Nat.gcd a.natAbs b.natAbs := ⟨_, rfl⟩
  rw [← hF] at C1 C2
  have nG : ¬ (G : Int) = 0 := by omega
  clear hG hF hg hp d1 d2 d3 ha hb hc h
  obtain ⟨A, hA⟩ : ∃ A, A = a.tdiv G := ⟨_, rfl⟩
  obtain ⟨B, hB⟩ : ∃ B, B = b.tdiv G := ⟨_, rfl⟩
  obtain ⟨C, hC⟩ : ∃ C, C = c.tdiv G := ⟨_, rfl⟩
  rw [← hA] at HS HP HN sa
  rw [← hB] at HS HP HN sb
  rw [← hC] at HP HN sc
  replace wa := wa.trans hA.symm
  replace wb := wb.trans hB.symm
  replace wc := wc.trans hC.symm
  clear hA hB hC
  obtain ⟨s1, s2⟩ := sa
  obtain ⟨s3, s4⟩ := sb
  obtain ⟨s5, s6⟩ := sc
  by_cases c1 : A < 0
  · have q1 : decide (A < 0) = true := by simpa using c1
    rw [HN.out (Or.inl (HS.out.1.1 c1))]
    clear HS HP HN
    unfold st
    go_enter Try.func28, Try.ntmps28
    go_wp2_with (first | (go_at_call 43; with_reducible refine (C1.out _).mono ?_; rintro e w1 ⟨rfl, hb⟩) | (go_at_call 43; with_reducible refine (C2.out _).mono ?_; rintro e w2 ⟨rfl, hb2⟩))
    have hx := ((bx_new w 25).kept hb).kept hb2
    have RD : Hid (Rd w2 w.heap.size) := hx.rd
    obtain ⟨⟨c0, c1, c2⟩, hf⟩ := hx
    have f0 := hf 0
    have f1 := hf 1
    have f2 := hf 2
    have zg := World.block_lt_of_cell? _ _ c0
    replace hb2 := bl_via (bl_via (bl_alloc (bl_refl w)) hb) hb2
    have HB : Hid (Below w.heap.size w w2) := hb2
    clear hf hb hb2
    go_region
    go_wp2
    refine bodyPost_ret (v := .agg #[_, _, _]) (by simp [results, Try.results28, go_sem, RD.out.1, RD.out.2.1, RD.out.2.2]) rfl ⟨rfl, ?_⟩
    exact bl_set (bl_set (bl_set (bl_drew HB.out) (Nat.le_refl _)) (Nat.le_refl _)) (Nat.le_refl _)
  · have q1 : decide (A < 0) = false := by simpa using c1
    by_cases c2 : A = 0
    · by_cases c3 : B < 0
      · have q3 : decide (B < 0) = true := by simpa using c3
        rw [HN.out (Or.inr ⟨HS.out.2.1.1 c2, HS.out.2.2.1 c3⟩)]
        clear HS HP HN
        unfold st
        subst c2
        go_enter Try.func28, Try.ntmps28
        go_wp2_with (first | (go_at_call 43; with_reducible refine (C1.out _).mono ?_; rintro e w1 ⟨rfl, hb⟩) | (go_at_call 43; with_reducible refine (C2.out _).mono ?_; rintro e w2 ⟨rfl, hb2⟩))
        have hx := ((bx_new w 25).kept hb).kept hb2
        have RD : Hid (Rd w2 w.heap.size) := hx.rd
        obtain ⟨⟨c0, c1, c2⟩, hf⟩ := hx
        have f0 := hf 0
        have f1 := hf 1
        have f2 := hf 2
        have zg := World.block_lt_of_cell? _ _ c0
        replace hb2 := bl_via (bl_via (bl_alloc (bl_refl w)) hb) hb2
        have HB : Hid (Below w.heap.size w w2) := hb2
        clear hf hb hb2
        go_region
        go_wp2
        refine bodyPost_ret (v := .agg #[_, _, _]) (by simp [results, Try.results28, go_sem, RD.out.1, RD.out.2.1, RD.out.2.2]) rfl ⟨rfl, ?_⟩
        exact bl_set (bl_set (bl_set (bl_drew HB.out) (Nat.le_refl _)) (Nat.le_refl _)) (Nat.le_refl _)
      · have q3 : decide (B < 0) = false := by simpa using c3
        rw [HP.out (fun h => by have := HS.out; omega)]
        clear HS HP HN
        unfold st
        subst c2
        go_enter Try.func28, Try.ntmps28
        go_wp2_with (first | (go_at_call 43; with_reducible refine (C1.out _).mono ?_; rintro e w1 ⟨rfl, hb⟩) | (go_at_call 43; with_reducible refine (C2.out _).mono ?_; rintro e w2 ⟨rfl, hb2⟩))
        have hx := ((bx_new w 25).kept hb).kept hb2
        have RD : Hid (Rd w2 w.heap.size) := hx.rd
        obtain ⟨⟨c0, c1, c2⟩, hf⟩ := hx
        have f0 := hf 0
        have f1 := hf 1
        have f2 := hf 2
        have zg := World.block_lt_of_cell? _ _ c0
        replace hb2 := bl_via (bl_via (bl_alloc (bl_refl w)) hb) hb2
        have HB : Hid (Below w.heap.size w w2) := hb2
        clear hf hb hb2
        go_region
        go_wp2
        refine bodyPost_ret (v := .agg #[_, _, _]) (by simp [results, Try.results28, go_sem, RD.out.1, RD.out.2.1, RD.out.2.2]) rfl ⟨rfl, ?_⟩
        exact bl_set (bl_set (bl_set (bl_drew HB.out) (Nat.le_refl _)) (Nat.le_refl _)) (Nat.le_refl _)
    · have q2 : (A == 0) = false := by simpa using c2
      rw [HP.out (fun h => by have := HS.out; omega)]
      clear HS HP HN
      unfold st
      go_enter Try.func28, Try.ntmps28
      go_wp2_with (first | (go_at_call 43; with_reducible refine (C1.out _).mono ?_; rintro e w1 ⟨rfl, hb⟩) | (go_at_call 43; with_reducible refine (C2.out _).mono ?_; rintro e w2 ⟨rfl, hb2⟩))
      have hx := ((bx_new w 25).kept hb).kept hb2
      have RD : Hid (Rd w2 w.heap.size) := hx.rd
      obtain ⟨⟨c0, c1, c2⟩, hf⟩ := hx
      have f0 := hf 0
      have f1 := hf 1
      have f2 := hf 2
      have zg := World.block_lt_of_cell? _ _ c0
      replace hb2 := bl_via (bl_via (bl_alloc (bl_refl w)) hb) hb2
      have HB : Hid (Below w.heap.size w w2) := hb2
      clear hf hb hb2
      go_region
      go_wp2
      refine bodyPost_ret (v := .agg #[_, _, _]) (by simp [results, Try.results28, go_sem, RD.out.1, RD.out.2.1, RD.out.2.2]) rfl ⟨rfl, ?_⟩
      exact bl_set (bl_set (bl_set (bl_drew HB.out) (Nat.le_refl _)) (Nat.le_refl _)) (Nat.le_refl _)
end Go.Proofs.Ytohnppjbmpaomaa
