/- AxiomMiddle, whole. -/
import Derived.Test.YtohnppjbmpaomaaNear
import Derived.Test.YtohnppjbmpaomaaMidm
namespace Go.Proofs.Ytohnppjbmpaomaa
open Go.RowKit

set_option maxRecDepth 100000 in
set_option maxHeartbeats 6400000 in
theorem middle_twice (x y u v P1 P2 Q1 Q2 : Int) (w : World)
    (CN1 : Hid (∀ W : World, Calls Try.prog 20 #[.int .i64 x, .int .i64 y] W fun e w' => e = .returned (.agg #[.int .i64 P1, .int .i64 P2]) ∧ Below W.heap.size W w'))
    (CN2 : Hid (∀ W : World, Calls Try.prog 20 #[.int .i64 u, .int .i64 v] W fun e w' => e = .returned (.agg #[.int .i64 Q1, .int .i64 Q2]) ∧ Below W.heap.size W w'))
    (C8 : Hid (∀ W : World, Calls Try.prog 8 #[.agg #[.int .i64 P1, .int .i64 P2], .agg #[.int .i64 Q1, .int .i64 Q2]] W fun e w' => e = .returned (.tuple #[.agg #[.int .i64 0, .int .i64 0, .int .i64 0], .int .i64 6]) ∧ Below W.heap.size W w'))
    (C7 : Hid (∀ W : World, Calls Try.prog 7 #[.agg #[.int .i64 P1, .int .i64 P2], .agg #[.int .i64 Q1, .int .i64 Q2]] W fun e w' => e = .returned (.tuple #[.agg #[.int .i64 0, .int .i64 0, .int .i64 0], .int .i64 6]) ∧ Below W.heap.size W w'))
    (CK : Hid (∀ W : World, Calls Try.prog 8 #[.agg #[.int .i64 0, .int .i64 0], .agg #[.int .i64 2, .int .i64 0]] W fun e w' => e = .returned (.tuple #[.agg #[.int .i64 1, .int .i64 0, .int .i64 1], .int .i64 0]) ∧ Below W.heap.size W w'))
    (hs : same2 P1 P2 Q1 Q2 = true) :
    Calls Try.prog 6 #[.int .i64 x, .int .i64 y, .int .i64 u, .int .i64 v] w fun e w' => e = .returned (.bool true) ∧ Below w.heap.size w w' := by
  have E2 := eql23 P1 P2 Q1 Q2
  rw [hs] at E2
  have N1 := neq25 1 0 1 1 0 1
  rw [same3_self] at N1
  clear hs
  go_enter Try.func6, Try.ntmps6
  go_wp2_with (first | (go_at_call 20; (with_reducible refine (CN1.out _).mono ?_); rintro e w1 ⟨rfl, hb1⟩) | (go_at_call 20; (with_reducible refine (CN2.out _).mono ?_); rintro e w2 ⟨rfl, hb2⟩; have HB : Hid (Below w.heap.size w w2) := bl_via hb1 hb2; clear hb1 hb2) | (go_at_call 8; (with_reducible refine (C8.out _).mono ?_); rintro e w3 ⟨rfl, hb3⟩; have p0 : w3.cell? ⟨w2.heap.size, 0, none⟩ = some (.int .i64 P1) := cl_kept hb3 (by simp [go_sem]); have p1 : w3.cell? ⟨w2.heap.size, 1, none⟩ = some (.int .i64 P2) := cl_kept hb3 (by simp [go_sem]); have q0 : w3.cell? ⟨w2.heap.size + 1, 0, none⟩ = some (.int .i64 Q1) := cl_kept hb3 (by simp [go_sem]); have q1 : w3.cell? ⟨w2.heap.size + 1, 1, none⟩ = some (.int .i64 Q2) := cl_kept hb3 (by simp [go_sem]); replace HB : Hid (Below w.heap.size w w3) := bl_via HB.out (bl_via (bl_alloc (bl_alloc (bl_refl _))) hb3); clear hb3; have gp := World.block_lt_of_cell? _ _ p0; have gq := World.block_lt_of_cell? _ _ q0) | (go_at_call 7; (with_reducible refine (C7.out _).mono ?_); rintro e w4 ⟨rfl, hb4⟩; replace p0 := cl_kept hb4 (cl_kept (bl_alloc (bl_refl _)) p0); replace p1 := cl_kept hb4 (cl_kept (bl_alloc (bl_refl _)) p1); replace q0 := cl_kept hb4 (cl_kept (bl_alloc (bl_refl _)) q0); replace q1 := cl_kept hb4 (cl_kept (bl_alloc (bl_refl _)) q1); have f0 : w4.cell? ⟨w3.heap.size, 0, none⟩ = some (.int .i64 0) := cl_kept hb4 (by simp [go_sem]); have f1 : w4.cell? ⟨w3.heap.size, 1, none⟩ = some (.int .i64 0) := cl_kept hb4 (by simp [go_sem]); have f2 : w4.cell? ⟨w3.heap.size, 2, none⟩ = some (.int .i64 0) := cl_kept hb4 (by simp [go_sem]); replace HB : Hid (Below w.heap.size w w4) := bl_via HB.out (bl_via (bl_alloc (bl_refl _)) hb4); clear hb4; have gp := World.block_lt_of_cell? _ _ p0; have gq := World.block_lt_of_cell? _ _ q0; have gf := World.block_lt_of_cell? _ _ f0) | (go_at_call 8; (with_reducible refine (CK.out _).mono ?_); rintro e w5 ⟨rfl, hb5⟩; replace p0 := cl_kept hb5 (cl_kept (bl_alloc (bl_refl _)) p0); replace p1 := cl_kept hb5 (cl_kept (bl_alloc (bl_refl _)) p1); replace q0 := cl_kept hb5 (cl_kept (bl_alloc (bl_refl _)) q0); replace q1 := cl_kept hb5 (cl_kept (bl_alloc (bl_refl _)) q1); replace f0 := cl_kept hb5 (cl_kept (bl_alloc (bl_refl _)) f0); replace f1 := cl_kept hb5 (cl_kept (bl_alloc (bl_refl _)) f1); replace f2 := cl_kept hb5 (cl_kept (bl_alloc (bl_refl _)) f2); have g0 : w5.cell? ⟨w4.heap.size, 0, none⟩ = some (.int .i64 0) := cl_kept hb5 (by simp [go_sem]); have g1 : w5.cell? ⟨w4.heap.size, 1, none⟩ = some (.int .i64 0) := cl_kept hb5 (by simp [go_sem]); have g2 : w5.cell? ⟨w4.heap.size, 2, none⟩ = some (.int .i64 0) := cl_kept hb5 (by simp [go_sem]); replace HB : Hid (Below w.heap.size w w5) := bl_via HB.out (bl_via (bl_alloc (bl_refl _)) hb5); clear hb5; have gp := World.block_lt_of_cell? _ _ p0; have gq := World.block_lt_of_cell? _ _ q0; have gf := World.block_lt_of_cell? _ _ f0; have gg := World.block_lt_of_cell? _ _ g0) | fail)
  go_ret
  exact ⟨ret_bool (by simp), bl_via HB.out (bl_alloc (bl_refl _))⟩
set_option maxRecDepth 100000 in
set_option maxHeartbeats 6400000 in
theorem middle_ok (x y u v P1 P2 Q1 Q2 A B C D E F : Int) (w : World)
    (CN1 : Hid (∀ W : World, Calls Try.prog 20 #[.int .i64 x, .int .i64 y] W fun e w' => e = .returned (.agg #[.int .i64 P1, .int .i64 P2]) ∧ Below W.heap.size W w'))
    (CN2 : Hid (∀ W : World, Calls Try.prog 20 #[.int .i64 u, .int .i64 v] W fun e w' => e = .returned (.agg #[.int .i64 Q1, .int .i64 Q2]) ∧ Below W.heap.size W w'))
    (C8 : Hid (∀ W : World, Calls Try.prog 8 #[.agg #[.int .i64 P1, .int .i64 P2], .agg #[.int .i64 Q1, .int .i64 Q2]] W fun e w' => e = .returned (.tuple #[.agg #[.int .i64 A, .int .i64 B, .int .i64 C], .int .i64 0]) ∧ Below W.heap.size W w'))
    (C7 : Hid (∀ W : World, Calls Try.prog 7 #[.agg #[.int .i64 P1, .int .i64 P2], .agg #[.int .i64 Q1, .int .i64 Q2]] W fun e w' => e = .returned (.tuple #[.agg #[.int .i64 D, .int .i64 E, .int .i64 F], .int .i64 0]) ∧ Below W.heap.size W w'))
    (CK : Hid (∀ W : World, Calls Try.prog 8 #[.agg #[.int .i64 0, .int .i64 0], .agg #[.int .i64 2, .int .i64 0]] W fun e w' => e = .returned (.tuple #[.agg #[.int .i64 1, .int .i64 0, .int .i64 1], .int .i64 0]) ∧ Below W.heap.size W w'))
    (CB : Hid (∀ W : World, Calls Try.prog 8 #[.agg #[.int .i64 Q1, .int .i64 Q2], .agg #[.int .i64 P1, .int .i64 P2]] W fun e w' => e = .returned (.tuple #[.agg #[.int .i64 A, .int .i64 B, .int .i64 C], .int .i64 0]) ∧ Below W.heap.size W w'))
    (CO1 : Hid (∀ W : World, Calls Try.prog 21 #[.agg #[.int .i64 A, .int .i64 B, .int .i64 C], .int .i64 (P1 + Q1), .int .i64 (P2 + Q2), .int .i64 2] W fun e w' => e = .returned (.bool true) ∧ Below W.heap.size W w'))
    (CO2 : Hid (∀ W : World, Calls Try.prog 21 #[.agg #[.int .i64 D, .int .i64 E, .int .i64 F], .int .i64 P1, .int .i64 P2, .int .i64 1] W fun e w' => e = .returned (.bool true) ∧ Below W.heap.size W w'))
    (CO3 : Hid (∀ W : World, Calls Try.prog 21 #[.agg #[.int .i64 D, .int .i64 E, .int .i64 F], .int .i64 Q1, .int .i64 Q2, .int .i64 1] W fun e w' => e = .returned (.bool true) ∧ Below W.heap.size W w'))
    (hP1 : bd 100 P1) (hP2 : bd 100 P2) (hQ1 : bd 100 Q1) (hQ2 : bd 100 Q2) (hAD : bd 1000000000000 (A * D)) (hBE : bd 1000000000000 (B * E)) (hz : A * D + B * E = 0)
    (hs : same2 P1 P2 Q1 Q2 = false) :
    Calls Try.prog 6 #[.int .i64 x, .int .i64 y, .int .i64 u, .int .i64 v] w fun e w' => e = .returned (.bool true) ∧ Below w.heap.size w w' := by
  have E2 := eql23 P1 P2 Q1 Q2
  rw [hs] at E2
  have N1 := neq25 1 0 1 1 0 1
  rw [same3_self] at N1
  have N2 := eql25 A B C A B C
  rw [same3_self] at N2
  unfold bd at *
  obtain ⟨_, _⟩ := hP1
  obtain ⟨_, _⟩ := hP2
  obtain ⟨_, _⟩ := hQ1
  obtain ⟨_, _⟩ := hQ2
  obtain ⟨_, _⟩ := hAD
  obtain ⟨_, _⟩ := hBE
  clear hs
  go_enter Try.func6, Try.ntmps6
  go_wp2_with (first | (go_at_call 20; (with_reducible refine (CN1.out _).mono ?_); rintro e w1 ⟨rfl, hb1⟩) | (go_at_call 20; (with_reducible refine (CN2.out _).mono ?_); rintro e w2 ⟨rfl, hb2⟩; have HB : Hid (Below w.heap.size w w2) := bl_via hb1 hb2; clear hb1 hb2) | (go_at_call 8; (with_reducible refine (C8.out _).mono ?_); rintro e w3 ⟨rfl, hb3⟩; have p0 : w3.cell? ⟨w2.heap.size, 0, none⟩ = some (.int .i64 P1) := cl_kept hb3 (by simp [go_sem]); have p1 : w3.cell? ⟨w2.heap.size, 1, none⟩ = some (.int .i64 P2) := cl_kept hb3 (by simp [go_sem]); have q0 : w3.cell? ⟨w2.heap.size + 1, 0, none⟩ = some (.int .i64 Q1) := cl_kept hb3 (by simp [go_sem]); have q1 : w3.cell? ⟨w2.heap.size + 1, 1, none⟩ = some (.int .i64 Q2) := cl_kept hb3 (by simp [go_sem]); replace HB : Hid (Below w.heap.size w w3) := bl_via HB.out (bl_via (bl_alloc (bl_alloc (bl_refl _))) hb3); clear hb3; have gp := World.block_lt_of_cell? _ _ p0; have gq := World.block_lt_of_cell? _ _ q0) | (go_at_call 7; (with_reducible refine (C7.out _).mono ?_); rintro e w4 ⟨rfl, hb4⟩; replace p0 := cl_kept hb4 (cl_kept (bl_alloc (bl_refl _)) p0); replace p1 := cl_kept hb4 (cl_kept (bl_alloc (bl_refl _)) p1); replace q0 := cl_kept hb4 (cl_kept (bl_alloc (bl_refl _)) q0); replace q1 := cl_kept hb4 (cl_kept (bl_alloc (bl_refl _)) q1); have f0 : w4.cell? ⟨w3.heap.size, 0, none⟩ = some (.int .i64 A) := cl_kept hb4 (by simp [go_sem]); have f1 : w4.cell? ⟨w3.heap.size, 1, none⟩ = some (.int .i64 B) := cl_kept hb4 (by simp [go_sem]); have f2 : w4.cell? ⟨w3.heap.size, 2, none⟩ = some (.int .i64 C) := cl_kept hb4 (by simp [go_sem]); replace HB : Hid (Below w.heap.size w w4) := bl_via HB.out (bl_via (bl_alloc (bl_refl _)) hb4); clear hb4; have gp := World.block_lt_of_cell? _ _ p0; have gq := World.block_lt_of_cell? _ _ q0; have gf := World.block_lt_of_cell? _ _ f0) | (go_at_call 8; (with_reducible refine (CK.out _).mono ?_); rintro e w5 ⟨rfl, hb5⟩; replace p0 := cl_kept hb5 (cl_kept (bl_alloc (bl_refl _)) p0); replace p1 := cl_kept hb5 (cl_kept (bl_alloc (bl_refl _)) p1); replace q0 := cl_kept hb5 (cl_kept (bl_alloc (bl_refl _)) q0); replace q1 := cl_kept hb5 (cl_kept (bl_alloc (bl_refl _)) q1); replace f0 := cl_kept hb5 (cl_kept (bl_alloc (bl_refl _)) f0); replace f1 := cl_kept hb5 (cl_kept (bl_alloc (bl_refl _)) f1); replace f2 := cl_kept hb5 (cl_kept (bl_alloc (bl_refl _)) f2); have g0 : w5.cell? ⟨w4.heap.size, 0, none⟩ = some (.int .i64 D) := cl_kept hb5 (by simp [go_sem]); have g1 : w5.cell? ⟨w4.heap.size, 1, none⟩ = some (.int .i64 E) := cl_kept hb5 (by simp [go_sem]); have g2 : w5.cell? ⟨w4.heap.size, 2, none⟩ = some (.int .i64 F) := cl_kept hb5 (by simp [go_sem]); replace HB : Hid (Below w.heap.size w w5) := bl_via HB.out (bl_via (bl_alloc (bl_refl _)) hb5); clear hb5; have gp := World.block_lt_of_cell? _ _ p0; have gq := World.block_lt_of_cell? _ _ q0; have gf := World.block_lt_of_cell? _ _ f0; have gg := World.block_lt_of_cell? _ _ g0) | (go_at_call 8; (with_reducible refine (CB.out _).mono ?_); rintro e w6 ⟨rfl, hb6⟩; replace p0 := cl_kept hb6 (cl_kept (bl_alloc (bl_refl _)) p0); replace p1 := cl_kept hb6 (cl_kept (bl_alloc (bl_refl _)) p1); replace q0 := cl_kept hb6 (cl_kept (bl_alloc (bl_refl _)) q0); replace q1 := cl_kept hb6 (cl_kept (bl_alloc (bl_refl _)) q1); replace f0 := cl_kept hb6 (cl_kept (bl_alloc (bl_refl _)) f0); replace f1 := cl_kept hb6 (cl_kept (bl_alloc (bl_refl _)) f1); replace f2 := cl_kept hb6 (cl_kept (bl_alloc (bl_refl _)) f2); replace g0 := cl_kept hb6 (cl_kept (bl_alloc (bl_refl _)) g0); replace g1 := cl_kept hb6 (cl_kept (bl_alloc (bl_refl _)) g1); replace g2 := cl_kept hb6 (cl_kept (bl_alloc (bl_refl _)) g2); replace HB : Hid (Below w.heap.size w w6) := bl_via HB.out (bl_via (bl_alloc (bl_refl _)) hb6); clear hb6; have gp := World.block_lt_of_cell? _ _ p0; have gq := World.block_lt_of_cell? _ _ q0; have gf := World.block_lt_of_cell? _ _ f0; have gg := World.block_lt_of_cell? _ _ g0) | (go_at_call 21; (with_reducible refine (CO1.out _).mono ?_); rintro e w7 ⟨rfl, hb7⟩; replace p0 := cl_kept hb7 (cl_kept (bl_alloc (bl_refl _)) p0); replace p1 := cl_kept hb7 (cl_kept (bl_alloc (bl_refl _)) p1); replace q0 := cl_kept hb7 (cl_kept (bl_alloc (bl_refl _)) q0); replace q1 := cl_kept hb7 (cl_kept (bl_alloc (bl_refl _)) q1); replace f0 := cl_kept hb7 (cl_kept (bl_alloc (bl_refl _)) f0); replace f1 := cl_kept hb7 (cl_kept (bl_alloc (bl_refl _)) f1); replace f2 := cl_kept hb7 (cl_kept (bl_alloc (bl_refl _)) f2); replace g0 := cl_kept hb7 (cl_kept (bl_alloc (bl_refl _)) g0); replace g1 := cl_kept hb7 (cl_kept (bl_alloc (bl_refl _)) g1); replace g2 := cl_kept hb7 (cl_kept (bl_alloc (bl_refl _)) g2); replace HB : Hid (Below w.heap.size w w7) := bl_via HB.out (bl_via (bl_alloc (bl_refl _)) hb7); clear hb7; have gp := World.block_lt_of_cell? _ _ p0; have gq := World.block_lt_of_cell? _ _ q0; have gf := World.block_lt_of_cell? _ _ f0; have gg := World.block_lt_of_cell? _ _ g0) | (go_at_call 21; (with_reducible refine (CO2.out _).mono ?_); rintro e w8 ⟨rfl, hb8⟩; replace p0 := cl_kept hb8 p0; replace p1 := cl_kept hb8 p1; replace q0 := cl_kept hb8 q0; replace q1 := cl_kept hb8 q1; replace f0 := cl_kept hb8 f0; replace f1 := cl_kept hb8 f1; replace f2 := cl_kept hb8 f2; replace g0 := cl_kept hb8 g0; replace g1 := cl_kept hb8 g1; replace g2 := cl_kept hb8 g2; replace HB : Hid (Below w.heap.size w w8) := bl_via HB.out hb8; clear hb8; have gp := World.block_lt_of_cell? _ _ p0; have gq := World.block_lt_of_cell? _ _ q0; have gf := World.block_lt_of_cell? _ _ f0; have gg := World.block_lt_of_cell? _ _ g0) | (go_at_call 21; (with_reducible refine (CO3.out _).mono ?_); rintro e w9 ⟨rfl, hb9⟩; replace p0 := cl_kept hb9 p0; replace p1 := cl_kept hb9 p1; replace q0 := cl_kept hb9 q0; replace q1 := cl_kept hb9 q1; replace f0 := cl_kept hb9 f0; replace f1 := cl_kept hb9 f1; replace f2 := cl_kept hb9 f2; replace g0 := cl_kept hb9 g0; replace g1 := cl_kept hb9 g1; replace g2 := cl_kept hb9 g2; replace HB : Hid (Below w.heap.size w w9) := bl_via HB.out hb9; clear hb9; have gp := World.block_lt_of_cell? _ _ p0; have gq := World.block_lt_of_cell? _ _ q0; have gf := World.block_lt_of_cell? _ _ f0; have gg := World.block_lt_of_cell? _ _ g0) | fail)
  go_ret
  exact ⟨ret_bool (by simp ), HB.out⟩
theorem near_far {P1 P2 Q1 Q2 : Int} (h1 : bd 100 P1) (h2 : bd 100 P2) (h3 : bd 100 Q1) (h4 : bd 100 Q2) : [P1, P2, Q1, Q2].any far = false := by
  unfold bd at *
  simp [far_no]
  omega
theorem one_is : ont 0 0 2 0 = st 1 0 1 := by kernel_rfl
theorem middle_any (x y u v : Int) (hx : -9223372036854775808 ≤ x ∧ x ≤ 9223372036854775807) (hy : -9223372036854775808 ≤ y ∧ y ≤ 9223372036854775807) (hu : -9223372036854775808 ≤ u ∧ u ≤ 9223372036854775807) (hv : -9223372036854775808 ≤ v ∧ v ≤ 9223372036854775807) (w : World) :
    Calls Try.prog 6 #[.int .i64 x, .int .i64 y, .int .i64 u, .int .i64 v] w fun e w' => e = .returned (.bool true) ∧ Below w.heap.size w w' := by
  have CN1 := fun W => near20 x y W hx.1 hx.2 hy.1 hy.2
  have CN2 := fun W => near20 u v W hu.1 hu.2 hv.1 hv.2
  have hP1 := nr_in x
  have hP2 := nr_in y
  have hQ1 := nr_in u
  have hQ2 := nr_in v
  generalize nr x = P1 at *
  generalize nr y = P2 at *
  generalize nr u = Q1 at *
  generalize nr v = Q2 at *
  have hf := near_far hP1 hP2 hQ1 hQ2
  have hf2 := near_far hQ1 hQ2 hP1 hP2
  have CK := fun W => onto8_ok 0 0 2 0 W (by decide +kernel)
  rw [one_is] at CK
  cases hs : same2 P1 P2 Q1 Q2
  · have hk : alk P1 P2 Q1 Q2 = 0 := by simp [alk, hf, hs]
    have hs2 : same2 Q1 Q2 P1 P2 = false := by
      unfold same2 at hs ⊢
      have := of_decide_eq_false hs
      exact decide_eq_false (by omega)
    have hk2 : alk Q1 Q2 P1 P2 = 0 := by simp [alk, hf2, hs2]
    obtain ⟨A, B, C, D, E, F, e1, e2, e3, ⟨bA, bB, bC⟩, ⟨bD, bE, bF⟩, m1, m2, m3, m4⟩ := middle_all hP1 hP2 hQ1 hQ2 hs
    have C8 := fun W => onto8_ok P1 P2 Q1 Q2 W hk
    have CB := fun W => onto8_ok Q1 Q2 P1 P2 W hk2
    have C7 := fun W => through7_ok P1 P2 Q1 Q2 W hk
    rw [e1] at C8
    rw [e2] at CB
    rw [e3] at C7
    have u1 := bd_up hP1 (show (100 : Int) ≤ 1000 by omega)
    have u2 := bd_up hP2 (show (100 : Int) ≤ 1000 by omega)
    have u3 := bd_up hQ1 (show (100 : Int) ≤ 1000 by omega)
    have u4 := bd_up hQ2 (show (100 : Int) ≤ 1000 by omega)
    exact middle_ok x y u v P1 P2 Q1 Q2 A B C D E F w CN1 CN2 C8 C7 CK CB (fun W => on21 A B C (P1 + Q1) (P2 + Q2) 2 W bA bB bC (bd_up (bd_add hP1 hQ1) (by omega)) (bd_up (bd_add hP2 hQ2) (by omega)) (by unfold bd; omega) m1) (fun W => on21 D E F P1 P2 1 W bD bE bF u1 u2 (by unfold bd; omega) m2) (fun W => on21 D E F Q1 Q2 1 W bD bE bF u3 u4 (by unfold bd; omega) m3) hP1 hP2 hQ1 hQ2 (bd_mul bA bD) (bd_mul bB bE) m4 hs
  · have hk : alk P1 P2 Q1 Q2 = 6 := by simp [alk, hf, hs]
    exact middle_twice x y u v P1 P2 Q1 Q2 w CN1 CN2 (fun W => onto8_no P1 P2 Q1 Q2 6 W hk (by decide)) (fun W => through7_no P1 P2 Q1 Q2 6 W hk (by decide)) CK hs
end Go.Proofs.Ytohnppjbmpaomaa
