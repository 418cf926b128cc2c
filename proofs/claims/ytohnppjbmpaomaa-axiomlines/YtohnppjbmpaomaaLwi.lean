/- AxiomLines: a walk (two, none). -/
import Derived.Test.YtohnppjbmpaomaaEqst
import Derived.Test.YtohnppjbmpaomaaUprt
namespace Go.Proofs.Ytohnppjbmpaomaa
open Go.RowKit

set_option maxRecDepth 100000 in
set_option maxHeartbeats 6400000 in
theorem lines_two_none (a b c d e f x y G1 G2 G3 H1 H2 H3 : Int) (w : World)
    (C14 : Hid (∀ W : World, Calls Try.prog 14 #[.agg #[.int .i64 a, .int .i64 b, .int .i64 c], .agg #[.int .i64 d, .int .i64 e, .int .i64 f]] W fun z w' => ∃ g cap : Nat, z = .returned (.tuple #[.slice (some ⟨g, 0, none⟩) 2 cap, .int .i64 0]) ∧ (w'.cell? ⟨g, 0, none⟩ = some (.int .i64 G1) ∧ w'.cell? ⟨g, 1, none⟩ = some (.int .i64 G2) ∧ w'.cell? ⟨g, 2, none⟩ = some (.int .i64 G3) ∧ w'.cell? ⟨g, 3, none⟩ = some (.int .i64 H1) ∧ w'.cell? ⟨g, 4, none⟩ = some (.int .i64 H2) ∧ w'.cell? ⟨g, 5, none⟩ = some (.int .i64 H3)) ∧ Below W.heap.size W w'))
    (C15 : Hid (∀ W : World, Calls Try.prog 15 #[.agg #[.int .i64 x, .int .i64 y], .agg #[.int .i64 a, .int .i64 b, .int .i64 c], .agg #[.int .i64 d, .int .i64 e, .int .i64 f]] W fun z w' => z = .returned (.tuple #[.agg #[.int .i64 0, .int .i64 0, .int .i64 0], .int .i64 9]) ∧ Below W.heap.size W w'))
    (CF : Hid (∀ (g : Nat) (W : World), (W.cell? ⟨g, 0, none⟩ = some (.int .i64 a) ∧ W.cell? ⟨g, 1, none⟩ = some (.int .i64 b) ∧ W.cell? ⟨g, 2, none⟩ = some (.int .i64 c) ∧ W.cell? ⟨g, 3, none⟩ = some (.int .i64 d) ∧ W.cell? ⟨g, 4, none⟩ = some (.int .i64 e) ∧ W.cell? ⟨g, 5, none⟩ = some (.int .i64 f)) → Calls Try.prog 10 #[.slice none 0 0, .slice (some ⟨g, 0, none⟩) 2 2] W fun z w' => z = .returned (.int .i64 0) ∧ Below W.heap.size W w'))
    (C16 : Hid (∀ W : World, Calls Try.prog 16 #[.agg #[.int .i64 a, .int .i64 b, .int .i64 c], .agg #[.int .i64 d, .int .i64 e, .int .i64 f]] W fun z w' => ∃ g cap : Nat, z = .returned (.tuple #[.slice (some ⟨g, 0, none⟩) 2 cap, .int .i64 0]) ∧ (w'.cell? ⟨g, 0, none⟩ = some (.int .i64 G1) ∧ w'.cell? ⟨g, 1, none⟩ = some (.int .i64 G2) ∧ w'.cell? ⟨g, 2, none⟩ = some (.int .i64 G3) ∧ w'.cell? ⟨g, 3, none⟩ = some (.int .i64 H1) ∧ w'.cell? ⟨g, 4, none⟩ = some (.int .i64 H2) ∧ w'.cell? ⟨g, 5, none⟩ = some (.int .i64 H3)) ∧ Below W.heap.size W w'))
    (CG : Hid (∀ (g h : Nat) (W : World), (W.cell? ⟨g, 0, none⟩ = some (.int .i64 x) ∧ W.cell? ⟨g, 1, none⟩ = some (.int .i64 y)) → (W.cell? ⟨h, 0, none⟩ = some (.int .i64 a) ∧ W.cell? ⟨h, 1, none⟩ = some (.int .i64 b) ∧ W.cell? ⟨h, 2, none⟩ = some (.int .i64 c) ∧ W.cell? ⟨h, 3, none⟩ = some (.int .i64 d) ∧ W.cell? ⟨h, 4, none⟩ = some (.int .i64 e) ∧ W.cell? ⟨h, 5, none⟩ = some (.int .i64 f)) → Calls Try.prog 10 #[.slice (some ⟨g, 0, none⟩) 1 1, .slice (some ⟨h, 0, none⟩) 2 2] W fun z w' => z = .returned (.int .i64 0) ∧ Below W.heap.size W w'))
    (C17 : Hid (∀ W : World, Calls Try.prog 17 #[.agg #[.int .i64 x, .int .i64 y], .agg #[.int .i64 a, .int .i64 b, .int .i64 c], .agg #[.int .i64 d, .int .i64 e, .int .i64 f]] W fun z w' => z = .returned (.tuple #[.agg #[.int .i64 0, .int .i64 0, .int .i64 0], .bool false]) ∧ Below W.heap.size W w')) :
    Calls Try.prog 4 #[.agg #[.int .i64 a, .int .i64 b, .int .i64 c], .agg #[.int .i64 d, .int .i64 e, .int .i64 f], .agg #[.int .i64 x, .int .i64 y]] w fun z w' => z = .returned (.bool true) ∧ Below w.heap.size w w' := by
  have N3 := eql25 0 0 0 0 0 0
  rw [same3_self] at N3
  have M0 := neq25 G1 G2 G3 G1 G2 G3
  rw [same3_self] at M0
  have M1 := neq25 H1 H2 H3 H1 H2 H3
  rw [same3_self] at M1
  go_enter Try.func4, Try.ntmps4
  go_wp2_with (first | (go_at_call 14; (with_reducible refine (C14.out _).mono ?_); rintro z1 w1 ⟨gh, ch, rfl, ⟨h0, h1, h2, h3, h4, h5⟩, hb1⟩; have l0 : w1.cell? ⟨w.heap.size, 0, none⟩ = some (.int .i64 a) := cl_kept hb1 (by simp [go_sem]); have l1 : w1.cell? ⟨w.heap.size, 1, none⟩ = some (.int .i64 b) := cl_kept hb1 (by simp [go_sem]); have l2 : w1.cell? ⟨w.heap.size, 2, none⟩ = some (.int .i64 c) := cl_kept hb1 (by simp [go_sem]); have m0 : w1.cell? ⟨w.heap.size + 1, 0, none⟩ = some (.int .i64 d) := cl_kept hb1 (by simp [go_sem]); have m1 : w1.cell? ⟨w.heap.size + 1, 1, none⟩ = some (.int .i64 e) := cl_kept hb1 (by simp [go_sem]); have m2 : w1.cell? ⟨w.heap.size + 1, 2, none⟩ = some (.int .i64 f) := cl_kept hb1 (by simp [go_sem]); have p0 : w1.cell? ⟨w.heap.size + 1 + 1, 0, none⟩ = some (.int .i64 x) := cl_kept hb1 (by simp [go_sem]); have p1 : w1.cell? ⟨w.heap.size + 1 + 1, 1, none⟩ = some (.int .i64 y) := cl_kept hb1 (by simp [go_sem]); have HB : Hid (Below w.heap.size w w1) := bl_via (bl_alloc (bl_alloc (bl_alloc (bl_refl _)))) hb1; clear hb1; have gl := World.block_lt_of_cell? _ _ l0; have gm := World.block_lt_of_cell? _ _ m0; have gp := World.block_lt_of_cell? _ _ p0) | (go_at_call 15; (with_reducible refine (C15.out _).mono ?_); rintro z2 w2 ⟨rfl, hb2⟩; replace l0 := cl_kept hb2 l0; replace l1 := cl_kept hb2 l1; replace l2 := cl_kept hb2 l2; replace m0 := cl_kept hb2 m0; replace m1 := cl_kept hb2 m1; replace m2 := cl_kept hb2 m2; replace p0 := cl_kept hb2 p0; replace p1 := cl_kept hb2 p1; replace h0 := cl_kept hb2 h0; replace h1 := cl_kept hb2 h1; replace h2 := cl_kept hb2 h2; replace h3 := cl_kept hb2 h3; replace h4 := cl_kept hb2 h4; replace h5 := cl_kept hb2 h5; replace HB : Hid (Below w.heap.size w w2) := bl_via HB.out hb2; clear hb2; have gl := World.block_lt_of_cell? _ _ l0; have gm := World.block_lt_of_cell? _ _ m0; have gp := World.block_lt_of_cell? _ _ p0) | (go_at_call 10; refine Calls.mono (CF.out _ _ ⟨?_, ?_, ?_, ?_, ?_, ?_⟩) ?_; (focus (simp [go_sem]; done)); (focus (simp [go_sem]; done)); (focus (simp [go_sem]; done)); (focus (simp [go_sem]; done)); (focus (simp [go_sem]; done)); (focus (simp [go_sem]; done)); rintro z3 w3 ⟨rfl, hb3⟩; replace l0 := cl_kept hb3 (cl_kept (bl_alloc (bl_alloc (bl_alloc (bl_refl _)))) l0); replace l1 := cl_kept hb3 (cl_kept (bl_alloc (bl_alloc (bl_alloc (bl_refl _)))) l1); replace l2 := cl_kept hb3 (cl_kept (bl_alloc (bl_alloc (bl_alloc (bl_refl _)))) l2); replace m0 := cl_kept hb3 (cl_kept (bl_alloc (bl_alloc (bl_alloc (bl_refl _)))) m0); replace m1 := cl_kept hb3 (cl_kept (bl_alloc (bl_alloc (bl_alloc (bl_refl _)))) m1); replace m2 := cl_kept hb3 (cl_kept (bl_alloc (bl_alloc (bl_alloc (bl_refl _)))) m2); replace p0 := cl_kept hb3 (cl_kept (bl_alloc (bl_alloc (bl_alloc (bl_refl _)))) p0); replace p1 := cl_kept hb3 (cl_kept (bl_alloc (bl_alloc (bl_alloc (bl_refl _)))) p1); replace h0 := cl_kept hb3 (cl_kept (bl_alloc (bl_alloc (bl_alloc (bl_refl _)))) h0); replace h1 := cl_kept hb3 (cl_kept (bl_alloc (bl_alloc (bl_alloc (bl_refl _)))) h1); replace h2 := cl_kept hb3 (cl_kept (bl_alloc (bl_alloc (bl_alloc (bl_refl _)))) h2); replace h3 := cl_kept hb3 (cl_kept (bl_alloc (bl_alloc (bl_alloc (bl_refl _)))) h3); replace h4 := cl_kept hb3 (cl_kept (bl_alloc (bl_alloc (bl_alloc (bl_refl _)))) h4); replace h5 := cl_kept hb3 (cl_kept (bl_alloc (bl_alloc (bl_alloc (bl_refl _)))) h5); have a0 : w3.cell? ⟨w2.heap.size, 0, none⟩ = some (.int .i64 0) := cl_kept hb3 (by simp [go_sem]); have a1 : w3.cell? ⟨w2.heap.size, 1, none⟩ = some (.int .i64 0) := cl_kept hb3 (by simp [go_sem]); have a2 : w3.cell? ⟨w2.heap.size, 2, none⟩ = some (.int .i64 0) := cl_kept hb3 (by simp [go_sem]); have z0 : w3.cell? ⟨w2.heap.size + 1, 0, none⟩ = some (.int .i64 0) := cl_kept hb3 (by simp [go_sem]); have z1 : w3.cell? ⟨w2.heap.size + 1, 1, none⟩ = some (.int .i64 0) := cl_kept hb3 (by simp [go_sem]); have z2 : w3.cell? ⟨w2.heap.size + 1, 2, none⟩ = some (.int .i64 0) := cl_kept hb3 (by simp [go_sem]); replace HB : Hid (Below w.heap.size w w3) := bl_via HB.out (bl_via (bl_alloc (bl_alloc (bl_alloc (bl_refl _)))) hb3); clear hb3; have gl := World.block_lt_of_cell? _ _ l0; have gm := World.block_lt_of_cell? _ _ m0; have gp := World.block_lt_of_cell? _ _ p0; have ga := World.block_lt_of_cell? _ _ a0; have gz := World.block_lt_of_cell? _ _ z0) | (go_at_call 16; (with_reducible refine (C16.out _).mono ?_); rintro z4 w4 ⟨gk, ck, rfl, ⟨k0c, k1c, k2c, k3c, k4c, k5c⟩, hb4⟩; replace l0 := cl_kept hb4 l0; replace l1 := cl_kept hb4 l1; replace l2 := cl_kept hb4 l2; replace m0 := cl_kept hb4 m0; replace m1 := cl_kept hb4 m1; replace m2 := cl_kept hb4 m2; replace p0 := cl_kept hb4 p0; replace p1 := cl_kept hb4 p1; replace h0 := cl_kept hb4 h0; replace h1 := cl_kept hb4 h1; replace h2 := cl_kept hb4 h2; replace h3 := cl_kept hb4 h3; replace h4 := cl_kept hb4 h4; replace h5 := cl_kept hb4 h5; replace a0 := cl_kept hb4 a0; replace a1 := cl_kept hb4 a1; replace a2 := cl_kept hb4 a2; replace z0 := cl_kept hb4 z0; replace z1 := cl_kept hb4 z1; replace z2 := cl_kept hb4 z2; replace HB : Hid (Below w.heap.size w w4) := bl_via HB.out hb4; clear hb4; have gl := World.block_lt_of_cell? _ _ l0; have gm := World.block_lt_of_cell? _ _ m0; have gp := World.block_lt_of_cell? _ _ p0; have ga := World.block_lt_of_cell? _ _ a0; have gz := World.block_lt_of_cell? _ _ z0) | fail)
  have HC : Hid (∀ w', Below w4.heap.size w4 w' → (w'.cell? ⟨gh, 0, none⟩ = some (.int .i64 G1) ∧ w'.cell? ⟨gh, 1, none⟩ = some (.int .i64 G2) ∧ w'.cell? ⟨gh, 2, none⟩ = some (.int .i64 G3) ∧ w'.cell? ⟨gh, 3, none⟩ = some (.int .i64 H1) ∧ w'.cell? ⟨gh, 4, none⟩ = some (.int .i64 H2) ∧ w'.cell? ⟨gh, 5, none⟩ = some (.int .i64 H3)) ∧ (w'.cell? ⟨gk, 0, none⟩ = some (.int .i64 G1) ∧ w'.cell? ⟨gk, 1, none⟩ = some (.int .i64 G2) ∧ w'.cell? ⟨gk, 2, none⟩ = some (.int .i64 G3) ∧ w'.cell? ⟨gk, 3, none⟩ = some (.int .i64 H1) ∧ w'.cell? ⟨gk, 4, none⟩ = some (.int .i64 H2) ∧ w'.cell? ⟨gk, 5, none⟩ = some (.int .i64 H3)) ∧ w'.cell? ⟨w.heap.size, 0, none⟩ = some (.int .i64 a) ∧ w'.cell? ⟨w.heap.size, 1, none⟩ = some (.int .i64 b) ∧ w'.cell? ⟨w.heap.size, 2, none⟩ = some (.int .i64 c) ∧ w'.cell? ⟨w.heap.size + 1, 0, none⟩ = some (.int .i64 d) ∧ w'.cell? ⟨w.heap.size + 1, 1, none⟩ = some (.int .i64 e) ∧ w'.cell? ⟨w.heap.size + 1, 2, none⟩ = some (.int .i64 f) ∧ w'.cell? ⟨w.heap.size + 1 + 1, 0, none⟩ = some (.int .i64 x) ∧ w'.cell? ⟨w.heap.size + 1 + 1, 1, none⟩ = some (.int .i64 y) ∧ w'.cell? ⟨w2.heap.size, 0, none⟩ = some (.int .i64 0) ∧ w'.cell? ⟨w2.heap.size, 1, none⟩ = some (.int .i64 0) ∧ w'.cell? ⟨w2.heap.size, 2, none⟩ = some (.int .i64 0) ∧ w'.cell? ⟨w2.heap.size + 1, 0, none⟩ = some (.int .i64 0) ∧ w'.cell? ⟨w2.heap.size + 1, 1, none⟩ = some (.int .i64 0) ∧ w'.cell? ⟨w2.heap.size + 1, 2, none⟩ = some (.int .i64 0)) := fun w' hw => ⟨⟨cl_kept hw h0, cl_kept hw h1, cl_kept hw h2, cl_kept hw h3, cl_kept hw h4, cl_kept hw h5⟩, ⟨cl_kept hw k0c, cl_kept hw k1c, cl_kept hw k2c, cl_kept hw k3c, cl_kept hw k4c, cl_kept hw k5c⟩, cl_kept hw l0, cl_kept hw l1, cl_kept hw l2, cl_kept hw m0, cl_kept hw m1, cl_kept hw m2, cl_kept hw p0, cl_kept hw p1, cl_kept hw a0, cl_kept hw a1, cl_kept hw a2, cl_kept hw z0, cl_kept hw z1, cl_kept hw z2⟩
  clear h0 h1 h2 h3 h4 h5 k0c k1c k2c k3c k4c k5c l0 l1 l2 m0 m1 m2 p0 p1 a0 a1 a2 z0 z1 z2 gl gm gp ga gz C14 C15 CF C16
  go_loopg [15] 2 (fun gk9 s15 wx => (gk9 = 2 ∧ s15 = .int .i64 0 ∧ wx = w4) ∨ (gk9 = 1 ∧ s15 = .int .i64 1 ∧ Hid (Below w4.heap.size w4 wx)) ∨ (gk9 = 0 ∧ s15 = .int .i64 2 ∧ Hid (Below w4.heap.size w4 wx)))
  case atStart => exact Or.inl ⟨rfl, rfl, rfl⟩
  case round =>
    rcases hrel with ⟨rfl, rfl, rfl⟩ | ⟨rfl, rfl, HX⟩ | ⟨rfl, rfl, HX⟩
    · obtain ⟨⟨h0, h1, h2, h3, h4, h5⟩, ⟨k0c, k1c, k2c, k3c, k4c, k5c⟩, _⟩ := HC.out wr (bl_refl wr)
      clear h3 h4 h5 k3c k4c k5c
      have zh := World.block_lt_of_cell? _ _ h0
      have zk := World.block_lt_of_cell? _ _ k0c
      have kc := Kin.cells wr
      have kn : Nonempty (Kin wr) := ⟨⟨wr, bl_refl _⟩⟩
      go_wp2
      refine wp_region_kin (by kernel_rfl) (by kernel_rfl) ?_
      repeat (go_big_quiet_step (fail))
      refine wpQuiet_nil ?_
      intro wq hw'
      obtain ⟨nq, hw''⟩ := hw'
      have hq : Below wr.heap.size wr wq := hw'' ▸ nq.h
      clear hw'' nq kc kn
      go_wp2
      go_roundg 1
      case measure => omega
      case rel => exact Or.inr (Or.inl ⟨rfl, by go_num, (bl_via (bl_refl wr) hq : Below _ _ _)⟩)
    · obtain ⟨⟨h0, h1, h2, h3, h4, h5⟩, ⟨k0c, k1c, k2c, k3c, k4c, k5c⟩, _⟩ := HC.out wr (HX.out)
      clear h0 h1 h2 k0c k1c k2c
      have zh := World.block_lt_of_cell? _ _ h3
      have zk := World.block_lt_of_cell? _ _ k3c
      have kc := Kin.cells wr
      have kn : Nonempty (Kin wr) := ⟨⟨wr, bl_refl _⟩⟩
      go_wp2
      refine wp_region_kin (by kernel_rfl) (by kernel_rfl) ?_
      repeat (go_big_quiet_step (fail))
      refine wpQuiet_nil ?_
      intro wq hw'
      obtain ⟨nq, hw''⟩ := hw'
      have hq : Below wr.heap.size wr wq := hw'' ▸ nq.h
      clear hw'' nq kc kn
      go_wp2
      go_roundg 0
      case measure => omega
      case rel => exact Or.inr (Or.inr ⟨rfl, by go_num, (bl_via (HX.out) hq : Below _ _ _)⟩)
    · obtain ⟨_, _, l0, l1, l2, m0, m1, m2, p0, p1, a0, a1, a2, z0, z1, z2⟩ := HC.out wr HX.out
      have gl := World.block_lt_of_cell? _ _ l0
      have gm := World.block_lt_of_cell? _ _ m0
      have gp := World.block_lt_of_cell? _ _ p0
      have ga := World.block_lt_of_cell? _ _ a0
      have gz := World.block_lt_of_cell? _ _ z0
      replace HB : Hid (Below w.heap.size w wr) := bl_via HB.out HX.out
      clear HC HX
      go_wp2_with (first | (go_at_call 10; refine Calls.mono (CG.out _ _ _ ⟨?_, ?_⟩ ⟨?_, ?_, ?_, ?_, ?_, ?_⟩) ?_; (focus (simp [go_sem]; done)); (focus (simp [go_sem]; done)); (focus (simp [go_sem]; done)); (focus (simp [go_sem]; done)); (focus (simp [go_sem]; done)); (focus (simp [go_sem]; done)); (focus (simp [go_sem]; done)); (focus (simp [go_sem]; done)); rintro z5 w5 ⟨rfl, hb5⟩; replace l0 := cl_kept hb5 (cl_kept (bl_alloc (bl_alloc (bl_refl _))) l0); replace l1 := cl_kept hb5 (cl_kept (bl_alloc (bl_alloc (bl_refl _))) l1); replace l2 := cl_kept hb5 (cl_kept (bl_alloc (bl_alloc (bl_refl _))) l2); replace m0 := cl_kept hb5 (cl_kept (bl_alloc (bl_alloc (bl_refl _))) m0); replace m1 := cl_kept hb5 (cl_kept (bl_alloc (bl_alloc (bl_refl _))) m1); replace m2 := cl_kept hb5 (cl_kept (bl_alloc (bl_alloc (bl_refl _))) m2); replace p0 := cl_kept hb5 (cl_kept (bl_alloc (bl_alloc (bl_refl _))) p0); replace p1 := cl_kept hb5 (cl_kept (bl_alloc (bl_alloc (bl_refl _))) p1); replace a0 := cl_kept hb5 (cl_kept (bl_alloc (bl_alloc (bl_refl _))) a0); replace a1 := cl_kept hb5 (cl_kept (bl_alloc (bl_alloc (bl_refl _))) a1); replace a2 := cl_kept hb5 (cl_kept (bl_alloc (bl_alloc (bl_refl _))) a2); replace z0 := cl_kept hb5 (cl_kept (bl_alloc (bl_alloc (bl_refl _))) z0); replace z1 := cl_kept hb5 (cl_kept (bl_alloc (bl_alloc (bl_refl _))) z1); replace z2 := cl_kept hb5 (cl_kept (bl_alloc (bl_alloc (bl_refl _))) z2); replace HB : Hid (Below w.heap.size w w5) := bl_via HB.out (bl_via (bl_alloc (bl_alloc (bl_refl _))) hb5); clear hb5; have gl := World.block_lt_of_cell? _ _ l0; have gm := World.block_lt_of_cell? _ _ m0; have gp := World.block_lt_of_cell? _ _ p0; have ga := World.block_lt_of_cell? _ _ a0; have gz := World.block_lt_of_cell? _ _ z0) | (go_at_call 17; (with_reducible refine (C17.out _).mono ?_); rintro z6 w6 ⟨rfl, hb6⟩; replace l0 := cl_kept hb6 l0; replace l1 := cl_kept hb6 l1; replace l2 := cl_kept hb6 l2; replace m0 := cl_kept hb6 m0; replace m1 := cl_kept hb6 m1; replace m2 := cl_kept hb6 m2; replace p0 := cl_kept hb6 p0; replace p1 := cl_kept hb6 p1; replace a0 := cl_kept hb6 a0; replace a1 := cl_kept hb6 a1; replace a2 := cl_kept hb6 a2; replace z0 := cl_kept hb6 z0; replace z1 := cl_kept hb6 z1; replace z2 := cl_kept hb6 z2; replace HB : Hid (Below w.heap.size w w6) := bl_via HB.out hb6; clear hb6; have ga := World.block_lt_of_cell? _ _ a0; have gz := World.block_lt_of_cell? _ _ z0) | fail)
      go_ret
      exact ⟨ret_bool (by simp), bl_via HB.out (bl_alloc (bl_refl _))⟩
end Go.Proofs.Ytohnppjbmpaomaa
