/- The reference's HalvesOf. -/
import Derived.Test.YtohnppjbmpaomaaAcof
import Derived.Test.YtohnppjbmpaomaaRoot
import Derived.Test.YtohnppjbmpaomaaCmps
namespace Go.Proofs.Ytohnppjbmpaomaa
open Go.RowKit

set_option maxRecDepth 100000 in
set_option maxHeartbeats 6400000 in
theorem halvesOf16_twice (a b c d e f A B C D E F : Int) (w : World) (hs : same3 A B C D E F = true)
    (CL : Hid (∀ W : World, Calls Try.prog 28 #[.int .i64 a, .int .i64 b, .int .i64 c] W fun z w' => z = .returned (.agg #[.int .i64 A, .int .i64 B, .int .i64 C]) ∧ Below W.heap.size W w'))
    (CM : Hid (∀ W : World, Calls Try.prog 28 #[.int .i64 d, .int .i64 e, .int .i64 f] W fun z w' => z = .returned (.agg #[.int .i64 D, .int .i64 E, .int .i64 F]) ∧ Below W.heap.size W w')) :
    Calls Try.prog 16 #[st a b c, st d e f] w fun z w' => z = .returned (.tuple #[.slice none 0 0, .int .i64 6]) ∧ Below w.heap.size w w' := by
  have EQ := eql25 A B C D E F
  rw [hs] at EQ
  clear hs
  unfold st
  go_enter Try.func16, Try.ntmps16
  go_wp2
  obtain ⟨W0, hW0⟩ : ∃ W0, W0 = ((w.alloc (.cells #[.int .i64 a, .int .i64 b, .int .i64 c] 25)).alloc (.cells #[.int .i64 d, .int .i64 e, .int .i64 f] 25)) := ⟨_, rfl⟩
  have HX : Hid (Bx W0 (w.heap.size) a b c ∧ Bx W0 (w.heap.size + 1) d e f ∧ Below w.heap.size w W0) := by
    rw [hW0]
    refine ⟨?_, ?_, bl_alloc (bl_alloc (bl_refl _))⟩
    · exact (bx_old w 25 a b c).kept (bl_alloc (bl_refl _))
    · have := bx_old (w.alloc (.cells #[.int .i64 a, .int .i64 b, .int .i64 c] 25)) 25 d e f
      simpa using this
  rw [← hW0]
  clear hW0
  have HS : Hid (∀ w', Below W0.heap.size W0 w' → w'.cell? ⟨w.heap.size, 0, none⟩ = some (.int .i64 a) ∧ w'.cell? ⟨w.heap.size, 1, none⟩ = some (.int .i64 b) ∧ w'.cell? ⟨w.heap.size, 2, none⟩ = some (.int .i64 c) ∧ w'.cell? ⟨w.heap.size + 1, 0, none⟩ = some (.int .i64 d) ∧ w'.cell? ⟨w.heap.size + 1, 1, none⟩ = some (.int .i64 e) ∧ w'.cell? ⟨w.heap.size + 1, 2, none⟩ = some (.int .i64 f)) := fun w' hw => ⟨cl_kept hw HX.out.1.1.1, cl_kept hw HX.out.1.1.2.1, cl_kept hw HX.out.1.1.2.2, cl_kept hw HX.out.2.1.1.1, cl_kept hw HX.out.2.1.1.2.1, cl_kept hw HX.out.2.1.1.2.2⟩
  have HS0 := HS.out W0.drew (bl_drew (bl_refl _))
  refine wp_region_late (S := fun w' => w'.cell? ⟨w.heap.size, 0, none⟩ = some (.int .i64 a) ∧ w'.cell? ⟨w.heap.size, 1, none⟩ = some (.int .i64 b) ∧ w'.cell? ⟨w.heap.size, 2, none⟩ = some (.int .i64 c) ∧ w'.cell? ⟨w.heap.size + 1, 0, none⟩ = some (.int .i64 d) ∧ w'.cell? ⟨w.heap.size + 1, 1, none⟩ = some (.int .i64 e) ∧ w'.cell? ⟨w.heap.size + 1, 2, none⟩ = some (.int .i64 f)) (late := fun j => decide (14 ≤ j)) (by kernel_rfl) ?_
  refine Lt.take (i := 0) (v := .pointer (some ⟨w.heap.size, 0, none⟩)) rfl (by kernel_rfl) (by kernel_rfl) (by kernel_rfl) rfl (by kernel_rfl) (by kernel_rfl) (fun _ _ _ h => h) (Or.inl ⟨by rfl, ?hyy⟩) HS0 ?_
  case hyy => (intro w' hSw; (try dsimp only at hSw); go_simp)
  try simp only [Act.put, List.getElem_toArray, List.getElem_cons_zero, List.setIfInBounds_toArray, List.set_cons_zero, List.set_cons_succ]
  refine Lt.take (i := 1) (v := .int .i64 a) rfl (by kernel_rfl) (by kernel_rfl) (by kernel_rfl) rfl (by kernel_rfl) (by kernel_rfl) (fun _ _ _ h => h) (Or.inl ⟨by rfl, ?hyy⟩) HS0 ?_
  case hyy => (intro w' hSw; (try dsimp only at hSw); go_simp)
  try simp only [Act.put, List.getElem_toArray, List.getElem_cons_succ, List.getElem_cons_zero, List.setIfInBounds_toArray, List.set_cons_zero, List.set_cons_succ]
  refine Lt.take (i := 2) (v := .pointer (some ⟨w.heap.size, 1, none⟩)) rfl (by kernel_rfl) (by kernel_rfl) (by kernel_rfl) rfl (by kernel_rfl) (by kernel_rfl) (fun _ _ _ h => h) (Or.inl ⟨by rfl, ?hyy⟩) HS0 ?_
  case hyy => (intro w' hSw; (try dsimp only at hSw); go_simp)
  try simp only [Act.put, List.getElem_toArray, List.getElem_cons_succ, List.getElem_cons_zero, List.setIfInBounds_toArray, List.set_cons_zero, List.set_cons_succ]
  refine Lt.take (i := 3) (v := .int .i64 b) rfl (by kernel_rfl) (by kernel_rfl) (by kernel_rfl) rfl (by kernel_rfl) (by kernel_rfl) (fun _ _ _ h => h) (Or.inl ⟨by rfl, ?hyy⟩) HS0 ?_
  case hyy => (intro w' hSw; (try dsimp only at hSw); go_simp)
  try simp only [Act.put, List.getElem_toArray, List.getElem_cons_succ, List.getElem_cons_zero, List.setIfInBounds_toArray, List.set_cons_zero, List.set_cons_succ]
  refine Lt.take (i := 4) (v := .pointer (some ⟨w.heap.size, 2, none⟩)) rfl (by kernel_rfl) (by kernel_rfl) (by kernel_rfl) rfl (by kernel_rfl) (by kernel_rfl) (fun _ _ _ h => h) (Or.inl ⟨by rfl, ?hyy⟩) HS0 ?_
  case hyy => (intro w' hSw; (try dsimp only at hSw); go_simp)
  try simp only [Act.put, List.getElem_toArray, List.getElem_cons_succ, List.getElem_cons_zero, List.setIfInBounds_toArray, List.set_cons_zero, List.set_cons_succ]
  refine Lt.take (i := 5) (v := .int .i64 c) rfl (by kernel_rfl) (by kernel_rfl) (by kernel_rfl) rfl (by kernel_rfl) (by kernel_rfl) (fun _ _ _ h => h) (Or.inl ⟨by rfl, ?hyy⟩) HS0 ?_
  case hyy => (intro w' hSw; (try dsimp only at hSw); go_simp)
  try simp only [Act.put, List.getElem_toArray, List.getElem_cons_succ, List.getElem_cons_zero, List.setIfInBounds_toArray, List.set_cons_zero, List.set_cons_succ]
  refine Lt.take (i := 7) (v := .pointer (some ⟨w.heap.size + 1, 0, none⟩)) rfl (by kernel_rfl) (by kernel_rfl) (by kernel_rfl) rfl (by kernel_rfl) (by kernel_rfl) (fun _ _ _ h => h) (Or.inl ⟨by rfl, ?hyy⟩) HS0 ?_
  case hyy => (intro w' hSw; (try dsimp only at hSw); go_simp)
  try simp only [Act.put, List.getElem_toArray, List.getElem_cons_succ, List.getElem_cons_zero, List.setIfInBounds_toArray, List.set_cons_zero, List.set_cons_succ]
  refine Lt.take (i := 8) (v := .int .i64 d) rfl (by kernel_rfl) (by kernel_rfl) (by kernel_rfl) rfl (by kernel_rfl) (by kernel_rfl) (fun _ _ _ h => h) (Or.inl ⟨by rfl, ?hyy⟩) HS0 ?_
  case hyy => (intro w' hSw; (try dsimp only at hSw); go_simp)
  try simp only [Act.put, List.getElem_toArray, List.getElem_cons_succ, List.getElem_cons_zero, List.setIfInBounds_toArray, List.set_cons_zero, List.set_cons_succ]
  refine Lt.take (i := 9) (v := .pointer (some ⟨w.heap.size + 1, 1, none⟩)) rfl (by kernel_rfl) (by kernel_rfl) (by kernel_rfl) rfl (by kernel_rfl) (by kernel_rfl) (fun _ _ _ h => h) (Or.inl ⟨by rfl, ?hyy⟩) HS0 ?_
  case hyy => (intro w' hSw; (try dsimp only at hSw); go_simp)
  try simp only [Act.put, List.getElem_toArray, List.getElem_cons_succ, List.getElem_cons_zero, List.setIfInBounds_toArray, List.set_cons_zero, List.set_cons_succ]
  refine Lt.take (i := 10) (v := .int .i64 e) rfl (by kernel_rfl) (by kernel_rfl) (by kernel_rfl) rfl (by kernel_rfl) (by kernel_rfl) (fun _ _ _ h => h) (Or.inl ⟨by rfl, ?hyy⟩) HS0 ?_
  case hyy => (intro w' hSw; (try dsimp only at hSw); go_simp)
  try simp only [Act.put, List.getElem_toArray, List.getElem_cons_succ, List.getElem_cons_zero, List.setIfInBounds_toArray, List.set_cons_zero, List.set_cons_succ]
  refine Lt.take (i := 11) (v := .pointer (some ⟨w.heap.size + 1, 2, none⟩)) rfl (by kernel_rfl) (by kernel_rfl) (by kernel_rfl) rfl (by kernel_rfl) (by kernel_rfl) (fun _ _ _ h => h) (Or.inl ⟨by rfl, ?hyy⟩) HS0 ?_
  case hyy => (intro w' hSw; (try dsimp only at hSw); go_simp)
  try simp only [Act.put, List.getElem_toArray, List.getElem_cons_succ, List.getElem_cons_zero, List.setIfInBounds_toArray, List.set_cons_zero, List.set_cons_succ]
  refine Lt.take (i := 12) (v := .int .i64 f) rfl (by kernel_rfl) (by kernel_rfl) (by kernel_rfl) rfl (by kernel_rfl) (by kernel_rfl) (fun _ _ _ h => h) (Or.inl ⟨by rfl, ?hyy⟩) HS0 ?_
  case hyy => (intro w' hSw; (try dsimp only at hSw); go_simp)
  try simp only [Act.put, List.getElem_toArray, List.getElem_cons_succ, List.getElem_cons_zero, List.setIfInBounds_toArray, List.set_cons_zero, List.set_cons_succ]
  refine Lt.one (i := 6) (by kernel_rfl) rfl rfl ?_
  refine call_step 28 #[.int .i64 a, .int .i64 b, .int .i64 c] (by kernel_rfl) (CL.out _) ?_
  rintro e w1 ⟨rfl, hb1⟩
  refine ⟨_, rfl, fun _ => HS.out _ (bl_via (bl_drew (bl_refl _)) hb1), ?_⟩
  try simp only [Act.put, List.getElem_toArray, List.getElem_cons_succ, List.getElem_cons_zero, List.setIfInBounds_toArray, List.set_cons_zero, List.set_cons_succ]
  refine Lt.one (i := 13) (by kernel_rfl) rfl rfl ?_
  refine call_step 28 #[.int .i64 d, .int .i64 e, .int .i64 f] (by kernel_rfl) (CM.out _) ?_
  rintro e w2 ⟨rfl, hb2⟩
  refine ⟨_, rfl, fun _ => HS.out _ (bl_via (bl_via (bl_drew (bl_refl _)) hb1) hb2), ?_⟩
  try simp only [Act.put, List.getElem_toArray, List.getElem_cons_succ, List.getElem_cons_zero, List.setIfInBounds_toArray, List.set_cons_zero, List.set_cons_succ]
  have HB2 : Hid (Below W0.heap.size W0 w2) := bl_via (bl_via (bl_drew (bl_refl _)) hb1) hb2
  have BL : Hid (Bx w2 (w.heap.size) a b c ∧ Bx w2 (w.heap.size + 1) d e f) := ⟨HX.out.1.kept HB2.out, HX.out.2.1.kept HB2.out⟩
  obtain ⟨⟨u0, u1, u2⟩, uf⟩ := BL.out.1
  have g0 := uf 0
  have g1 := uf 1
  have g2 := uf 2
  clear hb1 hb2
  refine Lt.one (i := 14) (by kernel_rfl) rfl rfl ?_
  refine skip_step (w' := (((w2.setCell ⟨w.heap.size, 0, none⟩ (.int .i64 A)).setCell ⟨w.heap.size, 1, none⟩ (.int .i64 B)).setCell ⟨w.heap.size, 2, none⟩ (.int .i64 C))) (by first | go_simp | simp [go_sem, u0, u1, u2, g0, g1, g2]) ?_
  refine ⟨fun h => absurd h (by decide), ?_⟩
  try simp only [Act.put, List.getElem_toArray, List.getElem_cons_succ, List.getElem_cons_zero]
  have BM := (BL.out.2.far (show w.heap.size + 1 ≠ w.heap.size by omega) (.int .i64 A) (.int .i64 B) (.int .i64 C))
  have BL2 := (BL.out.1.set3 A B C)
  clear u0 u1 u2 uf g0 g1 g2
  obtain ⟨⟨u0, u1, u2⟩, uf⟩ := BM
  have g0 := uf 0
  have g1 := uf 1
  have g2 := uf 2
  refine Lt.one (i := 15) (by kernel_rfl) rfl rfl ?_
  refine skip_step (w' := ((((((w2.setCell ⟨w.heap.size, 0, none⟩ (.int .i64 A)).setCell ⟨w.heap.size, 1, none⟩ (.int .i64 B)).setCell ⟨w.heap.size, 2, none⟩ (.int .i64 C)).setCell ⟨w.heap.size + 1, 0, none⟩ (.int .i64 D)).setCell ⟨w.heap.size + 1, 1, none⟩ (.int .i64 E)).setCell ⟨w.heap.size + 1, 2, none⟩ (.int .i64 F))) (by first | go_simp | simp [go_sem, u0, u1, u2, g0, g1, g2]) ?_
  refine ⟨fun h => absurd h (by decide), ?_⟩
  try simp only [Act.put, List.getElem_toArray, List.getElem_cons_succ, List.getElem_cons_zero]
  refine Lt.done (by kernel_rfl) ?_
  have HW : Hid (Bx (((((((w2.setCell ⟨w.heap.size, 0, none⟩ (.int .i64 A)).setCell ⟨w.heap.size, 1, none⟩ (.int .i64 B)).setCell ⟨w.heap.size, 2, none⟩ (.int .i64 C)).setCell ⟨w.heap.size + 1, 0, none⟩ (.int .i64 D)).setCell ⟨w.heap.size + 1, 1, none⟩ (.int .i64 E)).setCell ⟨w.heap.size + 1, 2, none⟩ (.int .i64 F))) (w.heap.size) A B C ∧ Bx (((((((w2.setCell ⟨w.heap.size, 0, none⟩ (.int .i64 A)).setCell ⟨w.heap.size, 1, none⟩ (.int .i64 B)).setCell ⟨w.heap.size, 2, none⟩ (.int .i64 C)).setCell ⟨w.heap.size + 1, 0, none⟩ (.int .i64 D)).setCell ⟨w.heap.size + 1, 1, none⟩ (.int .i64 E)).setCell ⟨w.heap.size + 1, 2, none⟩ (.int .i64 F))) (w.heap.size + 1) D E F ∧ Below w.heap.size w (((((((w2.setCell ⟨w.heap.size, 0, none⟩ (.int .i64 A)).setCell ⟨w.heap.size, 1, none⟩ (.int .i64 B)).setCell ⟨w.heap.size, 2, none⟩ (.int .i64 C)).setCell ⟨w.heap.size + 1, 0, none⟩ (.int .i64 D)).setCell ⟨w.heap.size + 1, 1, none⟩ (.int .i64 E)).setCell ⟨w.heap.size + 1, 2, none⟩ (.int .i64 F)))) := ⟨BL2.far (by omega) _ _ _, Bx.set3 ⟨⟨u0, u1, u2⟩, uf⟩ D E F, bl_set3 (bl_set3 (bl_via HX.out.2.2 HB2.out) (by omega)) (by omega)⟩
  clear BL2 u0 u1 u2 uf g0 g1 g2 BL HB2
  generalize ((((((w2.setCell ⟨w.heap.size, 0, none⟩ (.int .i64 A)).setCell ⟨w.heap.size, 1, none⟩ (.int .i64 B)).setCell ⟨w.heap.size, 2, none⟩ (.int .i64 C)).setCell ⟨w.heap.size + 1, 0, none⟩ (.int .i64 D)).setCell ⟨w.heap.size + 1, 1, none⟩ (.int .i64 E)).setCell ⟨w.heap.size + 1, 2, none⟩ (.int .i64 F)) = w3 at HW ⊢
  obtain ⟨⟨⟨c0, c1, c2⟩, _⟩, ⟨⟨d0, d1, d2⟩, _⟩, hbw⟩ := HW.out
  have HB : Hid (Below w.heap.size w w3) := hbw
  have zc := World.block_lt_of_cell? _ _ c0
  have zd := World.block_lt_of_cell? _ _ d0
  clear HW hbw
  go_wp2
  refine bodyPost_ret (v := .tuple #[_, _]) (by simp [results, Try.results16, go_sem]) rfl ⟨rfl, ?_⟩
  exact HB.out
set_option maxRecDepth 100000 in
set_option maxHeartbeats 6400000 in
theorem halvesOf16_onea (a b c d e f A B C D E F G1 G2 G3 q1 q2 tt h1 h2 h3 h4 h5 h6 h7 : Int) (w : World) (bA : bd 1000 A) (bB : bd 1000 B) (bC : bd 1000 C) (bD : bd 1000 D) (bE : bd 1000 E) (bF : bd 1000 F)
    (hq1 : q1 = A * E) (hq2 : q2 = B * D) (htt : tt = q1 - q2) (hh1 : h1 = 2 * A) (hh2 : h2 = h1 * D) (hh3 : h3 = 2 * B) (hh4 : h4 = h3 * D) (hh5 : h5 = C * D) (hh6 : h6 = F * A) (hh7 : h7 = h5 + h6) (hs : same3 A B C D E F = false) (hz : tt = 0) (hA0 : A ≠ 0) (hne : ¬ (h2 = 0 ∧ h4 = 0)) (hG : frm h2 h4 h7 = .agg #[.int .i64 G1, .int .i64 G2, .int .i64 G3])
    (CL : Hid (∀ W : World, Calls Try.prog 28 #[.int .i64 a, .int .i64 b, .int .i64 c] W fun z w' => z = .returned (.agg #[.int .i64 A, .int .i64 B, .int .i64 C]) ∧ Below W.heap.size W w'))
    (CM : Hid (∀ W : World, Calls Try.prog 28 #[.int .i64 d, .int .i64 e, .int .i64 f] W fun z w' => z = .returned (.agg #[.int .i64 D, .int .i64 E, .int .i64 F]) ∧ Below W.heap.size W w')) :
    Calls Try.prog 16 #[st a b c, st d e f] w fun z w' => ∃ g : Nat, z = .returned (.tuple #[.slice (some ⟨g, 0, none⟩) 1 1, .int .i64 0]) ∧ (w'.cell? ⟨g, 0, none⟩ = some (.int .i64 G1) ∧ w'.cell? ⟨g, 1, none⟩ = some (.int .i64 G2) ∧ w'.cell? ⟨g, 2, none⟩ = some (.int .i64 G3)) ∧ Below w.heap.size w w' := by
  have EQ := eql25 A B C D E F
  rw [hs] at EQ
  have bq1 : bd 1000000 q1 := by rw [hq1]; exact bd_up (bd_mul bA bE) (by omega)
  have eq1 : wrap64 (A * E) = q1 := by rw [← hq1]; exact w64 _ (by have := bq1; unfold bd at this; omega)
  have iq1 : IntKind.i64.wrap (A * E) = q1 := (i64w _).trans eq1
  have bq2 : bd 1000000 q2 := by rw [hq2]; exact bd_up (bd_mul bB bD) (by omega)
  have eq2 : wrap64 (B * D) = q2 := by rw [← hq2]; exact w64 _ (by have := bq2; unfold bd at this; omega)
  have iq2 : IntKind.i64.wrap (B * D) = q2 := (i64w _).trans eq2
  have btt : bd 2000000 tt := by rw [htt]; exact bd_up (bd_sub bq1 bq2) (by omega)
  have ett : wrap64 (q1 - q2) = tt := by rw [← htt]; exact w64 _ (by have := btt; unfold bd at this; omega)
  have itt : IntKind.i64.wrap (q1 - q2) = tt := (i64w _).trans ett
  have bh1 : bd 2000 h1 := by rw [hh1]; have := bA; unfold bd at *; omega
  have eh1 : wrap64 (2 * A) = h1 := by rw [← hh1]; exact w64 _ (by have := bh1; unfold bd at this; omega)
  have ih1 : IntKind.i64.wrap (2 * A) = h1 := (i64w _).trans eh1
  have bh2 : bd 2000000 h2 := by rw [hh2]; exact bd_up (bd_mul bh1 bD) (by omega)
  have eh2 : wrap64 (h1 * D) = h2 := by rw [← hh2]; exact w64 _ (by have := bh2; unfold bd at this; omega)
  have ih2 : IntKind.i64.wrap (h1 * D) = h2 := (i64w _).trans eh2
  have bh3 : bd 2000 h3 := by rw [hh3]; have := bB; unfold bd at *; omega
  have eh3 : wrap64 (2 * B) = h3 := by rw [← hh3]; exact w64 _ (by have := bh3; unfold bd at this; omega)
  have ih3 : IntKind.i64.wrap (2 * B) = h3 := (i64w _).trans eh3
  have bh4 : bd 2000000 h4 := by rw [hh4]; exact bd_up (bd_mul bh3 bD) (by omega)
  have eh4 : wrap64 (h3 * D) = h4 := by rw [← hh4]; exact w64 _ (by have := bh4; unfold bd at this; omega)
  have ih4 : IntKind.i64.wrap (h3 * D) = h4 := (i64w _).trans eh4
  have bh5 : bd 1000000 h5 := by rw [hh5]; exact bd_up (bd_mul bC bD) (by omega)
  have eh5 : wrap64 (C * D) = h5 := by rw [← hh5]; exact w64 _ (by have := bh5; unfold bd at this; omega)
  have ih5 : IntKind.i64.wrap (C * D) = h5 := (i64w _).trans eh5
  have bh6 : bd 1000000 h6 := by rw [hh6]; exact bd_up (bd_mul bF bA) (by omega)
  have eh6 : wrap64 (F * A) = h6 := by rw [← hh6]; exact w64 _ (by have := bh6; unfold bd at this; omega)
  have ih6 : IntKind.i64.wrap (F * A) = h6 := (i64w _).trans eh6
  have bh7 : bd 2000000 h7 := by rw [hh7]; exact bd_up (bd_add bh5 bh6) (by omega)
  have eh7 : wrap64 (h5 + h6) = h7 := by rw [← hh7]; exact w64 _ (by have := bh7; unfold bd at this; omega)
  have ih7 : IntKind.i64.wrap (h5 + h6) = h7 := (i64w _).trans eh7
  have CF : Hid (∀ W : World, Calls Try.prog 28 #[.int .i64 h2, .int .i64 h4, .int .i64 h7] W fun z w' => z = .returned (frm h2 h4 h7) ∧ Below W.heap.size W w') := fun W => inForm28 h2 h4 h7 W hne (by have := bh2; unfold sm; unfold bd at this; omega) (by have := bh4; unfold sm; unfold bd at this; omega) (by have := bh7; unfold sm; unfold bd at this; omega)
  rw [hG] at CF
  have qt : (tt == 0) = true := by simpa using hz
  have qA : (A == 0) = false := by simpa using hA0
  clear hs hG hne hz hA0 bA bB bC bD bE bF
  clear hq1 hq2 htt hh1 hh2 hh3 hh4 hh5 hh6 hh7 bq1 bq2 btt bh1 bh2 bh3 bh4 bh5 bh6 bh7
  unfold st
  go_enter Try.func16, Try.ntmps16
  go_wp2
  obtain ⟨W0, hW0⟩ : ∃ W0, W0 = ((w.alloc (.cells #[.int .i64 a, .int .i64 b, .int .i64 c] 25)).alloc (.cells #[.int .i64 d, .int .i64 e, .int .i64 f] 25)) := ⟨_, rfl⟩
  have HX : Hid (Bx W0 (w.heap.size) a b c ∧ Bx W0 (w.heap.size + 1) d e f ∧ Below w.heap.size w W0) := by
    rw [hW0]
    refine ⟨?_, ?_, bl_alloc (bl_alloc (bl_refl _))⟩
    · exact (bx_old w 25 a b c).kept (bl_alloc (bl_refl _))
    · have := bx_old (w.alloc (.cells #[.int .i64 a, .int .i64 b, .int .i64 c] 25)) 25 d e f
      simpa using this
  rw [← hW0]
  clear hW0
  have HS : Hid (∀ w', Below W0.heap.size W0 w' → w'.cell? ⟨w.heap.size, 0, none⟩ = some (.int .i64 a) ∧ w'.cell? ⟨w.heap.size, 1, none⟩ = some (.int .i64 b) ∧ w'.cell? ⟨w.heap.size, 2, none⟩ = some (.int .i64 c) ∧ w'.cell? ⟨w.heap.size + 1, 0, none⟩ = some (.int .i64 d) ∧ w'.cell? ⟨w.heap.size + 1, 1, none⟩ = some (.int .i64 e) ∧ w'.cell? ⟨w.heap.size + 1, 2, none⟩ = some (.int .i64 f)) := fun w' hw => ⟨cl_kept hw HX.out.1.1.1, cl_kept hw HX.out.1.1.2.1, cl_kept hw HX.out.1.1.2.2, cl_kept hw HX.out.2.1.1.1, cl_kept hw HX.out.2.1.1.2.1, cl_kept hw HX.out.2.1.1.2.2⟩
  have HS0 := HS.out W0.drew (bl_drew (bl_refl _))
  refine wp_region_late (S := fun w' => w'.cell? ⟨w.heap.size, 0, none⟩ = some (.int .i64 a) ∧ w'.cell? ⟨w.heap.size, 1, none⟩ = some (.int .i64 b) ∧ w'.cell? ⟨w.heap.size, 2, none⟩ = some (.int .i64 c) ∧ w'.cell? ⟨w.heap.size + 1, 0, none⟩ = some (.int .i64 d) ∧ w'.cell? ⟨w.heap.size + 1, 1, none⟩ = some (.int .i64 e) ∧ w'.cell? ⟨w.heap.size + 1, 2, none⟩ = some (.int .i64 f)) (late := fun j => decide (14 ≤ j)) (by kernel_rfl) ?_
  refine Lt.take (i := 0) (v := .pointer (some ⟨w.heap.size, 0, none⟩)) rfl (by kernel_rfl) (by kernel_rfl) (by kernel_rfl) rfl (by kernel_rfl) (by kernel_rfl) (fun _ _ _ h => h) (Or.inl ⟨by rfl, ?hyy⟩) HS0 ?_
  case hyy => (intro w' hSw; (try dsimp only at hSw); go_simp)
  try simp only [Act.put, List.getElem_toArray, List.getElem_cons_zero, List.setIfInBounds_toArray, List.set_cons_zero, List.set_cons_succ]
  refine Lt.take (i := 1) (v := .int .i64 a) rfl (by kernel_rfl) (by kernel_rfl) (by kernel_rfl) rfl (by kernel_rfl) (by kernel_rfl) (fun _ _ _ h => h) (Or.inl ⟨by rfl, ?hyy⟩) HS0 ?_
  case hyy => (intro w' hSw; (try dsimp only at hSw); go_simp)
  try simp only [Act.put, List.getElem_toArray, List.getElem_cons_succ, List.getElem_cons_zero, List.setIfInBounds_toArray, List.set_cons_zero, List.set_cons_succ]
  refine Lt.take (i := 2) (v := .pointer (some ⟨w.heap.size, 1, none⟩)) rfl (by kernel_rfl) (by kernel_rfl) (by kernel_rfl) rfl (by kernel_rfl) (by kernel_rfl) (fun _ _ _ h => h) (Or.inl ⟨by rfl, ?hyy⟩) HS0 ?_
  case hyy => (intro w' hSw; (try dsimp only at hSw); go_simp)
  try simp only [Act.put, List.getElem_toArray, List.getElem_cons_succ, List.getElem_cons_zero, List.setIfInBounds_toArray, List.set_cons_zero, List.set_cons_succ]
  refine Lt.take (i := 3) (v := .int .i64 b) rfl (by kernel_rfl) (by kernel_rfl) (by kernel_rfl) rfl (by kernel_rfl) (by kernel_rfl) (fun _ _ _ h => h) (Or.inl ⟨by rfl, ?hyy⟩) HS0 ?_
  case hyy => (intro w' hSw; (try dsimp only at hSw); go_simp)
  try simp only [Act.put, List.getElem_toArray, List.getElem_cons_succ, List.getElem_cons_zero, List.setIfInBounds_toArray, List.set_cons_zero, List.set_cons_succ]
  refine Lt.take (i := 4) (v := .pointer (some ⟨w.heap.size, 2, none⟩)) rfl (by kernel_rfl) (by kernel_rfl) (by kernel_rfl) rfl (by kernel_rfl) (by kernel_rfl) (fun _ _ _ h => h) (Or.inl ⟨by rfl, ?hyy⟩) HS0 ?_
  case hyy => (intro w' hSw; (try dsimp only at hSw); go_simp)
  try simp only [Act.put, List.getElem_toArray, List.getElem_cons_succ, List.getElem_cons_zero, List.setIfInBounds_toArray, List.set_cons_zero, List.set_cons_succ]
  refine Lt.take (i := 5) (v := .int .i64 c) rfl (by kernel_rfl) (by kernel_rfl) (by kernel_rfl) rfl (by kernel_rfl) (by kernel_rfl) (fun _ _ _ h => h) (Or.inl ⟨by rfl, ?hyy⟩) HS0 ?_
  case hyy => (intro w' hSw; (try dsimp only at hSw); go_simp)
  try simp only [Act.put, List.getElem_toArray, List.getElem_cons_succ, List.getElem_cons_zero, List.setIfInBounds_toArray, List.set_cons_zero, List.set_cons_succ]
  refine Lt.take (i := 7) (v := .pointer (some ⟨w.heap.size + 1, 0, none⟩)) rfl (by kernel_rfl) (by kernel_rfl) (by kernel_rfl) rfl (by kernel_rfl) (by kernel_rfl) (fun _ _ _ h => h) (Or.inl ⟨by rfl, ?hyy⟩) HS0 ?_
  case hyy => (intro w' hSw; (try dsimp only at hSw); go_simp)
  try simp only [Act.put, List.getElem_toArray, List.getElem_cons_succ, List.getElem_cons_zero, List.setIfInBounds_toArray, List.set_cons_zero, List.set_cons_succ]
  refine Lt.take (i := 8) (v := .int .i64 d) rfl (by kernel_rfl) (by kernel_rfl) (by kernel_rfl) rfl (by kernel_rfl) (by kernel_rfl) (fun _ _ _ h => h) (Or.inl ⟨by rfl, ?hyy⟩) HS0 ?_
  case hyy => (intro w' hSw; (try dsimp only at hSw); go_simp)
  try simp only [Act.put, List.getElem_toArray, List.getElem_cons_succ, List.getElem_cons_zero, List.setIfInBounds_toArray, List.set_cons_zero, List.set_cons_succ]
  refine Lt.take (i := 9) (v := .pointer (some ⟨w.heap.size + 1, 1, none⟩)) rfl (by kernel_rfl) (by kernel_rfl) (by kernel_rfl) rfl (by kernel_rfl) (by kernel_rfl) (fun _ _ _ h => h) (Or.inl ⟨by rfl, ?hyy⟩) HS0 ?_
  case hyy => (intro w' hSw; (try dsimp only at hSw); go_simp)
  try simp only [Act.put, List.getElem_toArray, List.getElem_cons_succ, List.getElem_cons_zero, List.setIfInBounds_toArray, List.set_cons_zero, List.set_cons_succ]
  refine Lt.take (i := 10) (v := .int .i64 e) rfl (by kernel_rfl) (by kernel_rfl) (by kernel_rfl) rfl (by kernel_rfl) (by kernel_rfl) (fun _ _ _ h => h) (Or.inl ⟨by rfl, ?hyy⟩) HS0 ?_
  case hyy => (intro w' hSw; (try dsimp only at hSw); go_simp)
  try simp only [Act.put, List.getElem_toArray, List.getElem_cons_succ, List.getElem_cons_zero, List.setIfInBounds_toArray, List.set_cons_zero, List.set_cons_succ]
  refine Lt.take (i := 11) (v := .pointer (some ⟨w.heap.size + 1, 2, none⟩)) rfl (by kernel_rfl) (by kernel_rfl) (by kernel_rfl) rfl (by kernel_rfl) (by kernel_rfl) (fun _ _ _ h => h) (Or.inl ⟨by rfl, ?hyy⟩) HS0 ?_
  case hyy => (intro w' hSw; (try dsimp only at hSw); go_simp)
  try simp only [Act.put, List.getElem_toArray, List.getElem_cons_succ, List.getElem_cons_zero, List.setIfInBounds_toArray, List.set_cons_zero, List.set_cons_succ]
  refine Lt.take (i := 12) (v := .int .i64 f) rfl (by kernel_rfl) (by kernel_rfl) (by kernel_rfl) rfl (by kernel_rfl) (by kernel_rfl) (fun _ _ _ h => h) (Or.inl ⟨by rfl, ?hyy⟩) HS0 ?_
  case hyy => (intro w' hSw; (try dsimp only at hSw); go_simp)
  try simp only [Act.put, List.getElem_toArray, List.getElem_cons_succ, List.getElem_cons_zero, List.setIfInBounds_toArray, List.set_cons_zero, List.set_cons_succ]
  refine Lt.one (i := 6) (by kernel_rfl) rfl rfl ?_
  refine call_step 28 #[.int .i64 a, .int .i64 b, .int .i64 c] (by kernel_rfl) (CL.out _) ?_
  rintro e w1 ⟨rfl, hb1⟩
  refine ⟨_, rfl, fun _ => HS.out _ (bl_via (bl_drew (bl_refl _)) hb1), ?_⟩
  try simp only [Act.put, List.getElem_toArray, List.getElem_cons_succ, List.getElem_cons_zero, List.setIfInBounds_toArray, List.set_cons_zero, List.set_cons_succ]
  refine Lt.one (i := 13) (by kernel_rfl) rfl rfl ?_
  refine call_step 28 #[.int .i64 d, .int .i64 e, .int .i64 f] (by kernel_rfl) (CM.out _) ?_
  rintro e w2 ⟨rfl, hb2⟩
  refine ⟨_, rfl, fun _ => HS.out _ (bl_via (bl_via (bl_drew (bl_refl _)) hb1) hb2), ?_⟩
  try simp only [Act.put, List.getElem_toArray, List.getElem_cons_succ, List.getElem_cons_zero, List.setIfInBounds_toArray, List.set_cons_zero, List.set_cons_succ]
  have HB2 : Hid (Below W0.heap.size W0 w2) := bl_via (bl_via (bl_drew (bl_refl _)) hb1) hb2
  have BL : Hid (Bx w2 (w.heap.size) a b c ∧ Bx w2 (w.heap.size + 1) d e f) := ⟨HX.out.1.kept HB2.out, HX.out.2.1.kept HB2.out⟩
  obtain ⟨⟨u0, u1, u2⟩, uf⟩ := BL.out.1
  have g0 := uf 0
  have g1 := uf 1
  have g2 := uf 2
  clear hb1 hb2
  refine Lt.one (i := 14) (by kernel_rfl) rfl rfl ?_
  refine skip_step (w' := (((w2.setCell ⟨w.heap.size, 0, none⟩ (.int .i64 A)).setCell ⟨w.heap.size, 1, none⟩ (.int .i64 B)).setCell ⟨w.heap.size, 2, none⟩ (.int .i64 C))) (by first | go_simp | simp [go_sem, u0, u1, u2, g0, g1, g2]) ?_
  refine ⟨fun h => absurd h (by decide), ?_⟩
  try simp only [Act.put, List.getElem_toArray, List.getElem_cons_succ, List.getElem_cons_zero]
  have BM := (BL.out.2.far (show w.heap.size + 1 ≠ w.heap.size by omega) (.int .i64 A) (.int .i64 B) (.int .i64 C))
  have BL2 := (BL.out.1.set3 A B C)
  clear u0 u1 u2 uf g0 g1 g2
  obtain ⟨⟨u0, u1, u2⟩, uf⟩ := BM
  have g0 := uf 0
  have g1 := uf 1
  have g2 := uf 2
  refine Lt.one (i := 15) (by kernel_rfl) rfl rfl ?_
  refine skip_step (w' := ((((((w2.setCell ⟨w.heap.size, 0, none⟩ (.int .i64 A)).setCell ⟨w.heap.size, 1, none⟩ (.int .i64 B)).setCell ⟨w.heap.size, 2, none⟩ (.int .i64 C)).setCell ⟨w.heap.size + 1, 0, none⟩ (.int .i64 D)).setCell ⟨w.heap.size + 1, 1, none⟩ (.int .i64 E)).setCell ⟨w.heap.size + 1, 2, none⟩ (.int .i64 F))) (by first | go_simp | simp [go_sem, u0, u1, u2, g0, g1, g2]) ?_
  refine ⟨fun h => absurd h (by decide), ?_⟩
  try simp only [Act.put, List.getElem_toArray, List.getElem_cons_succ, List.getElem_cons_zero]
  refine Lt.done (by kernel_rfl) ?_
  have HW : Hid (Bx (((((((w2.setCell ⟨w.heap.size, 0, none⟩ (.int .i64 A)).setCell ⟨w.heap.size, 1, none⟩ (.int .i64 B)).setCell ⟨w.heap.size, 2, none⟩ (.int .i64 C)).setCell ⟨w.heap.size + 1, 0, none⟩ (.int .i64 D)).setCell ⟨w.heap.size + 1, 1, none⟩ (.int .i64 E)).setCell ⟨w.heap.size + 1, 2, none⟩ (.int .i64 F))) (w.heap.size) A B C ∧ Bx (((((((w2.setCell ⟨w.heap.size, 0, none⟩ (.int .i64 A)).setCell ⟨w.heap.size, 1, none⟩ (.int .i64 B)).setCell ⟨w.heap.size, 2, none⟩ (.int .i64 C)).setCell ⟨w.heap.size + 1, 0, none⟩ (.int .i64 D)).setCell ⟨w.heap.size + 1, 1, none⟩ (.int .i64 E)).setCell ⟨w.heap.size + 1, 2, none⟩ (.int .i64 F))) (w.heap.size + 1) D E F ∧ Below w.heap.size w (((((((w2.setCell ⟨w.heap.size, 0, none⟩ (.int .i64 A)).setCell ⟨w.heap.size, 1, none⟩ (.int .i64 B)).setCell ⟨w.heap.size, 2, none⟩ (.int .i64 C)).setCell ⟨w.heap.size + 1, 0, none⟩ (.int .i64 D)).setCell ⟨w.heap.size + 1, 1, none⟩ (.int .i64 E)).setCell ⟨w.heap.size + 1, 2, none⟩ (.int .i64 F)))) := ⟨BL2.far (by omega) _ _ _, Bx.set3 ⟨⟨u0, u1, u2⟩, uf⟩ D E F, bl_set3 (bl_set3 (bl_via HX.out.2.2 HB2.out) (by omega)) (by omega)⟩
  clear BL2 u0 u1 u2 uf g0 g1 g2 BL HB2
  generalize ((((((w2.setCell ⟨w.heap.size, 0, none⟩ (.int .i64 A)).setCell ⟨w.heap.size, 1, none⟩ (.int .i64 B)).setCell ⟨w.heap.size, 2, none⟩ (.int .i64 C)).setCell ⟨w.heap.size + 1, 0, none⟩ (.int .i64 D)).setCell ⟨w.heap.size + 1, 1, none⟩ (.int .i64 E)).setCell ⟨w.heap.size + 1, 2, none⟩ (.int .i64 F)) = w3 at HW ⊢
  obtain ⟨⟨⟨c0, c1, c2⟩, _⟩, ⟨⟨d0, d1, d2⟩, _⟩, hbw⟩ := HW.out
  have HB : Hid (Below w.heap.size w w3) := hbw
  have zc := World.block_lt_of_cell? _ _ c0
  have zd := World.block_lt_of_cell? _ _ d0
  clear HW hbw
  go_wp2
  go_region
  go_wp2_with (go_at_call 28; refine (CF.out _).mono ?_; rintro z1 w4 ⟨rfl, hb4⟩; have HB4 : Hid (Below w.heap.size w w4) := bl_via HB.out (bl_via (by (repeat first | exact bl_refl _ | apply bl_drew | apply bl_alloc | (refine bl_via ?_ (by assumption)))) hb4); clear hb4)
  refine bodyPost_ret (v := .tuple #[_, _]) (by simp [results, Try.results16, go_sem]) rfl ⟨w4.heap.size, rfl, ⟨by simp [go_sem], by simp [go_sem], by simp [go_sem]⟩, bl_alloc HB4.out⟩
set_option maxRecDepth 100000 in
set_option maxHeartbeats 6400000 in
theorem halvesOf16_oneb (a b c d e f A B C D E F G1 G2 G3 q1 q2 tt h1 h2 h3 h4 h5 h6 h7 : Int) (w : World) (bA : bd 1000 A) (bB : bd 1000 B) (bC : bd 1000 C) (bD : bd 1000 D) (bE : bd 1000 E) (bF : bd 1000 F)
    (hq1 : q1 = A * E) (hq2 : q2 = B * D) (htt : tt = q1 - q2) (hh1 : h1 = 2 * A) (hh2 : h2 = h1 * E) (hh3 : h3 = 2 * B) (hh4 : h4 = h3 * E) (hh5 : h5 = C * E) (hh6 : h6 = F * B) (hh7 : h7 = h5 + h6) (hs : same3 A B C D E F = false) (hz : tt = 0) (hA0 : A = 0) (hne : ¬ (h2 = 0 ∧ h4 = 0)) (hG : frm h2 h4 h7 = .agg #[.int .i64 G1, .int .i64 G2, .int .i64 G3])
    (CL : Hid (∀ W : World, Calls Try.prog 28 #[.int .i64 a, .int .i64 b, .int .i64 c] W fun z w' => z = .returned (.agg #[.int .i64 A, .int .i64 B, .int .i64 C]) ∧ Below W.heap.size W w'))
    (CM : Hid (∀ W : World, Calls Try.prog 28 #[.int .i64 d, .int .i64 e, .int .i64 f] W fun z w' => z = .returned (.agg #[.int .i64 D, .int .i64 E, .int .i64 F]) ∧ Below W.heap.size W w')) :
    Calls Try.prog 16 #[st a b c, st d e f] w fun z w' => ∃ g : Nat, z = .returned (.tuple #[.slice (some ⟨g, 0, none⟩) 1 1, .int .i64 0]) ∧ (w'.cell? ⟨g, 0, none⟩ = some (.int .i64 G1) ∧ w'.cell? ⟨g, 1, none⟩ = some (.int .i64 G2) ∧ w'.cell? ⟨g, 2, none⟩ = some (.int .i64 G3)) ∧ Below w.heap.size w w' := by
  have EQ := eql25 A B C D E F
  rw [hs] at EQ
  have bq1 : bd 1000000 q1 := by rw [hq1]; exact bd_up (bd_mul bA bE) (by omega)
  have eq1 : wrap64 (A * E) = q1 := by rw [← hq1]; exact w64 _ (by have := bq1; unfold bd at this; omega)
  have iq1 : IntKind.i64.wrap (A * E) = q1 := (i64w _).trans eq1
  have bq2 : bd 1000000 q2 := by rw [hq2]; exact bd_up (bd_mul bB bD) (by omega)
  have eq2 : wrap64 (B * D) = q2 := by rw [← hq2]; exact w64 _ (by have := bq2; unfold bd at this; omega)
  have iq2 : IntKind.i64.wrap (B * D) = q2 := (i64w _).trans eq2
  have btt : bd 2000000 tt := by rw [htt]; exact bd_up (bd_sub bq1 bq2) (by omega)
  have ett : wrap64 (q1 - q2) = tt := by rw [← htt]; exact w64 _ (by have := btt; unfold bd at this; omega)
  have itt : IntKind.i64.wrap (q1 - q2) = tt := (i64w _).trans ett
  have bh1 : bd 2000 h1 := by rw [hh1]; have := bA; unfold bd at *; omega
  have eh1 : wrap64 (2 * A) = h1 := by rw [← hh1]; exact w64 _ (by have := bh1; unfold bd at this; omega)
  have ih1 : IntKind.i64.wrap (2 * A) = h1 := (i64w _).trans eh1
  have bh2 : bd 2000000 h2 := by rw [hh2]; exact bd_up (bd_mul bh1 bE) (by omega)
  have eh2 : wrap64 (h1 * E) = h2 := by rw [← hh2]; exact w64 _ (by have := bh2; unfold bd at this; omega)
  have ih2 : IntKind.i64.wrap (h1 * E) = h2 := (i64w _).trans eh2
  have bh3 : bd 2000 h3 := by rw [hh3]; have := bB; unfold bd at *; omega
  have eh3 : wrap64 (2 * B) = h3 := by rw [← hh3]; exact w64 _ (by have := bh3; unfold bd at this; omega)
  have ih3 : IntKind.i64.wrap (2 * B) = h3 := (i64w _).trans eh3
  have bh4 : bd 2000000 h4 := by rw [hh4]; exact bd_up (bd_mul bh3 bE) (by omega)
  have eh4 : wrap64 (h3 * E) = h4 := by rw [← hh4]; exact w64 _ (by have := bh4; unfold bd at this; omega)
  have ih4 : IntKind.i64.wrap (h3 * E) = h4 := (i64w _).trans eh4
  have bh5 : bd 1000000 h5 := by rw [hh5]; exact bd_up (bd_mul bC bE) (by omega)
  have eh5 : wrap64 (C * E) = h5 := by rw [← hh5]; exact w64 _ (by have := bh5; unfold bd at this; omega)
  have ih5 : IntKind.i64.wrap (C * E) = h5 := (i64w _).trans eh5
  have bh6 : bd 1000000 h6 := by rw [hh6]; exact bd_up (bd_mul bF bB) (by omega)
  have eh6 : wrap64 (F * B) = h6 := by rw [← hh6]; exact w64 _ (by have := bh6; unfold bd at this; omega)
  have ih6 : IntKind.i64.wrap (F * B) = h6 := (i64w _).trans eh6
  have bh7 : bd 2000000 h7 := by rw [hh7]; exact bd_up (bd_add bh5 bh6) (by omega)
  have eh7 : wrap64 (h5 + h6) = h7 := by rw [← hh7]; exact w64 _ (by have := bh7; unfold bd at this; omega)
  have ih7 : IntKind.i64.wrap (h5 + h6) = h7 := (i64w _).trans eh7
  have CF : Hid (∀ W : World, Calls Try.prog 28 #[.int .i64 h2, .int .i64 h4, .int .i64 h7] W fun z w' => z = .returned (frm h2 h4 h7) ∧ Below W.heap.size W w') := fun W => inForm28 h2 h4 h7 W hne (by have := bh2; unfold sm; unfold bd at this; omega) (by have := bh4; unfold sm; unfold bd at this; omega) (by have := bh7; unfold sm; unfold bd at this; omega)
  rw [hG] at CF
  have qt : (tt == 0) = true := by simpa using hz
  have qA : (A == 0) = true := by simpa using hA0
  clear hs hG hne hz hA0 bA bB bC bD bE bF
  clear hq1 hq2 htt hh1 hh2 hh3 hh4 hh5 hh6 hh7 bq1 bq2 btt bh1 bh2 bh3 bh4 bh5 bh6 bh7
  unfold st
  go_enter Try.func16, Try.ntmps16
  go_wp2
  obtain ⟨W0, hW0⟩ : ∃ W0, W0 = ((w.alloc (.cells #[.int .i64 a, .int .i64 b, .int .i64 c] 25)).alloc (.cells #[.int .i64 d, .int .i64 e, .int .i64 f] 25)) := ⟨_, rfl⟩
  have HX : Hid (Bx W0 (w.heap.size) a b c ∧ Bx W0 (w.heap.size + 1) d e f ∧ Below w.heap.size w W0) := by
    rw [hW0]
    refine ⟨?_, ?_, bl_alloc (bl_alloc (bl_refl _))⟩
    · exact (bx_old w 25 a b c).kept (bl_alloc (bl_refl _))
    · have := bx_old (w.alloc (.cells #[.int .i64 a, .int .i64 b, .int .i64 c] 25)) 25 d e f
      simpa using this
  rw [← hW0]
  clear hW0
  have HS : Hid (∀ w', Below W0.heap.size W0 w' → w'.cell? ⟨w.heap.size, 0, none⟩ = some (.int .i64 a) ∧ w'.cell? ⟨w.heap.size, 1, none⟩ = some (.int .i64 b) ∧ w'.cell? ⟨w.heap.size, 2, none⟩ = some (.int .i64 c) ∧ w'.cell? ⟨w.heap.size + 1, 0, none⟩ = some (.int .i64 d) ∧ w'.cell? ⟨w.heap.size + 1, 1, none⟩ = some (.int .i64 e) ∧ w'.cell? ⟨w.heap.size + 1, 2, none⟩ = some (.int .i64 f)) := fun w' hw => ⟨cl_kept hw HX.out.1.1.1, cl_kept hw HX.out.1.1.2.1, cl_kept hw HX.out.1.1.2.2, cl_kept hw HX.out.2.1.1.1, cl_kept hw HX.out.2.1.1.2.1, cl_kept hw HX.out.2.1.1.2.2⟩
  have HS0 := HS.out W0.drew (bl_drew (bl_refl _))
  refine wp_region_late (S := fun w' => w'.cell? ⟨w.heap.size, 0, none⟩ = some (.int .i64 a) ∧ w'.cell? ⟨w.heap.size, 1, none⟩ = some (.int .i64 b) ∧ w'.cell? ⟨w.heap.size, 2, none⟩ = some (.int .i64 c) ∧ w'.cell? ⟨w.heap.size + 1, 0, none⟩ = some (.int .i64 d) ∧ w'.cell? ⟨w.heap.size + 1, 1, none⟩ = some (.int .i64 e) ∧ w'.cell? ⟨w.heap.size + 1, 2, none⟩ = some (.int .i64 f)) (late := fun j => decide (14 ≤ j)) (by kernel_rfl) ?_
  refine Lt.take (i := 0) (v := .pointer (some ⟨w.heap.size, 0, none⟩)) rfl (by kernel_rfl) (by kernel_rfl) (by kernel_rfl) rfl (by kernel_rfl) (by kernel_rfl) (fun _ _ _ h => h) (Or.inl ⟨by rfl, ?hyy⟩) HS0 ?_
  case hyy => (intro w' hSw; (try dsimp only at hSw); go_simp)
  try simp only [Act.put, List.getElem_toArray, List.getElem_cons_zero, List.setIfInBounds_toArray, List.set_cons_zero, List.set_cons_succ]
  refine Lt.take (i := 1) (v := .int .i64 a) rfl (by kernel_rfl) (by kernel_rfl) (by kernel_rfl) rfl (by kernel_rfl) (by kernel_rfl) (fun _ _ _ h => h) (Or.inl ⟨by rfl, ?hyy⟩) HS0 ?_
  case hyy => (intro w' hSw; (try dsimp only at hSw); go_simp)
  try simp only [Act.put, List.getElem_toArray, List.getElem_cons_succ, List.getElem_cons_zero, List.setIfInBounds_toArray, List.set_cons_zero, List.set_cons_succ]
  refine Lt.take (i := 2) (v := .pointer (some ⟨w.heap.size, 1, none⟩)) rfl (by kernel_rfl) (by kernel_rfl) (by kernel_rfl) rfl (by kernel_rfl) (by kernel_rfl) (fun _ _ _ h => h) (Or.inl ⟨by rfl, ?hyy⟩) HS0 ?_
  case hyy => (intro w' hSw; (try dsimp only at hSw); go_simp)
  try simp only [Act.put, List.getElem_toArray, List.getElem_cons_succ, List.getElem_cons_zero, List.setIfInBounds_toArray, List.set_cons_zero, List.set_cons_succ]
  refine Lt.take (i := 3) (v := .int .i64 b) rfl (by kernel_rfl) (by kernel_rfl) (by kernel_rfl) rfl (by kernel_rfl) (by kernel_rfl) (fun _ _ _ h => h) (Or.inl ⟨by rfl, ?hyy⟩) HS0 ?_
  case hyy => (intro w' hSw; (try dsimp only at hSw); go_simp)
  try simp only [Act.put, List.getElem_toArray, List.getElem_cons_succ, List.getElem_cons_zero, List.setIfInBounds_toArray, List.set_cons_zero, List.set_cons_succ]
  refine Lt.take (i := 4) (v := .pointer (some ⟨w.heap.size, 2, none⟩)) rfl (by kernel_rfl) (by kernel_rfl) (by kernel_rfl) rfl (by kernel_rfl) (by kernel_rfl) (fun _ _ _ h => h) (Or.inl ⟨by rfl, ?hyy⟩) HS0 ?_
  case hyy => (intro w' hSw; (try dsimp only at hSw); go_simp)
  try simp only [Act.put, List.getElem_toArray, List.getElem_cons_succ, List.getElem_cons_zero, List.setIfInBounds_toArray, List.set_cons_zero, List.set_cons_succ]
  refine Lt.take (i := 5) (v := .int .i64 c) rfl (by kernel_rfl) (by kernel_rfl) (by kernel_rfl) rfl (by kernel_rfl) (by kernel_rfl) (fun _ _ _ h => h) (Or.inl ⟨by rfl, ?hyy⟩) HS0 ?_
  case hyy => (intro w' hSw; (try dsimp only at hSw); go_simp)
  try simp only [Act.put, List.getElem_toArray, List.getElem_cons_succ, List.getElem_cons_zero, List.setIfInBounds_toArray, List.set_cons_zero, List.set_cons_succ]
  refine Lt.take (i := 7) (v := .pointer (some ⟨w.heap.size + 1, 0, none⟩)) rfl (by kernel_rfl) (by kernel_rfl) (by kernel_rfl) rfl (by kernel_rfl) (by kernel_rfl) (fun _ _ _ h => h) (Or.inl ⟨by rfl, ?hyy⟩) HS0 ?_
  case hyy => (intro w' hSw; (try dsimp only at hSw); go_simp)
  try simp only [Act.put, List.getElem_toArray, List.getElem_cons_succ, List.getElem_cons_zero, List.setIfInBounds_toArray, List.set_cons_zero, List.set_cons_succ]
  refine Lt.take (i := 8) (v := .int .i64 d) rfl (by kernel_rfl) (by kernel_rfl) (by kernel_rfl) rfl (by kernel_rfl) (by kernel_rfl) (fun _ _ _ h => h) (Or.inl ⟨by rfl, ?hyy⟩) HS0 ?_
  case hyy => (intro w' hSw; (try dsimp only at hSw); go_simp)
  try simp only [Act.put, List.getElem_toArray, List.getElem_cons_succ, List.getElem_cons_zero, List.setIfInBounds_toArray, List.set_cons_zero, List.set_cons_succ]
  refine Lt.take (i := 9) (v := .pointer (some ⟨w.heap.size + 1, 1, none⟩)) rfl (by kernel_rfl) (by kernel_rfl) (by kernel_rfl) rfl (by kernel_rfl) (by kernel_rfl) (fun _ _ _ h => h) (Or.inl ⟨by rfl, ?hyy⟩) HS0 ?_
  case hyy => (intro w' hSw; (try dsimp only at hSw); go_simp)
  try simp only [Act.put, List.getElem_toArray, List.getElem_cons_succ, List.getElem_cons_zero, List.setIfInBounds_toArray, List.set_cons_zero, List.set_cons_succ]
  refine Lt.take (i := 10) (v := .int .i64 e) rfl (by kernel_rfl) (by kernel_rfl) (by kernel_rfl) rfl (by kernel_rfl) (by kernel_rfl) (fun _ _ _ h => h) (Or.inl ⟨by rfl, ?hyy⟩) HS0 ?_
  case hyy => (intro w' hSw; (try dsimp only at hSw); go_simp)
  try simp only [Act.put, List.getElem_toArray, List.getElem_cons_succ, List.getElem_cons_zero, List.setIfInBounds_toArray, List.set_cons_zero, List.set_cons_succ]
  refine Lt.take (i := 11) (v := .pointer (some ⟨w.heap.size + 1, 2, none⟩)) rfl (by kernel_rfl) (by kernel_rfl) (by kernel_rfl) rfl (by kernel_rfl) (by kernel_rfl) (fun _ _ _ h => h) (Or.inl ⟨by rfl, ?hyy⟩) HS0 ?_
  case hyy => (intro w' hSw; (try dsimp only at hSw); go_simp)
  try simp only [Act.put, List.getElem_toArray, List.getElem_cons_succ, List.getElem_cons_zero, List.setIfInBounds_toArray, List.set_cons_zero, List.set_cons_succ]
  refine Lt.take (i := 12) (v := .int .i64 f) rfl (by kernel_rfl) (by kernel_rfl) (by kernel_rfl) rfl (by kernel_rfl) (by kernel_rfl) (fun _ _ _ h => h) (Or.inl ⟨by rfl, ?hyy⟩) HS0 ?_
  case hyy => (intro w' hSw; (try dsimp only at hSw); go_simp)
  try simp only [Act.put, List.getElem_toArray, List.getElem_cons_succ, List.getElem_cons_zero, List.setIfInBounds_toArray, List.set_cons_zero, List.set_cons_succ]
  refine Lt.one (i := 6) (by kernel_rfl) rfl rfl ?_
  refine call_step 28 #[.int .i64 a, .int .i64 b, .int .i64 c] (by kernel_rfl) (CL.out _) ?_
  rintro e w1 ⟨rfl, hb1⟩
  refine ⟨_, rfl, fun _ => HS.out _ (bl_via (bl_drew (bl_refl _)) hb1), ?_⟩
  try simp only [Act.put, List.getElem_toArray, List.getElem_cons_succ, List.getElem_cons_zero, List.setIfInBounds_toArray, List.set_cons_zero, List.set_cons_succ]
  refine Lt.one (i := 13) (by kernel_rfl) rfl rfl ?_
  refine call_step 28 #[.int .i64 d, .int .i64 e, .int .i64 f] (by kernel_rfl) (CM.out _) ?_
  rintro e w2 ⟨rfl, hb2⟩
  refine ⟨_, rfl, fun _ => HS.out _ (bl_via (bl_via (bl_drew (bl_refl _)) hb1) hb2), ?_⟩
  try simp only [Act.put, List.getElem_toArray, List.getElem_cons_succ, List.getElem_cons_zero, List.setIfInBounds_toArray, List.set_cons_zero, List.set_cons_succ]
  have HB2 : Hid (Below W0.heap.size W0 w2) := bl_via (bl_via (bl_drew (bl_refl _)) hb1) hb2
  have BL : Hid (Bx w2 (w.heap.size) a b c ∧ Bx w2 (w.heap.size + 1) d e f) := ⟨HX.out.1.kept HB2.out, HX.out.2.1.kept HB2.out⟩
  obtain ⟨⟨u0, u1, u2⟩, uf⟩ := BL.out.1
  have g0 := uf 0
  have g1 := uf 1
  have g2 := uf 2
  clear hb1 hb2
  refine Lt.one (i := 14) (by kernel_rfl) rfl rfl ?_
  refine skip_step (w' := (((w2.setCell ⟨w.heap.size, 0, none⟩ (.int .i64 A)).setCell ⟨w.heap.size, 1, none⟩ (.int .i64 B)).setCell ⟨w.heap.size, 2, none⟩ (.int .i64 C))) (by first | go_simp | simp [go_sem, u0, u1, u2, g0, g1, g2]) ?_
  refine ⟨fun h => absurd h (by decide), ?_⟩
  try simp only [Act.put, List.getElem_toArray, List.getElem_cons_succ, List.getElem_cons_zero]
  have BM := (BL.out.2.far (show w.heap.size + 1 ≠ w.heap.size by omega) (.int .i64 A) (.int .i64 B) (.int .i64 C))
  have BL2 := (BL.out.1.set3 A B C)
  clear u0 u1 u2 uf g0 g1 g2
  obtain ⟨⟨u0, u1, u2⟩, uf⟩ := BM
  have g0 := uf 0
  have g1 := uf 1
  have g2 := uf 2
  refine Lt.one (i := 15) (by kernel_rfl) rfl rfl ?_
  refine skip_step (w' := ((((((w2.setCell ⟨w.heap.size, 0, none⟩ (.int .i64 A)).setCell ⟨w.heap.size, 1, none⟩ (.int .i64 B)).setCell ⟨w.heap.size, 2, none⟩ (.int .i64 C)).setCell ⟨w.heap.size + 1, 0, none⟩ (.int .i64 D)).setCell ⟨w.heap.size + 1, 1, none⟩ (.int .i64 E)).setCell ⟨w.heap.size + 1, 2, none⟩ (.int .i64 F))) (by first | go_simp | simp [go_sem, u0, u1, u2, g0, g1, g2]) ?_
  refine ⟨fun h => absurd h (by decide), ?_⟩
  try simp only [Act.put, List.getElem_toArray, List.getElem_cons_succ, List.getElem_cons_zero]
  refine Lt.done (by kernel_rfl) ?_
  have HW : Hid (Bx (((((((w2.setCell ⟨w.heap.size, 0, none⟩ (.int .i64 A)).setCell ⟨w.heap.size, 1, none⟩ (.int .i64 B)).setCell ⟨w.heap.size, 2, none⟩ (.int .i64 C)).setCell ⟨w.heap.size + 1, 0, none⟩ (.int .i64 D)).setCell ⟨w.heap.size + 1, 1, none⟩ (.int .i64 E)).setCell ⟨w.heap.size + 1, 2, none⟩ (.int .i64 F))) (w.heap.size) A B C ∧ Bx (((((((w2.setCell ⟨w.heap.size, 0, none⟩ (.int .i64 A)).setCell ⟨w.heap.size, 1, none⟩ (.int .i64 B)).setCell ⟨w.heap.size, 2, none⟩ (.int .i64 C)).setCell ⟨w.heap.size + 1, 0, none⟩ (.int .i64 D)).setCell ⟨w.heap.size + 1, 1, none⟩ (.int .i64 E)).setCell ⟨w.heap.size + 1, 2, none⟩ (.int .i64 F))) (w.heap.size + 1) D E F ∧ Below w.heap.size w (((((((w2.setCell ⟨w.heap.size, 0, none⟩ (.int .i64 A)).setCell ⟨w.heap.size, 1, none⟩ (.int .i64 B)).setCell ⟨w.heap.size, 2, none⟩ (.int .i64 C)).setCell ⟨w.heap.size + 1, 0, none⟩ (.int .i64 D)).setCell ⟨w.heap.size + 1, 1, none⟩ (.int .i64 E)).setCell ⟨w.heap.size + 1, 2, none⟩ (.int .i64 F)))) := ⟨BL2.far (by omega) _ _ _, Bx.set3 ⟨⟨u0, u1, u2⟩, uf⟩ D E F, bl_set3 (bl_set3 (bl_via HX.out.2.2 HB2.out) (by omega)) (by omega)⟩
  clear BL2 u0 u1 u2 uf g0 g1 g2 BL HB2
  generalize ((((((w2.setCell ⟨w.heap.size, 0, none⟩ (.int .i64 A)).setCell ⟨w.heap.size, 1, none⟩ (.int .i64 B)).setCell ⟨w.heap.size, 2, none⟩ (.int .i64 C)).setCell ⟨w.heap.size + 1, 0, none⟩ (.int .i64 D)).setCell ⟨w.heap.size + 1, 1, none⟩ (.int .i64 E)).setCell ⟨w.heap.size + 1, 2, none⟩ (.int .i64 F)) = w3 at HW ⊢
  obtain ⟨⟨⟨c0, c1, c2⟩, _⟩, ⟨⟨d0, d1, d2⟩, _⟩, hbw⟩ := HW.out
  have HB : Hid (Below w.heap.size w w3) := hbw
  have zc := World.block_lt_of_cell? _ _ c0
  have zd := World.block_lt_of_cell? _ _ d0
  clear HW hbw
  go_wp2
  go_region
  go_wp2
  go_region
  go_wp2_with (go_at_call 28; refine (CF.out _).mono ?_; rintro z1 w4 ⟨rfl, hb4⟩; have HB4 : Hid (Below w.heap.size w w4) := bl_via HB.out (bl_via (by (repeat first | exact bl_refl _ | apply bl_drew | apply bl_alloc | (refine bl_via ?_ (by assumption)))) hb4); clear hb4)
  refine bodyPost_ret (v := .tuple #[_, _]) (by simp [results, Try.results16, go_sem]) rfl ⟨w4.heap.size, rfl, ⟨by simp [go_sem], by simp [go_sem], by simp [go_sem]⟩, bl_alloc HB4.out⟩
set_option maxRecDepth 100000 in
set_option maxHeartbeats 6400000 in
theorem halvesOf16_kind (a b c d e f A B C D E F q1 q2 tt n1 n2 nn k1 k2 kk pr : Int) (w : World) (bA : bd 1000 A) (bB : bd 1000 B) (_bC : bd 1000 C) (bD : bd 1000 D) (bE : bd 1000 E) (_bF : bd 1000 F)
    (hq1 : q1 = A * E) (hq2 : q2 = B * D) (htt : tt = q1 - q2) (hn1 : n1 = A * A) (hn2 : n2 = B * B) (hnn : nn = n1 + n2) (hk1 : k1 = D * D) (hk2 : k2 = E * E) (hkk : kk = k1 + k2) (hpr : pr = nn * kk) (hs : same3 A B C D E F = false) (hz : tt ≠ 0) (hp0 : 0 ≤ pr) (hno : ∀ ρ : Nat, pr ≠ (ρ : Int) * (ρ : Int))
    (CL : Hid (∀ W : World, Calls Try.prog 28 #[.int .i64 a, .int .i64 b, .int .i64 c] W fun z w' => z = .returned (.agg #[.int .i64 A, .int .i64 B, .int .i64 C]) ∧ Below W.heap.size W w'))
    (CM : Hid (∀ W : World, Calls Try.prog 28 #[.int .i64 d, .int .i64 e, .int .i64 f] W fun z w' => z = .returned (.agg #[.int .i64 D, .int .i64 E, .int .i64 F]) ∧ Below W.heap.size W w')) :
    Calls Try.prog 16 #[st a b c, st d e f] w fun z w' => z = .returned (.tuple #[.slice none 0 0, .int .i64 4]) ∧ Below w.heap.size w w' := by
  have EQ := eql25 A B C D E F
  rw [hs] at EQ
  have bq1 : bd 1000000 q1 := by rw [hq1]; exact bd_up (bd_mul bA bE) (by omega)
  have eq1 : wrap64 (A * E) = q1 := by rw [← hq1]; exact w64 _ (by have := bq1; unfold bd at this; omega)
  have iq1 : IntKind.i64.wrap (A * E) = q1 := (i64w _).trans eq1
  have bq2 : bd 1000000 q2 := by rw [hq2]; exact bd_up (bd_mul bB bD) (by omega)
  have eq2 : wrap64 (B * D) = q2 := by rw [← hq2]; exact w64 _ (by have := bq2; unfold bd at this; omega)
  have iq2 : IntKind.i64.wrap (B * D) = q2 := (i64w _).trans eq2
  have btt : bd 2000000 tt := by rw [htt]; exact bd_up (bd_sub bq1 bq2) (by omega)
  have ett : wrap64 (q1 - q2) = tt := by rw [← htt]; exact w64 _ (by have := btt; unfold bd at this; omega)
  have itt : IntKind.i64.wrap (q1 - q2) = tt := (i64w _).trans ett
  have bn1 : bd 1000000 n1 := by rw [hn1]; exact bd_up (bd_mul bA bA) (by omega)
  have en1 : wrap64 (A * A) = n1 := by rw [← hn1]; exact w64 _ (by have := bn1; unfold bd at this; omega)
  have in1 : IntKind.i64.wrap (A * A) = n1 := (i64w _).trans en1
  have bn2 : bd 1000000 n2 := by rw [hn2]; exact bd_up (bd_mul bB bB) (by omega)
  have en2 : wrap64 (B * B) = n2 := by rw [← hn2]; exact w64 _ (by have := bn2; unfold bd at this; omega)
  have in2 : IntKind.i64.wrap (B * B) = n2 := (i64w _).trans en2
  have bnn : bd 2000000 nn := by rw [hnn]; exact bd_up (bd_add bn1 bn2) (by omega)
  have enn : wrap64 (n1 + n2) = nn := by rw [← hnn]; exact w64 _ (by have := bnn; unfold bd at this; omega)
  have inn : IntKind.i64.wrap (n1 + n2) = nn := (i64w _).trans enn
  have bk1 : bd 1000000 k1 := by rw [hk1]; exact bd_up (bd_mul bD bD) (by omega)
  have ek1 : wrap64 (D * D) = k1 := by rw [← hk1]; exact w64 _ (by have := bk1; unfold bd at this; omega)
  have ik1 : IntKind.i64.wrap (D * D) = k1 := (i64w _).trans ek1
  have bk2 : bd 1000000 k2 := by rw [hk2]; exact bd_up (bd_mul bE bE) (by omega)
  have ek2 : wrap64 (E * E) = k2 := by rw [← hk2]; exact w64 _ (by have := bk2; unfold bd at this; omega)
  have ik2 : IntKind.i64.wrap (E * E) = k2 := (i64w _).trans ek2
  have bkk : bd 2000000 kk := by rw [hkk]; exact bd_up (bd_add bk1 bk2) (by omega)
  have ekk : wrap64 (k1 + k2) = kk := by rw [← hkk]; exact w64 _ (by have := bkk; unfold bd at this; omega)
  have ikk : IntKind.i64.wrap (k1 + k2) = kk := (i64w _).trans ekk
  have bpr : bd 4000000000000 pr := by rw [hpr]; exact bd_up (bd_mul bnn bkk) (by omega)
  have epr : wrap64 (nn * kk) = pr := by rw [← hpr]; exact w64 _ (by have := bpr; unfold bd at this; omega)
  have ipr : IntKind.i64.wrap (nn * kk) = pr := (i64w _).trans epr
  have CR : Hid (∀ W : World, Calls Try.prog 35 #[.int .i64 pr] W fun z w' => ∃ r : Int, z = .returned (.tuple #[.int .i64 r, .bool false]) ∧ Below W.heap.size W w') := fun W => sqrt_no pr W hp0 (by have := bpr; unfold bd at this; omega) hno
  have qt : (tt == 0) = false := by simpa using hz
  clear hs hz hno hp0 bA bB _bC bD bE _bF
  clear hq1 hq2 htt hn1 hn2 hnn hk1 hk2 hkk hpr bq1 bq2 btt bn1 bn2 bnn bk1 bk2 bkk bpr
  unfold st
  go_enter Try.func16, Try.ntmps16
  go_wp2
  obtain ⟨W0, hW0⟩ : ∃ W0, W0 = ((w.alloc (.cells #[.int .i64 a, .int .i64 b, .int .i64 c] 25)).alloc (.cells #[.int .i64 d, .int .i64 e, .int .i64 f] 25)) := ⟨_, rfl⟩
  have HX : Hid (Bx W0 (w.heap.size) a b c ∧ Bx W0 (w.heap.size + 1) d e f ∧ Below w.heap.size w W0) := by
    rw [hW0]
    refine ⟨?_, ?_, bl_alloc (bl_alloc (bl_refl _))⟩
    · exact (bx_old w 25 a b c).kept (bl_alloc (bl_refl _))
    · have := bx_old (w.alloc (.cells #[.int .i64 a, .int .i64 b, .int .i64 c] 25)) 25 d e f
      simpa using this
  rw [← hW0]
  clear hW0
  have HS : Hid (∀ w', Below W0.heap.size W0 w' → w'.cell? ⟨w.heap.size, 0, none⟩ = some (.int .i64 a) ∧ w'.cell? ⟨w.heap.size, 1, none⟩ = some (.int .i64 b) ∧ w'.cell? ⟨w.heap.size, 2, none⟩ = some (.int .i64 c) ∧ w'.cell? ⟨w.heap.size + 1, 0, none⟩ = some (.int .i64 d) ∧ w'.cell? ⟨w.heap.size + 1, 1, none⟩ = some (.int .i64 e) ∧ w'.cell? ⟨w.heap.size + 1, 2, none⟩ = some (.int .i64 f)) := fun w' hw => ⟨cl_kept hw HX.out.1.1.1, cl_kept hw HX.out.1.1.2.1, cl_kept hw HX.out.1.1.2.2, cl_kept hw HX.out.2.1.1.1, cl_kept hw HX.out.2.1.1.2.1, cl_kept hw HX.out.2.1.1.2.2⟩
  have HS0 := HS.out W0.drew (bl_drew (bl_refl _))
  refine wp_region_late (S := fun w' => w'.cell? ⟨w.heap.size, 0, none⟩ = some (.int .i64 a) ∧ w'.cell? ⟨w.heap.size, 1, none⟩ = some (.int .i64 b) ∧ w'.cell? ⟨w.heap.size, 2, none⟩ = some (.int .i64 c) ∧ w'.cell? ⟨w.heap.size + 1, 0, none⟩ = some (.int .i64 d) ∧ w'.cell? ⟨w.heap.size + 1, 1, none⟩ = some (.int .i64 e) ∧ w'.cell? ⟨w.heap.size + 1, 2, none⟩ = some (.int .i64 f)) (late := fun j => decide (14 ≤ j)) (by kernel_rfl) ?_
  refine Lt.take (i := 0) (v := .pointer (some ⟨w.heap.size, 0, none⟩)) rfl (by kernel_rfl) (by kernel_rfl) (by kernel_rfl) rfl (by kernel_rfl) (by kernel_rfl) (fun _ _ _ h => h) (Or.inl ⟨by rfl, ?hyy⟩) HS0 ?_
  case hyy => (intro w' hSw; (try dsimp only at hSw); go_simp)
  try simp only [Act.put, List.getElem_toArray, List.getElem_cons_zero, List.setIfInBounds_toArray, List.set_cons_zero, List.set_cons_succ]
  refine Lt.take (i := 1) (v := .int .i64 a) rfl (by kernel_rfl) (by kernel_rfl) (by kernel_rfl) rfl (by kernel_rfl) (by kernel_rfl) (fun _ _ _ h => h) (Or.inl ⟨by rfl, ?hyy⟩) HS0 ?_
  case hyy => (intro w' hSw; (try dsimp only at hSw); go_simp)
  try simp only [Act.put, List.getElem_toArray, List.getElem_cons_succ, List.getElem_cons_zero, List.setIfInBounds_toArray, List.set_cons_zero, List.set_cons_succ]
  refine Lt.take (i := 2) (v := .pointer (some ⟨w.heap.size, 1, none⟩)) rfl (by kernel_rfl) (by kernel_rfl) (by kernel_rfl) rfl (by kernel_rfl) (by kernel_rfl) (fun _ _ _ h => h) (Or.inl ⟨by rfl, ?hyy⟩) HS0 ?_
  case hyy => (intro w' hSw; (try dsimp only at hSw); go_simp)
  try simp only [Act.put, List.getElem_toArray, List.getElem_cons_succ, List.getElem_cons_zero, List.setIfInBounds_toArray, List.set_cons_zero, List.set_cons_succ]
  refine Lt.take (i := 3) (v := .int .i64 b) rfl (by kernel_rfl) (by kernel_rfl) (by kernel_rfl) rfl (by kernel_rfl) (by kernel_rfl) (fun _ _ _ h => h) (Or.inl ⟨by rfl, ?hyy⟩) HS0 ?_
  case hyy => (intro w' hSw; (try dsimp only at hSw); go_simp)
  try simp only [Act.put, List.getElem_toArray, List.getElem_cons_succ, List.getElem_cons_zero, List.setIfInBounds_toArray, List.set_cons_zero, List.set_cons_succ]
  refine Lt.take (i := 4) (v := .pointer (some ⟨w.heap.size, 2, none⟩)) rfl (by kernel_rfl) (by kernel_rfl) (by kernel_rfl) rfl (by kernel_rfl) (by kernel_rfl) (fun _ _ _ h => h) (Or.inl ⟨by rfl, ?hyy⟩) HS0 ?_
  case hyy => (intro w' hSw; (try dsimp only at hSw); go_simp)
  try simp only [Act.put, List.getElem_toArray, List.getElem_cons_succ, List.getElem_cons_zero, List.setIfInBounds_toArray, List.set_cons_zero, List.set_cons_succ]
  refine Lt.take (i := 5) (v := .int .i64 c) rfl (by kernel_rfl) (by kernel_rfl) (by kernel_rfl) rfl (by kernel_rfl) (by kernel_rfl) (fun _ _ _ h => h) (Or.inl ⟨by rfl, ?hyy⟩) HS0 ?_
  case hyy => (intro w' hSw; (try dsimp only at hSw); go_simp)
  try simp only [Act.put, List.getElem_toArray, List.getElem_cons_succ, List.getElem_cons_zero, List.setIfInBounds_toArray, List.set_cons_zero, List.set_cons_succ]
  refine Lt.take (i := 7) (v := .pointer (some ⟨w.heap.size + 1, 0, none⟩)) rfl (by kernel_rfl) (by kernel_rfl) (by kernel_rfl) rfl (by kernel_rfl) (by kernel_rfl) (fun _ _ _ h => h) (Or.inl ⟨by rfl, ?hyy⟩) HS0 ?_
  case hyy => (intro w' hSw; (try dsimp only at hSw); go_simp)
  try simp only [Act.put, List.getElem_toArray, List.getElem_cons_succ, List.getElem_cons_zero, List.setIfInBounds_toArray, List.set_cons_zero, List.set_cons_succ]
  refine Lt.take (i := 8) (v := .int .i64 d) rfl (by kernel_rfl) (by kernel_rfl) (by kernel_rfl) rfl (by kernel_rfl) (by kernel_rfl) (fun _ _ _ h => h) (Or.inl ⟨by rfl, ?hyy⟩) HS0 ?_
  case hyy => (intro w' hSw; (try dsimp only at hSw); go_simp)
  try simp only [Act.put, List.getElem_toArray, List.getElem_cons_succ, List.getElem_cons_zero, List.setIfInBounds_toArray, List.set_cons_zero, List.set_cons_succ]
  refine Lt.take (i := 9) (v := .pointer (some ⟨w.heap.size + 1, 1, none⟩)) rfl (by kernel_rfl) (by kernel_rfl) (by kernel_rfl) rfl (by kernel_rfl) (by kernel_rfl) (fun _ _ _ h => h) (Or.inl ⟨by rfl, ?hyy⟩) HS0 ?_
  case hyy => (intro w' hSw; (try dsimp only at hSw); go_simp)
  try simp only [Act.put, List.getElem_toArray, List.getElem_cons_succ, List.getElem_cons_zero, List.setIfInBounds_toArray, List.set_cons_zero, List.set_cons_succ]
  refine Lt.take (i := 10) (v := .int .i64 e) rfl (by kernel_rfl) (by kernel_rfl) (by kernel_rfl) rfl (by kernel_rfl) (by kernel_rfl) (fun _ _ _ h => h) (Or.inl ⟨by rfl, ?hyy⟩) HS0 ?_
  case hyy => (intro w' hSw; (try dsimp only at hSw); go_simp)
  try simp only [Act.put, List.getElem_toArray, List.getElem_cons_succ, List.getElem_cons_zero, List.setIfInBounds_toArray, List.set_cons_zero, List.set_cons_succ]
  refine Lt.take (i := 11) (v := .pointer (some ⟨w.heap.size + 1, 2, none⟩)) rfl (by kernel_rfl) (by kernel_rfl) (by kernel_rfl) rfl (by kernel_rfl) (by kernel_rfl) (fun _ _ _ h => h) (Or.inl ⟨by rfl, ?hyy⟩) HS0 ?_
  case hyy => (intro w' hSw; (try dsimp only at hSw); go_simp)
  try simp only [Act.put, List.getElem_toArray, List.getElem_cons_succ, List.getElem_cons_zero, List.setIfInBounds_toArray, List.set_cons_zero, List.set_cons_succ]
  refine Lt.take (i := 12) (v := .int .i64 f) rfl (by kernel_rfl) (by kernel_rfl) (by kernel_rfl) rfl (by kernel_rfl) (by kernel_rfl) (fun _ _ _ h => h) (Or.inl ⟨by rfl, ?hyy⟩) HS0 ?_
  case hyy => (intro w' hSw; (try dsimp only at hSw); go_simp)
  try simp only [Act.put, List.getElem_toArray, List.getElem_cons_succ, List.getElem_cons_zero, List.setIfInBounds_toArray, List.set_cons_zero, List.set_cons_succ]
  refine Lt.one (i := 6) (by kernel_rfl) rfl rfl ?_
  refine call_step 28 #[.int .i64 a, .int .i64 b, .int .i64 c] (by kernel_rfl) (CL.out _) ?_
  rintro e w1 ⟨rfl, hb1⟩
  refine ⟨_, rfl, fun _ => HS.out _ (bl_via (bl_drew (bl_refl _)) hb1), ?_⟩
  try simp only [Act.put, List.getElem_toArray, List.getElem_cons_succ, List.getElem_cons_zero, List.setIfInBounds_toArray, List.set_cons_zero, List.set_cons_succ]
  refine Lt.one (i := 13) (by kernel_rfl) rfl rfl ?_
  refine call_step 28 #[.int .i64 d, .int .i64 e, .int .i64 f] (by kernel_rfl) (CM.out _) ?_
  rintro e w2 ⟨rfl, hb2⟩
  refine ⟨_, rfl, fun _ => HS.out _ (bl_via (bl_via (bl_drew (bl_refl _)) hb1) hb2), ?_⟩
  try simp only [Act.put, List.getElem_toArray, List.getElem_cons_succ, List.getElem_cons_zero, List.setIfInBounds_toArray, List.set_cons_zero, List.set_cons_succ]
  have HB2 : Hid (Below W0.heap.size W0 w2) := bl_via (bl_via (bl_drew (bl_refl _)) hb1) hb2
  have BL : Hid (Bx w2 (w.heap.size) a b c ∧ Bx w2 (w.heap.size + 1) d e f) := ⟨HX.out.1.kept HB2.out, HX.out.2.1.kept HB2.out⟩
  obtain ⟨⟨u0, u1, u2⟩, uf⟩ := BL.out.1
  have g0 := uf 0
  have g1 := uf 1
  have g2 := uf 2
  clear hb1 hb2
  refine Lt.one (i := 14) (by kernel_rfl) rfl rfl ?_
  refine skip_step (w' := (((w2.setCell ⟨w.heap.size, 0, none⟩ (.int .i64 A)).setCell ⟨w.heap.size, 1, none⟩ (.int .i64 B)).setCell ⟨w.heap.size, 2, none⟩ (.int .i64 C))) (by first | go_simp | simp [go_sem, u0, u1, u2, g0, g1, g2]) ?_
  refine ⟨fun h => absurd h (by decide), ?_⟩
  try simp only [Act.put, List.getElem_toArray, List.getElem_cons_succ, List.getElem_cons_zero]
  have BM := (BL.out.2.far (show w.heap.size + 1 ≠ w.heap.size by omega) (.int .i64 A) (.int .i64 B) (.int .i64 C))
  have BL2 := (BL.out.1.set3 A B C)
  clear u0 u1 u2 uf g0 g1 g2
  obtain ⟨⟨u0, u1, u2⟩, uf⟩ := BM
  have g0 := uf 0
  have g1 := uf 1
  have g2 := uf 2
  refine Lt.one (i := 15) (by kernel_rfl) rfl rfl ?_
  refine skip_step (w' := ((((((w2.setCell ⟨w.heap.size, 0, none⟩ (.int .i64 A)).setCell ⟨w.heap.size, 1, none⟩ (.int .i64 B)).setCell ⟨w.heap.size, 2, none⟩ (.int .i64 C)).setCell ⟨w.heap.size + 1, 0, none⟩ (.int .i64 D)).setCell ⟨w.heap.size + 1, 1, none⟩ (.int .i64 E)).setCell ⟨w.heap.size + 1, 2, none⟩ (.int .i64 F))) (by first | go_simp | simp [go_sem, u0, u1, u2, g0, g1, g2]) ?_
  refine ⟨fun h => absurd h (by decide), ?_⟩
  try simp only [Act.put, List.getElem_toArray, List.getElem_cons_succ, List.getElem_cons_zero]
  refine Lt.done (by kernel_rfl) ?_
  have HW : Hid (Bx (((((((w2.setCell ⟨w.heap.size, 0, none⟩ (.int .i64 A)).setCell ⟨w.heap.size, 1, none⟩ (.int .i64 B)).setCell ⟨w.heap.size, 2, none⟩ (.int .i64 C)).setCell ⟨w.heap.size + 1, 0, none⟩ (.int .i64 D)).setCell ⟨w.heap.size + 1, 1, none⟩ (.int .i64 E)).setCell ⟨w.heap.size + 1, 2, none⟩ (.int .i64 F))) (w.heap.size) A B C ∧ Bx (((((((w2.setCell ⟨w.heap.size, 0, none⟩ (.int .i64 A)).setCell ⟨w.heap.size, 1, none⟩ (.int .i64 B)).setCell ⟨w.heap.size, 2, none⟩ (.int .i64 C)).setCell ⟨w.heap.size + 1, 0, none⟩ (.int .i64 D)).setCell ⟨w.heap.size + 1, 1, none⟩ (.int .i64 E)).setCell ⟨w.heap.size + 1, 2, none⟩ (.int .i64 F))) (w.heap.size + 1) D E F ∧ Below w.heap.size w (((((((w2.setCell ⟨w.heap.size, 0, none⟩ (.int .i64 A)).setCell ⟨w.heap.size, 1, none⟩ (.int .i64 B)).setCell ⟨w.heap.size, 2, none⟩ (.int .i64 C)).setCell ⟨w.heap.size + 1, 0, none⟩ (.int .i64 D)).setCell ⟨w.heap.size + 1, 1, none⟩ (.int .i64 E)).setCell ⟨w.heap.size + 1, 2, none⟩ (.int .i64 F)))) := ⟨BL2.far (by omega) _ _ _, Bx.set3 ⟨⟨u0, u1, u2⟩, uf⟩ D E F, bl_set3 (bl_set3 (bl_via HX.out.2.2 HB2.out) (by omega)) (by omega)⟩
  clear BL2 u0 u1 u2 uf g0 g1 g2 BL HB2
  generalize ((((((w2.setCell ⟨w.heap.size, 0, none⟩ (.int .i64 A)).setCell ⟨w.heap.size, 1, none⟩ (.int .i64 B)).setCell ⟨w.heap.size, 2, none⟩ (.int .i64 C)).setCell ⟨w.heap.size + 1, 0, none⟩ (.int .i64 D)).setCell ⟨w.heap.size + 1, 1, none⟩ (.int .i64 E)).setCell ⟨w.heap.size + 1, 2, none⟩ (.int .i64 F)) = w3 at HW ⊢
  obtain ⟨⟨⟨c0, c1, c2⟩, _⟩, ⟨⟨d0, d1, d2⟩, _⟩, hbw⟩ := HW.out
  have HB : Hid (Below w.heap.size w w3) := hbw
  have zc := World.block_lt_of_cell? _ _ c0
  have zd := World.block_lt_of_cell? _ _ d0
  clear HW hbw
  have kc := Kin.cells w3
  have kn : Nonempty (Kin w3) := ⟨⟨w3, bl_refl _⟩⟩
  go_wp2
  refine wp_region_kin (by kernel_rfl) (by kernel_rfl) ?_
  repeat (go_big_quiet_step (fail))
  refine wpQuiet_nil ?_
  intro wq hw'
  obtain ⟨nq, hw''⟩ := hw'
  have hq : Below w3.heap.size w3 wq := hw'' ▸ nq.h
  clear hw'' nq kc kn
  replace c0 := cl_kept hq c0
  replace c1 := cl_kept hq c1
  replace c2 := cl_kept hq c2
  replace d0 := cl_kept hq d0
  replace d1 := cl_kept hq d1
  replace d2 := cl_kept hq d2
  replace HB : Hid (Below w.heap.size w wq) := bl_via HB.out hq
  replace zc := World.block_lt_of_cell? _ _ c0
  replace zd := World.block_lt_of_cell? _ _ d0
  clear hq
  go_wp2_with (go_at_call 35; refine (CR.out _).mono ?_; rintro z1 w4 ⟨r, rfl, hb4⟩; replace HB : Hid (Below w.heap.size w w4) := bl_via HB.out hb4; clear hb4)
  refine bodyPost_ret (v := .tuple #[_, _]) (by simp [results, Try.results16, go_sem]) rfl ⟨rfl, ?_⟩
  exact HB.out
end Go.Proofs.Ytohnppjbmpaomaa
