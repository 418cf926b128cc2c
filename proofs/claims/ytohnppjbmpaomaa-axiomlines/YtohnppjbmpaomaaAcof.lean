/- The reference's AcrossOf13. -/
import Derived.Test.YtohnppjbmpaomaaInre
import Derived.Test.YtohnppjbmpaomaaLate
namespace Go.Proofs.Ytohnppjbmpaomaa
open Go.RowKit

theorem i64w (n : Int) : IntKind.i64.wrap n = wrap64 n := by rw [IntKind.wrap_i64]; unfold wrap64; omega
theorem Bx.set3 {w : World} {g : Nat} {a b c : Int} (h : Bx w g a b c) (A B C : Int) : Bx (((w.setCell ⟨g, 0, none⟩ (.int .i64 A)).setCell ⟨g, 1, none⟩ (.int .i64 B)).setCell ⟨g, 2, none⟩ (.int .i64 C)) g A B C := by
  have hr := h.rd
  refine ⟨⟨?_, ?_, hr.2.2 _ _ _⟩, fun q => by simp only [World.frozen?_setCell]; exact h.2 q⟩
  · rw [World.cell?_setCell_other _ _ _ _ (by simp), World.cell?_setCell_other _ _ _ _ (by simp)]
    exact hr.1 _
  · rw [World.cell?_setCell_other _ _ _ _ (by simp)]
    exact hr.2.1 _ _
theorem Bx.far {w : World} {g g' : Nat} {a b c : Int} (h : Bx w g a b c) (hne : g ≠ g') (u v t : Value) : Bx (((w.setCell ⟨g', 0, none⟩ u).setCell ⟨g', 1, none⟩ v).setCell ⟨g', 2, none⟩ t) g a b c := by
  obtain ⟨⟨c0, c1, c2⟩, hf⟩ := h
  refine ⟨⟨?_, ?_, ?_⟩, fun q => by simp only [World.frozen?_setCell]; exact hf q⟩
  all_goals
    rw [World.cell?_setCell_other _ _ _ _ (by simp <;> omega), World.cell?_setCell_other _ _ _ _ (by simp <;> omega), World.cell?_setCell_other _ _ _ _ (by simp <;> omega)]
    assumption
theorem cell_far {w : World} {g g' o : Nat} {x : Value} (h : w.cell? ⟨g, o, none⟩ = some x) (hne : g ≠ g') (u v t : Value) : (((w.setCell ⟨g', 0, none⟩ u).setCell ⟨g', 1, none⟩ v).setCell ⟨g', 2, none⟩ t).cell? ⟨g, o, none⟩ = some x := by
  rw [World.cell?_setCell_other _ _ _ _ (by simp <;> omega), World.cell?_setCell_other _ _ _ _ (by simp <;> omega), World.cell?_setCell_other _ _ _ _ (by simp <;> omega)]
  exact h
theorem bx_old (w : World) (t : TypeId) (a b c : Int) : Bx (w.alloc (.cells #[.int .i64 a, .int .i64 b, .int .i64 c] t)) w.heap.size a b c :=
  ⟨⟨by simp [go_sem], by simp [go_sem], by simp [go_sem]⟩, fun q => by simp [go_sem]⟩
theorem bl_set3 {w v : World} {g : Nat} {a b c : Value} (h : Below w.heap.size w v) (hp : w.heap.size ≤ g) : Below w.heap.size w (((v.setCell ⟨g, 0, none⟩ a).setCell ⟨g, 1, none⟩ b).setCell ⟨g, 2, none⟩ c) := bl_set (bl_set (bl_set h hp) hp) hp
set_option maxRecDepth 100000 in
set_option maxHeartbeats 6400000 in
theorem acrossOf17_none (x y a b c d e f A B C D E F dx q1 q2 dn : Int) (w : World) (_bx : bd 1000 x) (_by_ : bd 1000 y) (bA : bd 1000 A) (bB : bd 1000 B) (_bC : bd 1000 C) (bD : bd 1000 D) (bE : bd 1000 E)
    (hdx : dx = -E) (hq1 : q1 = A * dx) (hq2 : q2 = B * D) (hdn : dn = q1 + q2) (hz : dn = 0)
    (CL : Hid (∀ W : World, Calls Try.prog 28 #[.int .i64 a, .int .i64 b, .int .i64 c] W fun e w' => e = .returned (.agg #[.int .i64 A, .int .i64 B, .int .i64 C]) ∧ Below W.heap.size W w'))
    (CM : Hid (∀ W : World, Calls Try.prog 28 #[.int .i64 d, .int .i64 e, .int .i64 0] W fun e w' => e = .returned (.agg #[.int .i64 D, .int .i64 E, .int .i64 F]) ∧ Below W.heap.size W w')) :
    Calls Try.prog 17 #[pt x y, st a b c, st d e f] w fun e w' => e = .returned (.tuple #[st 0 0 0, .bool false]) ∧ Below w.heap.size w w' := by
  have bdx : bd 1000 dx := by rw [hdx]; exact bd_up (bd_neg bE) (by omega)
  have edx : wrap64 (-E) = dx := by rw [← hdx]; exact w64 _ (by have := bdx; unfold bd at this; omega)
  have idx : IntKind.i64.wrap (-E) = dx := (i64w _).trans edx
  have bq1 : bd 1000000 q1 := by rw [hq1]; exact bd_up (bd_mul bA bdx) (by omega)
  have eq1 : wrap64 (A * dx) = q1 := by rw [← hq1]; exact w64 _ (by have := bq1; unfold bd at this; omega)
  have iq1 : IntKind.i64.wrap (A * dx) = q1 := (i64w _).trans eq1
  have bq2 : bd 1000000 q2 := by rw [hq2]; exact bd_up (bd_mul bB bD) (by omega)
  have eq2 : wrap64 (B * D) = q2 := by rw [← hq2]; exact w64 _ (by have := bq2; unfold bd at this; omega)
  have iq2 : IntKind.i64.wrap (B * D) = q2 := (i64w _).trans eq2
  have bdn : bd 2000000 dn := by rw [hdn]; exact bd_up (bd_add bq1 bq2) (by omega)
  have edn : wrap64 (q1 + q2) = dn := by rw [← hdn]; exact w64 _ (by have := bdn; unfold bd at this; omega)
  have idn : IntKind.i64.wrap (q1 + q2) = dn := (i64w _).trans edn
  have qz : (dn == 0) = true := by simpa using hz
  clear hdx hq1 hq2 hdn bdx bq1 bq2 bdn _bx bA bB _bC bD bE _by_ hz
  unfold pt st
  go_enter Try.func17, Try.ntmps17
  go_wp2
  obtain ⟨W0, hW0⟩ : ∃ W0, W0 = ((((w.alloc (.cells #[.int .i64 x, .int .i64 y] 23)).alloc (.cells #[.int .i64 a, .int .i64 b, .int .i64 c] 25)).alloc (.cells #[.int .i64 d, .int .i64 e, .int .i64 f] 25)).alloc (.cells #[.int .i64 0, .int .i64 0, .int .i64 0] 25)) := ⟨_, rfl⟩
  have HX : Hid (Bx W0 (w.heap.size + 1) a b c ∧ Bx W0 (w.heap.size + 1 + 1) d e f ∧ Bx W0 (w.heap.size + 1 + 1 + 1) 0 0 0 ∧ W0.cell? ⟨w.heap.size, 0, none⟩ = some (.int .i64 x) ∧ W0.cell? ⟨w.heap.size, 1, none⟩ = some (.int .i64 y) ∧ Below w.heap.size w W0) := by
    rw [hW0]
    refine ⟨?_, ?_, ?_, by simp [go_sem], by simp [go_sem], bl_alloc (bl_alloc (bl_alloc (bl_alloc (bl_refl _))))⟩
    · have := ((bx_old (w.alloc (.cells #[.int .i64 x, .int .i64 y] 23)) 25 a b c).kept (bl_alloc (o := .cells #[.int .i64 d, .int .i64 e, .int .i64 f] 25) (bl_refl _))).kept (bl_alloc (o := .cells #[.int .i64 0, .int .i64 0, .int .i64 0] 25) (bl_refl _))
      simpa using this
    · have := (bx_old ((w.alloc (.cells #[.int .i64 x, .int .i64 y] 23)).alloc (.cells #[.int .i64 a, .int .i64 b, .int .i64 c] 25)) 25 d e f).kept (bl_alloc (o := .cells #[.int .i64 0, .int .i64 0, .int .i64 0] 25) (bl_refl _))
      simpa using this
    · have := bx_old (((w.alloc (.cells #[.int .i64 x, .int .i64 y] 23)).alloc (.cells #[.int .i64 a, .int .i64 b, .int .i64 c] 25)).alloc (.cells #[.int .i64 d, .int .i64 e, .int .i64 f] 25)) 25 0 0 0
      simpa using this
  rw [← hW0]
  clear hW0
  have HS : Hid (∀ w', Below W0.heap.size W0 w' → w'.cell? ⟨w.heap.size + 1, 0, none⟩ = some (.int .i64 a) ∧ w'.cell? ⟨w.heap.size + 1, 1, none⟩ = some (.int .i64 b) ∧ w'.cell? ⟨w.heap.size + 1, 2, none⟩ = some (.int .i64 c) ∧ w'.cell? ⟨w.heap.size + 1 + 1, 0, none⟩ = some (.int .i64 d) ∧ w'.cell? ⟨w.heap.size + 1 + 1, 1, none⟩ = some (.int .i64 e)) := fun w' hw => ⟨cl_kept hw HX.out.1.1.1, cl_kept hw HX.out.1.1.2.1, cl_kept hw HX.out.1.1.2.2, cl_kept hw HX.out.2.1.1.1, cl_kept hw HX.out.2.1.1.2.1⟩
  have HS0 := HS.out W0.drew (bl_drew (bl_refl _))
  refine wp_region_late (S := fun w' => w'.cell? ⟨w.heap.size + 1, 0, none⟩ = some (.int .i64 a) ∧ w'.cell? ⟨w.heap.size + 1, 1, none⟩ = some (.int .i64 b) ∧ w'.cell? ⟨w.heap.size + 1, 2, none⟩ = some (.int .i64 c) ∧ w'.cell? ⟨w.heap.size + 1 + 1, 0, none⟩ = some (.int .i64 d) ∧ w'.cell? ⟨w.heap.size + 1 + 1, 1, none⟩ = some (.int .i64 e)) (late := fun j => decide (12 ≤ j)) (by kernel_rfl) ?_
  refine Lt.take (i := 0) (v := .pointer (some ⟨w.heap.size + 1, 0, none⟩)) rfl (by kernel_rfl) (by kernel_rfl) (by kernel_rfl) rfl (by kernel_rfl) (by kernel_rfl) (fun _ _ _ h => h) (Or.inl ⟨by rfl, ?hyy⟩) HS0 ?_
  case hyy => (intro w' hSw; (try dsimp only at hSw); go_simp)
  try simp only [Act.put, List.getElem_toArray, List.getElem_cons_zero, List.setIfInBounds_toArray, List.set_cons_zero, List.set_cons_succ]
  refine Lt.take (i := 1) (v := .int .i64 a) rfl (by kernel_rfl) (by kernel_rfl) (by kernel_rfl) rfl (by kernel_rfl) (by kernel_rfl) (fun _ _ _ h => h) (Or.inl ⟨by rfl, ?hyy⟩) HS0 ?_
  case hyy => (intro w' hSw; (try dsimp only at hSw); go_simp)
  try simp only [Act.put, List.getElem_toArray, List.getElem_cons_succ, List.getElem_cons_zero, List.setIfInBounds_toArray, List.set_cons_zero, List.set_cons_succ]
  refine Lt.take (i := 2) (v := .pointer (some ⟨w.heap.size + 1, 1, none⟩)) rfl (by kernel_rfl) (by kernel_rfl) (by kernel_rfl) rfl (by kernel_rfl) (by kernel_rfl) (fun _ _ _ h => h) (Or.inl ⟨by rfl, ?hyy⟩) HS0 ?_
  case hyy => (intro w' hSw; (try dsimp only at hSw); go_simp)
  try simp only [Act.put, List.getElem_toArray, List.getElem_cons_succ, List.getElem_cons_zero, List.setIfInBounds_toArray, List.set_cons_zero, List.set_cons_succ]
  refine Lt.take (i := 3) (v := .int .i64 b) rfl (by kernel_rfl) (by kernel_rfl) (by kernel_rfl) rfl (by kernel_rfl) (by kernel_rfl) (fun _ _ _ h => h) (Or.inl ⟨by rfl, ?hyy⟩) HS0 ?_
  case hyy => (intro w' hSw; (try dsimp only at hSw); go_simp)
  try simp only [Act.put, List.getElem_toArray, List.getElem_cons_succ, List.getElem_cons_zero, List.setIfInBounds_toArray, List.set_cons_zero, List.set_cons_succ]
  refine Lt.take (i := 4) (v := .pointer (some ⟨w.heap.size + 1, 2, none⟩)) rfl (by kernel_rfl) (by kernel_rfl) (by kernel_rfl) rfl (by kernel_rfl) (by kernel_rfl) (fun _ _ _ h => h) (Or.inl ⟨by rfl, ?hyy⟩) HS0 ?_
  case hyy => (intro w' hSw; (try dsimp only at hSw); go_simp)
  try simp only [Act.put, List.getElem_toArray, List.getElem_cons_succ, List.getElem_cons_zero, List.setIfInBounds_toArray, List.set_cons_zero, List.set_cons_succ]
  refine Lt.take (i := 5) (v := .int .i64 c) rfl (by kernel_rfl) (by kernel_rfl) (by kernel_rfl) rfl (by kernel_rfl) (by kernel_rfl) (fun _ _ _ h => h) (Or.inl ⟨by rfl, ?hyy⟩) HS0 ?_
  case hyy => (intro w' hSw; (try dsimp only at hSw); go_simp)
  try simp only [Act.put, List.getElem_toArray, List.getElem_cons_succ, List.getElem_cons_zero, List.setIfInBounds_toArray, List.set_cons_zero, List.set_cons_succ]
  refine Lt.take (i := 7) (v := .pointer (some ⟨w.heap.size + 1 + 1, 0, none⟩)) rfl (by kernel_rfl) (by kernel_rfl) (by kernel_rfl) rfl (by kernel_rfl) (by kernel_rfl) (fun _ _ _ h => h) (Or.inl ⟨by rfl, ?hyy⟩) HS0 ?_
  case hyy => (intro w' hSw; (try dsimp only at hSw); go_simp)
  try simp only [Act.put, List.getElem_toArray, List.getElem_cons_succ, List.getElem_cons_zero, List.setIfInBounds_toArray, List.set_cons_zero, List.set_cons_succ]
  refine Lt.take (i := 8) (v := .int .i64 d) rfl (by kernel_rfl) (by kernel_rfl) (by kernel_rfl) rfl (by kernel_rfl) (by kernel_rfl) (fun _ _ _ h => h) (Or.inl ⟨by rfl, ?hyy⟩) HS0 ?_
  case hyy => (intro w' hSw; (try dsimp only at hSw); go_simp)
  try simp only [Act.put, List.getElem_toArray, List.getElem_cons_succ, List.getElem_cons_zero, List.setIfInBounds_toArray, List.set_cons_zero, List.set_cons_succ]
  refine Lt.take (i := 9) (v := .pointer (some ⟨w.heap.size + 1 + 1, 1, none⟩)) rfl (by kernel_rfl) (by kernel_rfl) (by kernel_rfl) rfl (by kernel_rfl) (by kernel_rfl) (fun _ _ _ h => h) (Or.inl ⟨by rfl, ?hyy⟩) HS0 ?_
  case hyy => (intro w' hSw; (try dsimp only at hSw); go_simp)
  try simp only [Act.put, List.getElem_toArray, List.getElem_cons_succ, List.getElem_cons_zero, List.setIfInBounds_toArray, List.set_cons_zero, List.set_cons_succ]
  refine Lt.take (i := 10) (v := .int .i64 e) rfl (by kernel_rfl) (by kernel_rfl) (by kernel_rfl) rfl (by kernel_rfl) (by kernel_rfl) (fun _ _ _ h => h) (Or.inl ⟨by rfl, ?hyy⟩) HS0 ?_
  case hyy => (intro w' hSw; (try dsimp only at hSw); go_simp)
  try simp only [Act.put, List.getElem_toArray, List.getElem_cons_succ, List.getElem_cons_zero, List.setIfInBounds_toArray, List.set_cons_zero, List.set_cons_succ]
  refine Lt.one (i := 6) (by kernel_rfl) rfl rfl ?_
  refine call_step 28 #[.int .i64 a, .int .i64 b, .int .i64 c] (by kernel_rfl) (CL.out _) ?_
  rintro e w1 ⟨rfl, hb1⟩
  refine ⟨_, rfl, fun _ => HS.out _ (bl_via (bl_drew (bl_refl _)) hb1), ?_⟩
  try simp only [Act.put, List.getElem_toArray, List.getElem_cons_succ, List.getElem_cons_zero, List.setIfInBounds_toArray, List.set_cons_zero, List.set_cons_succ]
  refine Lt.one (i := 11) (by kernel_rfl) rfl rfl ?_
  refine call_step 28 #[.int .i64 d, .int .i64 e, .int .i64 0] (by kernel_rfl) (CM.out _) ?_
  rintro e w2 ⟨rfl, hb2⟩
  refine ⟨_, rfl, fun _ => HS.out _ (bl_via (bl_via (bl_drew (bl_refl _)) hb1) hb2), ?_⟩
  try simp only [Act.put, List.getElem_toArray, List.getElem_cons_succ, List.getElem_cons_zero, List.setIfInBounds_toArray, List.set_cons_zero, List.set_cons_succ]
  have HB2 : Hid (Below W0.heap.size W0 w2) := bl_via (bl_via (bl_drew (bl_refl _)) hb1) hb2
  have BL : Hid (Bx w2 (w.heap.size + 1) a b c ∧ Bx w2 (w.heap.size + 1 + 1) d e f ∧ Bx w2 (w.heap.size + 1 + 1 + 1) 0 0 0 ∧ w2.cell? ⟨w.heap.size, 0, none⟩ = some (.int .i64 x) ∧ w2.cell? ⟨w.heap.size, 1, none⟩ = some (.int .i64 y)) := ⟨HX.out.1.kept HB2.out, HX.out.2.1.kept HB2.out, HX.out.2.2.1.kept HB2.out, cl_kept HB2.out HX.out.2.2.2.1, cl_kept HB2.out HX.out.2.2.2.2.1⟩
  obtain ⟨⟨u0, u1, u2⟩, uf⟩ := BL.out.1
  have g0 := uf 0
  have g1 := uf 1
  have g2 := uf 2
  clear hb1 hb2
  refine Lt.one (i := 12) (by kernel_rfl) rfl rfl ?_
  refine skip_step (w' := (((w2.setCell ⟨w.heap.size + 1, 0, none⟩ (.int .i64 A)).setCell ⟨w.heap.size + 1, 1, none⟩ (.int .i64 B)).setCell ⟨w.heap.size + 1, 2, none⟩ (.int .i64 C))) (by first | go_simp | simp [go_sem, u0, u1, u2, g0, g1, g2]) ?_
  refine ⟨fun h => absurd h (by decide), ?_⟩
  try simp only [Act.put, List.getElem_toArray, List.getElem_cons_succ, List.getElem_cons_zero]
  have BM := (BL.out.2.1.far (show w.heap.size + 1 + 1 ≠ w.heap.size + 1 by omega) (.int .i64 A) (.int .i64 B) (.int .i64 C))
  have BL2 := (BL.out.1.set3 A B C)
  clear u0 u1 u2 uf g0 g1 g2
  obtain ⟨⟨u0, u1, u2⟩, uf⟩ := BM
  have g0 := uf 0
  have g1 := uf 1
  have g2 := uf 2
  refine Lt.one (i := 13) (by kernel_rfl) rfl rfl ?_
  refine skip_step (w' := ((((((w2.setCell ⟨w.heap.size + 1, 0, none⟩ (.int .i64 A)).setCell ⟨w.heap.size + 1, 1, none⟩ (.int .i64 B)).setCell ⟨w.heap.size + 1, 2, none⟩ (.int .i64 C)).setCell ⟨w.heap.size + 1 + 1, 0, none⟩ (.int .i64 D)).setCell ⟨w.heap.size + 1 + 1, 1, none⟩ (.int .i64 E)).setCell ⟨w.heap.size + 1 + 1, 2, none⟩ (.int .i64 F))) (by first | go_simp | simp [go_sem, u0, u1, u2, g0, g1, g2]) ?_
  refine ⟨fun h => absurd h (by decide), ?_⟩
  try simp only [Act.put, List.getElem_toArray, List.getElem_cons_succ, List.getElem_cons_zero]
  refine Lt.done (by kernel_rfl) ?_
  have HW : Hid (Bx (((((((w2.setCell ⟨w.heap.size + 1, 0, none⟩ (.int .i64 A)).setCell ⟨w.heap.size + 1, 1, none⟩ (.int .i64 B)).setCell ⟨w.heap.size + 1, 2, none⟩ (.int .i64 C)).setCell ⟨w.heap.size + 1 + 1, 0, none⟩ (.int .i64 D)).setCell ⟨w.heap.size + 1 + 1, 1, none⟩ (.int .i64 E)).setCell ⟨w.heap.size + 1 + 1, 2, none⟩ (.int .i64 F))) (w.heap.size + 1) A B C ∧ Bx (((((((w2.setCell ⟨w.heap.size + 1, 0, none⟩ (.int .i64 A)).setCell ⟨w.heap.size + 1, 1, none⟩ (.int .i64 B)).setCell ⟨w.heap.size + 1, 2, none⟩ (.int .i64 C)).setCell ⟨w.heap.size + 1 + 1, 0, none⟩ (.int .i64 D)).setCell ⟨w.heap.size + 1 + 1, 1, none⟩ (.int .i64 E)).setCell ⟨w.heap.size + 1 + 1, 2, none⟩ (.int .i64 F))) (w.heap.size + 1 + 1) D E F ∧ Bx (((((((w2.setCell ⟨w.heap.size + 1, 0, none⟩ (.int .i64 A)).setCell ⟨w.heap.size + 1, 1, none⟩ (.int .i64 B)).setCell ⟨w.heap.size + 1, 2, none⟩ (.int .i64 C)).setCell ⟨w.heap.size + 1 + 1, 0, none⟩ (.int .i64 D)).setCell ⟨w.heap.size + 1 + 1, 1, none⟩ (.int .i64 E)).setCell ⟨w.heap.size + 1 + 1, 2, none⟩ (.int .i64 F))) (w.heap.size + 1 + 1 + 1) 0 0 0 ∧ (((((((w2.setCell ⟨w.heap.size + 1, 0, none⟩ (.int .i64 A)).setCell ⟨w.heap.size + 1, 1, none⟩ (.int .i64 B)).setCell ⟨w.heap.size + 1, 2, none⟩ (.int .i64 C)).setCell ⟨w.heap.size + 1 + 1, 0, none⟩ (.int .i64 D)).setCell ⟨w.heap.size + 1 + 1, 1, none⟩ (.int .i64 E)).setCell ⟨w.heap.size + 1 + 1, 2, none⟩ (.int .i64 F))).cell? ⟨w.heap.size, 0, none⟩ = some (.int .i64 x) ∧ (((((((w2.setCell ⟨w.heap.size + 1, 0, none⟩ (.int .i64 A)).setCell ⟨w.heap.size + 1, 1, none⟩ (.int .i64 B)).setCell ⟨w.heap.size + 1, 2, none⟩ (.int .i64 C)).setCell ⟨w.heap.size + 1 + 1, 0, none⟩ (.int .i64 D)).setCell ⟨w.heap.size + 1 + 1, 1, none⟩ (.int .i64 E)).setCell ⟨w.heap.size + 1 + 1, 2, none⟩ (.int .i64 F))).cell? ⟨w.heap.size, 1, none⟩ = some (.int .i64 y) ∧ Below w.heap.size w (((((((w2.setCell ⟨w.heap.size + 1, 0, none⟩ (.int .i64 A)).setCell ⟨w.heap.size + 1, 1, none⟩ (.int .i64 B)).setCell ⟨w.heap.size + 1, 2, none⟩ (.int .i64 C)).setCell ⟨w.heap.size + 1 + 1, 0, none⟩ (.int .i64 D)).setCell ⟨w.heap.size + 1 + 1, 1, none⟩ (.int .i64 E)).setCell ⟨w.heap.size + 1 + 1, 2, none⟩ (.int .i64 F)))) := ⟨BL2.far (by omega) _ _ _, Bx.set3 ⟨⟨u0, u1, u2⟩, uf⟩ D E F, (BL.out.2.2.1.far (by omega) _ _ _).far (by omega) _ _ _, cell_far (cell_far BL.out.2.2.2.1 (by omega) _ _ _) (by omega) _ _ _, cell_far (cell_far BL.out.2.2.2.2 (by omega) _ _ _) (by omega) _ _ _, bl_set3 (bl_set3 (bl_via HX.out.2.2.2.2.2 HB2.out) (by omega)) (by omega)⟩
  clear BL2 u0 u1 u2 uf g0 g1 g2 BL HB2
  generalize ((((((w2.setCell ⟨w.heap.size + 1, 0, none⟩ (.int .i64 A)).setCell ⟨w.heap.size + 1, 1, none⟩ (.int .i64 B)).setCell ⟨w.heap.size + 1, 2, none⟩ (.int .i64 C)).setCell ⟨w.heap.size + 1 + 1, 0, none⟩ (.int .i64 D)).setCell ⟨w.heap.size + 1 + 1, 1, none⟩ (.int .i64 E)).setCell ⟨w.heap.size + 1 + 1, 2, none⟩ (.int .i64 F)) = w3 at HW ⊢
  obtain ⟨⟨⟨c0, c1, c2⟩, _⟩, ⟨⟨d0, d1, d2⟩, _⟩, hx, p0, p1, hbw⟩ := HW.out
  have HB : Hid (Below w.heap.size w w3) := hbw
  have zp := World.block_lt_of_cell? _ _ p0
  have zc := World.block_lt_of_cell? _ _ c0
  have zd := World.block_lt_of_cell? _ _ d0
  clear HW hbw
  obtain ⟨⟨r0, r1, r2⟩, hf⟩ := hx
  have f0 := hf 0
  have f1 := hf 1
  have f2 := hf 2
  have RD : Hid (Rd w3 (w.heap.size + 1 + 1 + 1)) := Bx.rd ⟨⟨r0, r1, r2⟩, hf⟩
  clear hf
  go_wp2
  go_region
  go_wp2
  refine bodyPost_ret (v := .tuple #[.agg #[_, _, _], _]) (by simp [results, Try.results17, go_sem, RD.out.1, RD.out.2.1, RD.out.2.2]) rfl ⟨rfl, ?_⟩
  exact bl_drew (bl_set3 HB.out (by omega))
set_option maxRecDepth 100000 in
set_option maxHeartbeats 6400000 in
theorem acrossOf17_ok (x y a b c d e f A B C D E F dx q1 q2 dn q3 q4 q5 up q6 q7 q8 mx q9 qa my r1 r2 qb qc r3 : Int) (w : World) (bx : bd 1000 x) (by_ : bd 1000 y) (bA : bd 1000 A) (bB : bd 1000 B) (bC : bd 1000 C) (bD : bd 1000 D) (bE : bd 1000 E)
    (hdx : dx = -E) (hq1 : q1 = A * dx) (hq2 : q2 = B * D) (hdn : dn = q1 + q2) (hq3 : q3 = A * x) (hq4 : q4 = C - q3) (hq5 : q5 = B * y) (hup : up = q4 - q5) (hq6 : q6 = 2 * dn) (hq7 : q7 = q6 * x) (hq8 : q8 = up * dx) (hmx : mx = q7 + q8) (hq9 : q9 = q6 * y) (hqa : qa = up * D) (hmy : my = q9 + qa) (hr1 : r1 = q6 * dx) (hr2 : r2 = q6 * D) (hqb : qb = dx * mx) (hqc : qc = D * my) (hr3 : r3 = qb + qc) (hz : dn ≠ 0) (hn : ¬ (r1 = 0 ∧ r2 = 0))
    (CL : Hid (∀ W : World, Calls Try.prog 28 #[.int .i64 a, .int .i64 b, .int .i64 c] W fun e w' => e = .returned (.agg #[.int .i64 A, .int .i64 B, .int .i64 C]) ∧ Below W.heap.size W w'))
    (CM : Hid (∀ W : World, Calls Try.prog 28 #[.int .i64 d, .int .i64 e, .int .i64 0] W fun e w' => e = .returned (.agg #[.int .i64 D, .int .i64 E, .int .i64 F]) ∧ Below W.heap.size W w')) :
    Calls Try.prog 17 #[pt x y, st a b c, st d e f] w fun e w' => e = .returned (.tuple #[frm r1 r2 r3, .bool true]) ∧ Below w.heap.size w w' := by
  have bdx : bd 1000 dx := by rw [hdx]; exact bd_up (bd_neg bE) (by omega)
  have edx : wrap64 (-E) = dx := by rw [← hdx]; exact w64 _ (by have := bdx; unfold bd at this; omega)
  have idx : IntKind.i64.wrap (-E) = dx := (i64w _).trans edx
  have bq1 : bd 1000000 q1 := by rw [hq1]; exact bd_up (bd_mul bA bdx) (by omega)
  have eq1 : wrap64 (A * dx) = q1 := by rw [← hq1]; exact w64 _ (by have := bq1; unfold bd at this; omega)
  have iq1 : IntKind.i64.wrap (A * dx) = q1 := (i64w _).trans eq1
  have bq2 : bd 1000000 q2 := by rw [hq2]; exact bd_up (bd_mul bB bD) (by omega)
  have eq2 : wrap64 (B * D) = q2 := by rw [← hq2]; exact w64 _ (by have := bq2; unfold bd at this; omega)
  have iq2 : IntKind.i64.wrap (B * D) = q2 := (i64w _).trans eq2
  have bdn : bd 2000000 dn := by rw [hdn]; exact bd_up (bd_add bq1 bq2) (by omega)
  have edn : wrap64 (q1 + q2) = dn := by rw [← hdn]; exact w64 _ (by have := bdn; unfold bd at this; omega)
  have idn : IntKind.i64.wrap (q1 + q2) = dn := (i64w _).trans edn
  have bq3 : bd 1000000 q3 := by rw [hq3]; exact bd_up (bd_mul bA bx) (by omega)
  have eq3 : wrap64 (A * x) = q3 := by rw [← hq3]; exact w64 _ (by have := bq3; unfold bd at this; omega)
  have iq3 : IntKind.i64.wrap (A * x) = q3 := (i64w _).trans eq3
  have bq4 : bd 1001000 q4 := by rw [hq4]; exact bd_up (bd_sub bC bq3) (by omega)
  have eq4 : wrap64 (C - q3) = q4 := by rw [← hq4]; exact w64 _ (by have := bq4; unfold bd at this; omega)
  have iq4 : IntKind.i64.wrap (C - q3) = q4 := (i64w _).trans eq4
  have bq5 : bd 1000000 q5 := by rw [hq5]; exact bd_up (bd_mul bB by_) (by omega)
  have eq5 : wrap64 (B * y) = q5 := by rw [← hq5]; exact w64 _ (by have := bq5; unfold bd at this; omega)
  have iq5 : IntKind.i64.wrap (B * y) = q5 := (i64w _).trans eq5
  have bup : bd 2001000 up := by rw [hup]; exact bd_up (bd_sub bq4 bq5) (by omega)
  have eup : wrap64 (q4 - q5) = up := by rw [← hup]; exact w64 _ (by have := bup; unfold bd at this; omega)
  have iup : IntKind.i64.wrap (q4 - q5) = up := (i64w _).trans eup
  have bq6 : bd 4000000 q6 := by rw [hq6]; have := bdn; unfold bd at *; omega
  have eq6 : wrap64 (2 * dn) = q6 := by rw [← hq6]; exact w64 _ (by have := bq6; unfold bd at this; omega)
  have iq6 : IntKind.i64.wrap (2 * dn) = q6 := (i64w _).trans eq6
  have bq7 : bd 4000000000 q7 := by rw [hq7]; exact bd_up (bd_mul bq6 bx) (by omega)
  have eq7 : wrap64 (q6 * x) = q7 := by rw [← hq7]; exact w64 _ (by have := bq7; unfold bd at this; omega)
  have iq7 : IntKind.i64.wrap (q6 * x) = q7 := (i64w _).trans eq7
  have bq8 : bd 2001000000 q8 := by rw [hq8]; exact bd_up (bd_mul bup bdx) (by omega)
  have eq8 : wrap64 (up * dx) = q8 := by rw [← hq8]; exact w64 _ (by have := bq8; unfold bd at this; omega)
  have iq8 : IntKind.i64.wrap (up * dx) = q8 := (i64w _).trans eq8
  have bmx : bd 6001000000 mx := by rw [hmx]; exact bd_up (bd_add bq7 bq8) (by omega)
  have emx : wrap64 (q7 + q8) = mx := by rw [← hmx]; exact w64 _ (by have := bmx; unfold bd at this; omega)
  have imx : IntKind.i64.wrap (q7 + q8) = mx := (i64w _).trans emx
  have bq9 : bd 4000000000 q9 := by rw [hq9]; exact bd_up (bd_mul bq6 by_) (by omega)
  have eq9 : wrap64 (q6 * y) = q9 := by rw [← hq9]; exact w64 _ (by have := bq9; unfold bd at this; omega)
  have iq9 : IntKind.i64.wrap (q6 * y) = q9 := (i64w _).trans eq9
  have bqa : bd 2001000000 qa := by rw [hqa]; exact bd_up (bd_mul bup bD) (by omega)
  have eqa : wrap64 (up * D) = qa := by rw [← hqa]; exact w64 _ (by have := bqa; unfold bd at this; omega)
  have iqa : IntKind.i64.wrap (up * D) = qa := (i64w _).trans eqa
  have bmy : bd 6001000000 my := by rw [hmy]; exact bd_up (bd_add bq9 bqa) (by omega)
  have emy : wrap64 (q9 + qa) = my := by rw [← hmy]; exact w64 _ (by have := bmy; unfold bd at this; omega)
  have imy : IntKind.i64.wrap (q9 + qa) = my := (i64w _).trans emy
  have br1 : bd 4000000000 r1 := by rw [hr1]; exact bd_up (bd_mul bq6 bdx) (by omega)
  have er1 : wrap64 (q6 * dx) = r1 := by rw [← hr1]; exact w64 _ (by have := br1; unfold bd at this; omega)
  have ir1 : IntKind.i64.wrap (q6 * dx) = r1 := (i64w _).trans er1
  have br2 : bd 4000000000 r2 := by rw [hr2]; exact bd_up (bd_mul bq6 bD) (by omega)
  have er2 : wrap64 (q6 * D) = r2 := by rw [← hr2]; exact w64 _ (by have := br2; unfold bd at this; omega)
  have ir2 : IntKind.i64.wrap (q6 * D) = r2 := (i64w _).trans er2
  have bqb : bd 6001000000000 qb := by rw [hqb]; exact bd_up (bd_mul bdx bmx) (by omega)
  have eqb : wrap64 (dx * mx) = qb := by rw [← hqb]; exact w64 _ (by have := bqb; unfold bd at this; omega)
  have iqb : IntKind.i64.wrap (dx * mx) = qb := (i64w _).trans eqb
  have bqc : bd 6001000000000 qc := by rw [hqc]; exact bd_up (bd_mul bD bmy) (by omega)
  have eqc : wrap64 (D * my) = qc := by rw [← hqc]; exact w64 _ (by have := bqc; unfold bd at this; omega)
  have iqc : IntKind.i64.wrap (D * my) = qc := (i64w _).trans eqc
  have br3 : bd 12002000000000 r3 := by rw [hr3]; exact bd_up (bd_add bqb bqc) (by omega)
  have er3 : wrap64 (qb + qc) = r3 := by rw [← hr3]; exact w64 _ (by have := br3; unfold bd at this; omega)
  have ir3 : IntKind.i64.wrap (qb + qc) = r3 := (i64w _).trans er3
  have CF : Hid (∀ W : World, Calls Try.prog 28 #[.int .i64 r1, .int .i64 r2, .int .i64 r3] W fun e w' => e = .returned (frm r1 r2 r3) ∧ Below W.heap.size W w') := fun W => inForm28 r1 r2 r3 W hn (by have := br1; unfold sm; unfold bd at this; omega) (by have := br2; unfold sm; unfold bd at this; omega) (by have := br3; unfold sm; unfold bd at this; omega)
  obtain ⟨G1, G2, G3, hG⟩ : ∃ G1 G2 G3, frm r1 r2 r3 = .agg #[.int .i64 G1, .int .i64 G2, .int .i64 G3] := ⟨_, _, _, rfl⟩
  rw [hG] at CF ⊢
  clear hG hn
  have qz : (dn == 0) = false := by simpa using hz
  clear hdx hq1 hq2 hdn hq3 hq4 hq5 hup hq6 hq7 hq8 hmx hq9 hqa hmy hr1 hr2 hqb hqc hr3 bdx bq1 bq2 bdn bq3 bq4 bq5 bup bq6 bq7 bq8 bmx bq9 bqa bmy br1 br2 bqb bqc br3 bx bA bB bC bD bE by_ hz
  unfold pt st
  go_enter Try.func17, Try.ntmps17
  go_wp2
  obtain ⟨W0, hW0⟩ : ∃ W0, W0 = ((((w.alloc (.cells #[.int .i64 x, .int .i64 y] 23)).alloc (.cells #[.int .i64 a, .int .i64 b, .int .i64 c] 25)).alloc (.cells #[.int .i64 d, .int .i64 e, .int .i64 f] 25)).alloc (.cells #[.int .i64 0, .int .i64 0, .int .i64 0] 25)) := ⟨_, rfl⟩
  have HX : Hid (Bx W0 (w.heap.size + 1) a b c ∧ Bx W0 (w.heap.size + 1 + 1) d e f ∧ Bx W0 (w.heap.size + 1 + 1 + 1) 0 0 0 ∧ W0.cell? ⟨w.heap.size, 0, none⟩ = some (.int .i64 x) ∧ W0.cell? ⟨w.heap.size, 1, none⟩ = some (.int .i64 y) ∧ Below w.heap.size w W0) := by
    rw [hW0]
    refine ⟨?_, ?_, ?_, by simp [go_sem], by simp [go_sem], bl_alloc (bl_alloc (bl_alloc (bl_alloc (bl_refl _))))⟩
    · have := ((bx_old (w.alloc (.cells #[.int .i64 x, .int .i64 y] 23)) 25 a b c).kept (bl_alloc (o := .cells #[.int .i64 d, .int .i64 e, .int .i64 f] 25) (bl_refl _))).kept (bl_alloc (o := .cells #[.int .i64 0, .int .i64 0, .int .i64 0] 25) (bl_refl _))
      simpa using this
    · have := (bx_old ((w.alloc (.cells #[.int .i64 x, .int .i64 y] 23)).alloc (.cells #[.int .i64 a, .int .i64 b, .int .i64 c] 25)) 25 d e f).kept (bl_alloc (o := .cells #[.int .i64 0, .int .i64 0, .int .i64 0] 25) (bl_refl _))
      simpa using this
    · have := bx_old (((w.alloc (.cells #[.int .i64 x, .int .i64 y] 23)).alloc (.cells #[.int .i64 a, .int .i64 b, .int .i64 c] 25)).alloc (.cells #[.int .i64 d, .int .i64 e, .int .i64 f] 25)) 25 0 0 0
      simpa using this
  rw [← hW0]
  clear hW0
  have HS : Hid (∀ w', Below W0.heap.size W0 w' → w'.cell? ⟨w.heap.size + 1, 0, none⟩ = some (.int .i64 a) ∧ w'.cell? ⟨w.heap.size + 1, 1, none⟩ = some (.int .i64 b) ∧ w'.cell? ⟨w.heap.size + 1, 2, none⟩ = some (.int .i64 c) ∧ w'.cell? ⟨w.heap.size + 1 + 1, 0, none⟩ = some (.int .i64 d) ∧ w'.cell? ⟨w.heap.size + 1 + 1, 1, none⟩ = some (.int .i64 e)) := fun w' hw => ⟨cl_kept hw HX.out.1.1.1, cl_kept hw HX.out.1.1.2.1, cl_kept hw HX.out.1.1.2.2, cl_kept hw HX.out.2.1.1.1, cl_kept hw HX.out.2.1.1.2.1⟩
  have HS0 := HS.out W0.drew (bl_drew (bl_refl _))
  refine wp_region_late (S := fun w' => w'.cell? ⟨w.heap.size + 1, 0, none⟩ = some (.int .i64 a) ∧ w'.cell? ⟨w.heap.size + 1, 1, none⟩ = some (.int .i64 b) ∧ w'.cell? ⟨w.heap.size + 1, 2, none⟩ = some (.int .i64 c) ∧ w'.cell? ⟨w.heap.size + 1 + 1, 0, none⟩ = some (.int .i64 d) ∧ w'.cell? ⟨w.heap.size + 1 + 1, 1, none⟩ = some (.int .i64 e)) (late := fun j => decide (12 ≤ j)) (by kernel_rfl) ?_
  refine Lt.take (i := 0) (v := .pointer (some ⟨w.heap.size + 1, 0, none⟩)) rfl (by kernel_rfl) (by kernel_rfl) (by kernel_rfl) rfl (by kernel_rfl) (by kernel_rfl) (fun _ _ _ h => h) (Or.inl ⟨by rfl, ?hyy⟩) HS0 ?_
  case hyy => (intro w' hSw; (try dsimp only at hSw); go_simp)
  try simp only [Act.put, List.getElem_toArray, List.getElem_cons_zero, List.setIfInBounds_toArray, List.set_cons_zero, List.set_cons_succ]
  refine Lt.take (i := 1) (v := .int .i64 a) rfl (by kernel_rfl) (by kernel_rfl) (by kernel_rfl) rfl (by kernel_rfl) (by kernel_rfl) (fun _ _ _ h => h) (Or.inl ⟨by rfl, ?hyy⟩) HS0 ?_
  case hyy => (intro w' hSw; (try dsimp only at hSw); go_simp)
  try simp only [Act.put, List.getElem_toArray, List.getElem_cons_succ, List.getElem_cons_zero, List.setIfInBounds_toArray, List.set_cons_zero, List.set_cons_succ]
  refine Lt.take (i := 2) (v := .pointer (some ⟨w.heap.size + 1, 1, none⟩)) rfl (by kernel_rfl) (by kernel_rfl) (by kernel_rfl) rfl (by kernel_rfl) (by kernel_rfl) (fun _ _ _ h => h) (Or.inl ⟨by rfl, ?hyy⟩) HS0 ?_
  case hyy => (intro w' hSw; (try dsimp only at hSw); go_simp)
  try simp only [Act.put, List.getElem_toArray, List.getElem_cons_succ, List.getElem_cons_zero, List.setIfInBounds_toArray, List.set_cons_zero, List.set_cons_succ]
  refine Lt.take (i := 3) (v := .int .i64 b) rfl (by kernel_rfl) (by kernel_rfl) (by kernel_rfl) rfl (by kernel_rfl) (by kernel_rfl) (fun _ _ _ h => h) (Or.inl ⟨by rfl, ?hyy⟩) HS0 ?_
  case hyy => (intro w' hSw; (try dsimp only at hSw); go_simp)
  try simp only [Act.put, List.getElem_toArray, List.getElem_cons_succ, List.getElem_cons_zero, List.setIfInBounds_toArray, List.set_cons_zero, List.set_cons_succ]
  refine Lt.take (i := 4) (v := .pointer (some ⟨w.heap.size + 1, 2, none⟩)) rfl (by kernel_rfl) (by kernel_rfl) (by kernel_rfl) rfl (by kernel_rfl) (by kernel_rfl) (fun _ _ _ h => h) (Or.inl ⟨by rfl, ?hyy⟩) HS0 ?_
  case hyy => (intro w' hSw; (try dsimp only at hSw); go_simp)
  try simp only [Act.put, List.getElem_toArray, List.getElem_cons_succ, List.getElem_cons_zero, List.setIfInBounds_toArray, List.set_cons_zero, List.set_cons_succ]
  refine Lt.take (i := 5) (v := .int .i64 c) rfl (by kernel_rfl) (by kernel_rfl) (by kernel_rfl) rfl (by kernel_rfl) (by kernel_rfl) (fun _ _ _ h => h) (Or.inl ⟨by rfl, ?hyy⟩) HS0 ?_
  case hyy => (intro w' hSw; (try dsimp only at hSw); go_simp)
  try simp only [Act.put, List.getElem_toArray, List.getElem_cons_succ, List.getElem_cons_zero, List.setIfInBounds_toArray, List.set_cons_zero, List.set_cons_succ]
  refine Lt.take (i := 7) (v := .pointer (some ⟨w.heap.size + 1 + 1, 0, none⟩)) rfl (by kernel_rfl) (by kernel_rfl) (by kernel_rfl) rfl (by kernel_rfl) (by kernel_rfl) (fun _ _ _ h => h) (Or.inl ⟨by rfl, ?hyy⟩) HS0 ?_
  case hyy => (intro w' hSw; (try dsimp only at hSw); go_simp)
  try simp only [Act.put, List.getElem_toArray, List.getElem_cons_succ, List.getElem_cons_zero, List.setIfInBounds_toArray, List.set_cons_zero, List.set_cons_succ]
  refine Lt.take (i := 8) (v := .int .i64 d) rfl (by kernel_rfl) (by kernel_rfl) (by kernel_rfl) rfl (by kernel_rfl) (by kernel_rfl) (fun _ _ _ h => h) (Or.inl ⟨by rfl, ?hyy⟩) HS0 ?_
  case hyy => (intro w' hSw; (try dsimp only at hSw); go_simp)
  try simp only [Act.put, List.getElem_toArray, List.getElem_cons_succ, List.getElem_cons_zero, List.setIfInBounds_toArray, List.set_cons_zero, List.set_cons_succ]
  refine Lt.take (i := 9) (v := .pointer (some ⟨w.heap.size + 1 + 1, 1, none⟩)) rfl (by kernel_rfl) (by kernel_rfl) (by kernel_rfl) rfl (by kernel_rfl) (by kernel_rfl) (fun _ _ _ h => h) (Or.inl ⟨by rfl, ?hyy⟩) HS0 ?_
  case hyy => (intro w' hSw; (try dsimp only at hSw); go_simp)
  try simp only [Act.put, List.getElem_toArray, List.getElem_cons_succ, List.getElem_cons_zero, List.setIfInBounds_toArray, List.set_cons_zero, List.set_cons_succ]
  refine Lt.take (i := 10) (v := .int .i64 e) rfl (by kernel_rfl) (by kernel_rfl) (by kernel_rfl) rfl (by kernel_rfl) (by kernel_rfl) (fun _ _ _ h => h) (Or.inl ⟨by rfl, ?hyy⟩) HS0 ?_
  case hyy => (intro w' hSw; (try dsimp only at hSw); go_simp)
  try simp only [Act.put, List.getElem_toArray, List.getElem_cons_succ, List.getElem_cons_zero, List.setIfInBounds_toArray, List.set_cons_zero, List.set_cons_succ]
  refine Lt.one (i := 6) (by kernel_rfl) rfl rfl ?_
  refine call_step 28 #[.int .i64 a, .int .i64 b, .int .i64 c] (by kernel_rfl) (CL.out _) ?_
  rintro e w1 ⟨rfl, hb1⟩
  refine ⟨_, rfl, fun _ => HS.out _ (bl_via (bl_drew (bl_refl _)) hb1), ?_⟩
  try simp only [Act.put, List.getElem_toArray, List.getElem_cons_succ, List.getElem_cons_zero, List.setIfInBounds_toArray, List.set_cons_zero, List.set_cons_succ]
  refine Lt.one (i := 11) (by kernel_rfl) rfl rfl ?_
  refine call_step 28 #[.int .i64 d, .int .i64 e, .int .i64 0] (by kernel_rfl) (CM.out _) ?_
  rintro e w2 ⟨rfl, hb2⟩
  refine ⟨_, rfl, fun _ => HS.out _ (bl_via (bl_via (bl_drew (bl_refl _)) hb1) hb2), ?_⟩
  try simp only [Act.put, List.getElem_toArray, List.getElem_cons_succ, List.getElem_cons_zero, List.setIfInBounds_toArray, List.set_cons_zero, List.set_cons_succ]
  have HB2 : Hid (Below W0.heap.size W0 w2) := bl_via (bl_via (bl_drew (bl_refl _)) hb1) hb2
  have BL : Hid (Bx w2 (w.heap.size + 1) a b c ∧ Bx w2 (w.heap.size + 1 + 1) d e f ∧ Bx w2 (w.heap.size + 1 + 1 + 1) 0 0 0 ∧ w2.cell? ⟨w.heap.size, 0, none⟩ = some (.int .i64 x) ∧ w2.cell? ⟨w.heap.size, 1, none⟩ = some (.int .i64 y)) := ⟨HX.out.1.kept HB2.out, HX.out.2.1.kept HB2.out, HX.out.2.2.1.kept HB2.out, cl_kept HB2.out HX.out.2.2.2.1, cl_kept HB2.out HX.out.2.2.2.2.1⟩
  obtain ⟨⟨u0, u1, u2⟩, uf⟩ := BL.out.1
  have g0 := uf 0
  have g1 := uf 1
  have g2 := uf 2
  clear hb1 hb2
  refine Lt.one (i := 12) (by kernel_rfl) rfl rfl ?_
  refine skip_step (w' := (((w2.setCell ⟨w.heap.size + 1, 0, none⟩ (.int .i64 A)).setCell ⟨w.heap.size + 1, 1, none⟩ (.int .i64 B)).setCell ⟨w.heap.size + 1, 2, none⟩ (.int .i64 C))) (by first | go_simp | simp [go_sem, u0, u1, u2, g0, g1, g2]) ?_
  refine ⟨fun h => absurd h (by decide), ?_⟩
  try simp only [Act.put, List.getElem_toArray, List.getElem_cons_succ, List.getElem_cons_zero]
  have BM := (BL.out.2.1.far (show w.heap.size + 1 + 1 ≠ w.heap.size + 1 by omega) (.int .i64 A) (.int .i64 B) (.int .i64 C))
  have BL2 := (BL.out.1.set3 A B C)
  clear u0 u1 u2 uf g0 g1 g2
  obtain ⟨⟨u0, u1, u2⟩, uf⟩ := BM
  have g0 := uf 0
  have g1 := uf 1
  have g2 := uf 2
  refine Lt.one (i := 13) (by kernel_rfl) rfl rfl ?_
  refine skip_step (w' := ((((((w2.setCell ⟨w.heap.size + 1, 0, none⟩ (.int .i64 A)).setCell ⟨w.heap.size + 1, 1, none⟩ (.int .i64 B)).setCell ⟨w.heap.size + 1, 2, none⟩ (.int .i64 C)).setCell ⟨w.heap.size + 1 + 1, 0, none⟩ (.int .i64 D)).setCell ⟨w.heap.size + 1 + 1, 1, none⟩ (.int .i64 E)).setCell ⟨w.heap.size + 1 + 1, 2, none⟩ (.int .i64 F))) (by first | go_simp | simp [go_sem, u0, u1, u2, g0, g1, g2]) ?_
  refine ⟨fun h => absurd h (by decide), ?_⟩
  try simp only [Act.put, List.getElem_toArray, List.getElem_cons_succ, List.getElem_cons_zero]
  refine Lt.done (by kernel_rfl) ?_
  have HW : Hid (Bx (((((((w2.setCell ⟨w.heap.size + 1, 0, none⟩ (.int .i64 A)).setCell ⟨w.heap.size + 1, 1, none⟩ (.int .i64 B)).setCell ⟨w.heap.size + 1, 2, none⟩ (.int .i64 C)).setCell ⟨w.heap.size + 1 + 1, 0, none⟩ (.int .i64 D)).setCell ⟨w.heap.size + 1 + 1, 1, none⟩ (.int .i64 E)).setCell ⟨w.heap.size + 1 + 1, 2, none⟩ (.int .i64 F))) (w.heap.size + 1) A B C ∧ Bx (((((((w2.setCell ⟨w.heap.size + 1, 0, none⟩ (.int .i64 A)).setCell ⟨w.heap.size + 1, 1, none⟩ (.int .i64 B)).setCell ⟨w.heap.size + 1, 2, none⟩ (.int .i64 C)).setCell ⟨w.heap.size + 1 + 1, 0, none⟩ (.int .i64 D)).setCell ⟨w.heap.size + 1 + 1, 1, none⟩ (.int .i64 E)).setCell ⟨w.heap.size + 1 + 1, 2, none⟩ (.int .i64 F))) (w.heap.size + 1 + 1) D E F ∧ Bx (((((((w2.setCell ⟨w.heap.size + 1, 0, none⟩ (.int .i64 A)).setCell ⟨w.heap.size + 1, 1, none⟩ (.int .i64 B)).setCell ⟨w.heap.size + 1, 2, none⟩ (.int .i64 C)).setCell ⟨w.heap.size + 1 + 1, 0, none⟩ (.int .i64 D)).setCell ⟨w.heap.size + 1 + 1, 1, none⟩ (.int .i64 E)).setCell ⟨w.heap.size + 1 + 1, 2, none⟩ (.int .i64 F))) (w.heap.size + 1 + 1 + 1) 0 0 0 ∧ (((((((w2.setCell ⟨w.heap.size + 1, 0, none⟩ (.int .i64 A)).setCell ⟨w.heap.size + 1, 1, none⟩ (.int .i64 B)).setCell ⟨w.heap.size + 1, 2, none⟩ (.int .i64 C)).setCell ⟨w.heap.size + 1 + 1, 0, none⟩ (.int .i64 D)).setCell ⟨w.heap.size + 1 + 1, 1, none⟩ (.int .i64 E)).setCell ⟨w.heap.size + 1 + 1, 2, none⟩ (.int .i64 F))).cell? ⟨w.heap.size, 0, none⟩ = some (.int .i64 x) ∧ (((((((w2.setCell ⟨w.heap.size + 1, 0, none⟩ (.int .i64 A)).setCell ⟨w.heap.size + 1, 1, none⟩ (.int .i64 B)).setCell ⟨w.heap.size + 1, 2, none⟩ (.int .i64 C)).setCell ⟨w.heap.size + 1 + 1, 0, none⟩ (.int .i64 D)).setCell ⟨w.heap.size + 1 + 1, 1, none⟩ (.int .i64 E)).setCell ⟨w.heap.size + 1 + 1, 2, none⟩ (.int .i64 F))).cell? ⟨w.heap.size, 1, none⟩ = some (.int .i64 y) ∧ Below w.heap.size w (((((((w2.setCell ⟨w.heap.size + 1, 0, none⟩ (.int .i64 A)).setCell ⟨w.heap.size + 1, 1, none⟩ (.int .i64 B)).setCell ⟨w.heap.size + 1, 2, none⟩ (.int .i64 C)).setCell ⟨w.heap.size + 1 + 1, 0, none⟩ (.int .i64 D)).setCell ⟨w.heap.size + 1 + 1, 1, none⟩ (.int .i64 E)).setCell ⟨w.heap.size + 1 + 1, 2, none⟩ (.int .i64 F)))) := ⟨BL2.far (by omega) _ _ _, Bx.set3 ⟨⟨u0, u1, u2⟩, uf⟩ D E F, (BL.out.2.2.1.far (by omega) _ _ _).far (by omega) _ _ _, cell_far (cell_far BL.out.2.2.2.1 (by omega) _ _ _) (by omega) _ _ _, cell_far (cell_far BL.out.2.2.2.2 (by omega) _ _ _) (by omega) _ _ _, bl_set3 (bl_set3 (bl_via HX.out.2.2.2.2.2 HB2.out) (by omega)) (by omega)⟩
  clear BL2 u0 u1 u2 uf g0 g1 g2 BL HB2
  generalize ((((((w2.setCell ⟨w.heap.size + 1, 0, none⟩ (.int .i64 A)).setCell ⟨w.heap.size + 1, 1, none⟩ (.int .i64 B)).setCell ⟨w.heap.size + 1, 2, none⟩ (.int .i64 C)).setCell ⟨w.heap.size + 1 + 1, 0, none⟩ (.int .i64 D)).setCell ⟨w.heap.size + 1 + 1, 1, none⟩ (.int .i64 E)).setCell ⟨w.heap.size + 1 + 1, 2, none⟩ (.int .i64 F)) = w3 at HW ⊢
  obtain ⟨⟨⟨c0, c1, c2⟩, _⟩, ⟨⟨d0, d1, d2⟩, _⟩, hx, p0, p1, hbw⟩ := HW.out
  have HB : Hid (Below w.heap.size w w3) := hbw
  have zp := World.block_lt_of_cell? _ _ p0
  have zc := World.block_lt_of_cell? _ _ c0
  have zd := World.block_lt_of_cell? _ _ d0
  clear HW hbw
  have HX3 : Hid (Bx w3 (w.heap.size + 1 + 1 + 1) 0 0 0) := hx
  clear hx
  go_wp2
  go_region
  go_wp2
  go_region
  go_wp2_with (go_at_call 28; refine (CF.out _).mono ?_; rintro e w4 ⟨rfl, hb4⟩; have hb5 := bl_via (bl_drew (bl_drew (bl_refl w3))) hb4; have hx := HX3.out.kept hb5; have HB4 : Hid (Below w.heap.size w w4) := bl_via HB.out hb5; clear hb4 hb5; have RD : Hid (Rd w4 (w.heap.size + 1 + 1 + 1)) := hx.rd; obtain ⟨⟨r0, r1, r2⟩, hf⟩ := hx; have f0 := hf 0; have f1 := hf 1; have f2 := hf 2; have zg := World.block_lt_of_cell? _ _ r0; clear hf)
  refine bodyPost_ret (v := .tuple #[.agg #[_, _, _], _]) (by simp [results, Try.results17, go_sem, RD.out.1, RD.out.2.1, RD.out.2.2]) rfl ⟨rfl, ?_⟩
  exact bl_set3 HB4.out (by omega)
end Go.Proofs.Ytohnppjbmpaomaa
