/- The reference's HalvesOf: two folds. -/
import Derived.Test.YtohnppjbmpaomaaHlof
namespace Go.Proofs.Ytohnppjbmpaomaa
open Go.RowKit

set_option maxRecDepth 100000 in
set_option maxHeartbeats 6400000 in
theorem halvesOf16_twok (a b c d e f A B C D E F r G1 G2 G3 H1 H2 H3 q1 q2 tt n1 n2 nn k1 k2 kk pr x1 x2 X x3 x4 Y x5 x6 Z X2 Y2 Z2 : Int) (w : World) (bA : bd 1000 A) (bB : bd 1000 B) (bC : bd 1000 C) (bD : bd 1000 D) (bE : bd 1000 E) (bF : bd 1000 F)
    (hq1 : q1 = A * E) (hq2 : q2 = B * D) (htt : tt = q1 - q2) (hn1 : n1 = A * A) (hn2 : n2 = B * B) (hnn : nn = n1 + n2) (hk1 : k1 = D * D) (hk2 : k2 = E * E) (hkk : kk = k1 + k2) (hpr : pr = nn * kk) (hx1 : x1 = kk * A) (hx2 : x2 = r * D) (hX : X = x1 + x2) (hx3 : x3 = kk * B) (hx4 : x4 = r * E) (hY : Y = x3 + x4) (hx5 : x5 = kk * C) (hx6 : x6 = r * F) (hZ : Z = x5 + x6) (hX2 : X2 = x1 - x2) (hY2 : Y2 = x3 - x4) (hZ2 : Z2 = x5 - x6) (ρ : Nat) (hr : r = (ρ : Int)) (hρ : ρ ≤ 2000000) (hsq : pr = (ρ : Int) * (ρ : Int)) (hs : same3 A B C D E F = false) (hz : tt ≠ 0) (hwa : ¬ (X = 0 ∧ Y = 0)) (hwb : ¬ (X2 = 0 ∧ Y2 = 0)) (hG : frm X Y Z = .agg #[.int .i64 G1, .int .i64 G2, .int .i64 G3]) (hH : frm X2 Y2 Z2 = .agg #[.int .i64 H1, .int .i64 H2, .int .i64 H3]) (hls : lsS H1 H2 H3 G1 G2 G3 = false)
    (CL : Hid (∀ W : World, Calls Try.prog 28 #[.int .i64 a, .int .i64 b, .int .i64 c] W fun z w' => z = .returned (.agg #[.int .i64 A, .int .i64 B, .int .i64 C]) ∧ Below W.heap.size W w'))
    (CM : Hid (∀ W : World, Calls Try.prog 28 #[.int .i64 d, .int .i64 e, .int .i64 f] W fun z w' => z = .returned (.agg #[.int .i64 D, .int .i64 E, .int .i64 F]) ∧ Below W.heap.size W w')) :
    Calls Try.prog 16 #[st a b c, st d e f] w fun z w' => ∃ g : Nat, z = .returned (.tuple #[.slice (some ⟨g, 0, none⟩) 2 2, .int .i64 0]) ∧ (w'.cell? ⟨g, 0, none⟩ = some (.int .i64 G1) ∧ w'.cell? ⟨g, 1, none⟩ = some (.int .i64 G2) ∧ w'.cell? ⟨g, 2, none⟩ = some (.int .i64 G3) ∧ w'.cell? ⟨g, 3, none⟩ = some (.int .i64 H1) ∧ w'.cell? ⟨g, 4, none⟩ = some (.int .i64 H2) ∧ w'.cell? ⟨g, 5, none⟩ = some (.int .i64 H3)) ∧ Below w.heap.size w w' := by
  have EQ := eql25 A B C D E F
  rw [hs] at EQ
  have br : bd 2000000 r := by rw [hr]; unfold bd; omega
  have bq1 : bd 1000000 q1 := by rw [hq1]; exact bd_up (bd_mul bA bE) (by omega)
  have eq1 : wrap64 (A * E) = q1 := by rw [← hq1]; exact w64 _ (by have := bq1; unfold bd at this; omega)
  have bq2 : bd 1000000 q2 := by rw [hq2]; exact bd_up (bd_mul bB bD) (by omega)
  have eq2 : wrap64 (B * D) = q2 := by rw [← hq2]; exact w64 _ (by have := bq2; unfold bd at this; omega)
  have btt : bd 2000000 tt := by rw [htt]; exact bd_up (bd_sub bq1 bq2) (by omega)
  have ett : wrap64 (q1 - q2) = tt := by rw [← htt]; exact w64 _ (by have := btt; unfold bd at this; omega)
  have bn1 : bd 1000000 n1 := by rw [hn1]; exact bd_up (bd_mul bA bA) (by omega)
  have en1 : wrap64 (A * A) = n1 := by rw [← hn1]; exact w64 _ (by have := bn1; unfold bd at this; omega)
  have in1 : IntKind.i64.wrap (A * A) = n1 := (i64w _).trans en1
  have bn2 : bd 1000000 n2 := by rw [hn2]; exact bd_up (bd_mul bB bB) (by omega)
  have en2 : wrap64 (B * B) = n2 := by rw [← hn2]; exact w64 _ (by have := bn2; unfold bd at this; omega)
  have in2 : IntKind.i64.wrap (B * B) = n2 := (i64w _).trans en2
  have bnn : bd 2000000 nn := by rw [hnn]; exact bd_up (bd_add bn1 bn2) (by omega)
  have enn : wrap64 (n1 + n2) = nn := by rw [← hnn]; exact w64 _ (by have := bnn; unfold bd at this; omega)
  have inn : IntKind.i64.wrap (n1 + n2) = nn := (i64w _).trans enn
  have bk1 : bd 1000000 k1 := by rw [hk1]; exact bd_up (bd_mul bD bD) (by omega)
  have ek1 : wrap64 (D * D) = k1 := by rw [← hk1]; exact w64 _ (by have := bk1; unfold bd at this; omega)
  have ik1 : IntKind.i64.wrap (D * D) = k1 := (i64w _).trans ek1
  have bk2 : bd 1000000 k2 := by rw [hk2]; exact bd_up (bd_mul bE bE) (by omega)
  have ek2 : wrap64 (E * E) = k2 := by rw [← hk2]; exact w64 _ (by have := bk2; unfold bd at this; omega)
  have ik2 : IntKind.i64.wrap (E * E) = k2 := (i64w _).trans ek2
  have bkk : bd 2000000 kk := by rw [hkk]; exact bd_up (bd_add bk1 bk2) (by omega)
  have ekk : wrap64 (k1 + k2) = kk := by rw [← hkk]; exact w64 _ (by have := bkk; unfold bd at this; omega)
  have ikk : IntKind.i64.wrap (k1 + k2) = kk := (i64w _).trans ekk
  have bpr : bd 4000000000000 pr := by rw [hpr]; exact bd_up (bd_mul bnn bkk) (by omega)
  have epr : wrap64 (nn * kk) = pr := by rw [← hpr]; exact w64 _ (by have := bpr; unfold bd at this; omega)
  have bx1 : bd 2000000000 x1 := by rw [hx1]; exact bd_up (bd_mul bkk bA) (by omega)
  have ex1 : wrap64 (kk * A) = x1 := by rw [← hx1]; exact w64 _ (by have := bx1; unfold bd at this; omega)
  have bx2 : bd 2000000000 x2 := by rw [hx2]; exact bd_up (bd_mul br bD) (by omega)
  have ex2 : wrap64 (r * D) = x2 := by rw [← hx2]; exact w64 _ (by have := bx2; unfold bd at this; omega)
  have bX : bd 4000000000 X := by rw [hX]; exact bd_up (bd_add bx1 bx2) (by omega)
  have eX : wrap64 (x1 + x2) = X := by rw [← hX]; exact w64 _ (by have := bX; unfold bd at this; omega)
  have bx3 : bd 2000000000 x3 := by rw [hx3]; exact bd_up (bd_mul bkk bB) (by omega)
  have ex3 : wrap64 (kk * B) = x3 := by rw [← hx3]; exact w64 _ (by have := bx3; unfold bd at this; omega)
  have bx4 : bd 2000000000 x4 := by rw [hx4]; exact bd_up (bd_mul br bE) (by omega)
  have ex4 : wrap64 (r * E) = x4 := by rw [← hx4]; exact w64 _ (by have := bx4; unfold bd at this; omega)
  have bY : bd 4000000000 Y := by rw [hY]; exact bd_up (bd_add bx3 bx4) (by omega)
  have eY : wrap64 (x3 + x4) = Y := by rw [← hY]; exact w64 _ (by have := bY; unfold bd at this; omega)
  have bx5 : bd 2000000000 x5 := by rw [hx5]; exact bd_up (bd_mul bkk bC) (by omega)
  have ex5 : wrap64 (kk * C) = x5 := by rw [← hx5]; exact w64 _ (by have := bx5; unfold bd at this; omega)
  have bx6 : bd 2000000000 x6 := by rw [hx6]; exact bd_up (bd_mul br bF) (by omega)
  have ex6 : wrap64 (r * F) = x6 := by rw [← hx6]; exact w64 _ (by have := bx6; unfold bd at this; omega)
  have bZ : bd 4000000000 Z := by rw [hZ]; exact bd_up (bd_add bx5 bx6) (by omega)
  have eZ : wrap64 (x5 + x6) = Z := by rw [← hZ]; exact w64 _ (by have := bZ; unfold bd at this; omega)
  have bX2 : bd 4000000000 X2 := by rw [hX2]; exact bd_up (bd_sub bx1 bx2) (by omega)
  have eX2 : wrap64 (x1 - x2) = X2 := by rw [← hX2]; exact w64 _ (by have := bX2; unfold bd at this; omega)
  have bY2 : bd 4000000000 Y2 := by rw [hY2]; exact bd_up (bd_sub bx3 bx4) (by omega)
  have eY2 : wrap64 (x3 - x4) = Y2 := by rw [← hY2]; exact w64 _ (by have := bY2; unfold bd at this; omega)
  have bZ2 : bd 4000000000 Z2 := by rw [hZ2]; exact bd_up (bd_sub bx5 bx6) (by omega)
  have eZ2 : wrap64 (x5 - x6) = Z2 := by rw [← hZ2]; exact w64 _ (by have := bZ2; unfold bd at this; omega)
  have CR : Hid (∀ W : World, Calls Try.prog 35 #[.int .i64 pr] W fun z w' => z = .returned (.tuple #[.int .i64 r, .bool true]) ∧ Below W.heap.size W w') := fun W => by
    rw [hr]
    exact sqrt_yes ρ pr W hsq hρ
  have CF1 : Hid (∀ W : World, Calls Try.prog 28 #[.int .i64 X, .int .i64 Y, .int .i64 Z] W fun z w' => z = .returned (frm X Y Z) ∧ Below W.heap.size W w') := fun W => inForm28 X Y Z W hwa (by have := bX; unfold sm; unfold bd at this; omega) (by have := bY; unfold sm; unfold bd at this; omega) (by have := bZ; unfold sm; unfold bd at this; omega)
  have CF2 : Hid (∀ W : World, Calls Try.prog 28 #[.int .i64 X2, .int .i64 Y2, .int .i64 Z2] W fun z w' => z = .returned (frm X2 Y2 Z2) ∧ Below W.heap.size W w') := fun W => inForm28 X2 Y2 Z2 W hwb (by have := bX2; unfold sm; unfold bd at this; omega) (by have := bY2; unfold sm; unfold bd at this; omega) (by have := bZ2; unfold sm; unfold bd at this; omega)
  rw [hG] at CF1
  rw [hH] at CF2
  have CS : Hid (∀ W : World, Calls Try.prog 36 #[.agg #[.int .i64 H1, .int .i64 H2, .int .i64 H3], .agg #[.int .i64 G1, .int .i64 G2, .int .i64 G3]] W fun z w' => z = .returned (.bool false) ∧ Below W.heap.size W w') := fun W => by
    have := less36 H1 H2 H3 G1 G2 G3 W
    rwa [hls] at this
  have qt : (tt == 0) = false := by simpa using hz
  clear hs hz hr hsq hρ hwa hwb hG hH hls br bA bB bC bD bE bF
  clear hq1 hq2 htt hn1 hn2 hnn hk1 hk2 hkk hpr hx1 hx2 hX hx3 hx4 hY hx5 hx6 hZ hX2 hY2 hZ2 bq1 bq2 btt bn1 bn2 bnn bk1 bk2 bkk bpr bx1 bx2 bX bx3 bx4 bY bx5 bx6 bZ bX2 bY2 bZ2
  unfold st
  go_enter Try.func16, Try.ntmps16
  go_wp2
  obtain ⟨W0, hW0⟩ : ∃ W0, W0 = ((w.alloc (.cells #[.int .i64 a, .int .i64 b, .int .i64 c] 25)).alloc (.cells #[.int .i64 d, .int .i64 e, .int .i64 f] 25)) := ⟨_, rfl⟩
  have HX : Hid (Bx W0 (w.heap.size) a b c ∧ Bx W0 (w.heap.size + 1) d e f ∧ Below w.heap.size w W0) := by
    rw [hW0]
    refine ⟨?_, ?_, bl_alloc (bl_alloc (bl_refl _))⟩
    · exact (bx_old w 25 a b c).kept (bl_alloc (bl_refl _))
    · have := bx_old (w.alloc (.cells #[.int .i64 a, .int .i64 b, .int .i64 c] 25)) 25 d e f
      simpa using this
  rw [← hW0]
  clear hW0
  have HS : Hid (∀ w', Below W0.heap.size W0 w' → w'.cell? ⟨w.heap.size, 0, none⟩ = some (.int .i64 a) ∧ w'.cell? ⟨w.heap.size, 1, none⟩ = some (.int .i64 b) ∧ w'.cell? ⟨w.heap.size, 2, none⟩ = some (.int .i64 c) ∧ w'.cell? ⟨w.heap.size + 1, 0, none⟩ = some (.int .i64 d) ∧ w'.cell? ⟨w.heap.size + 1, 1, none⟩ = some (.int .i64 e) ∧ w'.cell? ⟨w.heap.size + 1, 2, none⟩ = some (.int .i64 f)) := fun w' hw => ⟨cl_kept hw HX.out.1.1.1, cl_kept hw HX.out.1.1.2.1, cl_kept hw HX.out.1.1.2.2, cl_kept hw HX.out.2.1.1.1, cl_kept hw HX.out.2.1.1.2.1, cl_kept hw HX.out.2.1.1.2.2⟩
  have HS0 := HS.out W0.drew (bl_drew (bl_refl _))
  refine wp_region_late (S := fun w' => w'.cell? ⟨w.heap.size, 0, none⟩ = some (.int .i64 a) ∧ w'.cell? ⟨w.heap.size, 1, none⟩ = some (.int .i64 b) ∧ w'.cell? ⟨w.heap.size, 2, none⟩ = some (.int .i64 c) ∧ w'.cell? ⟨w.heap.size + 1, 0, none⟩ = some (.int .i64 d) ∧ w'.cell? ⟨w.heap.size + 1, 1, none⟩ = some (.int .i64 e) ∧ w'.cell? ⟨w.heap.size + 1, 2, none⟩ = some (.int .i64 f)) (late := fun j => decide (14 ≤ j)) (by kernel_rfl) ?_
  refine Lt.take (i := 0) (v := .pointer (some ⟨w.heap.size, 0, none⟩)) rfl (by kernel_rfl) (by kernel_rfl) (by kernel_rfl) rfl (by kernel_rfl) (by kernel_rfl) (fun _ _ _ h => h) (Or.inl ⟨by rfl, ?hyy⟩) HS0 ?_
  case hyy => (intro w' hSw; (try dsimp only at hSw); go_simp)
  try simp only [Act.put, List.getElem_toArray, List.getElem_cons_zero, List.setIfInBounds_toArray, List.set_cons_zero, List.set_cons_succ]
  refine Lt.take (i := 1) (v := .int .i64 a) rfl (by kernel_rfl) (by kernel_rfl) (by kernel_rfl) rfl (by kernel_rfl) (by kernel_rfl) (fun _ _ _ h => h) (Or.inl ⟨by rfl, ?hyy⟩) HS0 ?_
  case hyy => (intro w' hSw; (try dsimp only at hSw); go_simp)
  try simp only [Act.put, List.getElem_toArray, List.getElem_cons_succ, List.getElem_cons_zero, List.setIfInBounds_toArray, List.set_cons_zero, List.set_cons_succ]
  refine Lt.take (i := 2) (v := .pointer (some ⟨w.heap.size, 1, none⟩)) rfl (by kernel_rfl) (by kernel_rfl) (by kernel_rfl) rfl (by kernel_rfl) (by kernel_rfl) (fun _ _ _ h => h) (Or.inl ⟨by rfl, ?hyy⟩) HS0 ?_
  case hyy => (intro w' hSw; (try dsimp only at hSw); go_simp)
  try simp only [Act.put, List.getElem_toArray, List.getElem_cons_succ, List.getElem_cons_zero, List.setIfInBounds_toArray, List.set_cons_zero, List.set_cons_succ]
  refine Lt.take (i := 3) (v := .int .i64 b) rfl (by kernel_rfl) (by kernel_rfl) (by kernel_rfl) rfl (by kernel_rfl) (by kernel_rfl) (fun _ _ _ h => h) (Or.inl ⟨by rfl, ?hyy⟩) HS0 ?_
  case hyy => (intro w' hSw; (try dsimp only at hSw); go_simp)
  try simp only [Act.put, List.getElem_toArray, List.getElem_cons_succ, List.getElem_cons_zero, List.setIfInBounds_toArray, List.set_cons_zero, List.set_cons_succ]
  refine Lt.take (i := 4) (v := .pointer (some ⟨w.heap.size, 2, none⟩)) rfl (by kernel_rfl) (by kernel_rfl) (by kernel_rfl) rfl (by kernel_rfl) (by kernel_rfl) (fun _ _ _ h => h) (Or.inl ⟨by rfl, ?hyy⟩) HS0 ?_
  case hyy => (intro w' hSw; (try dsimp only at hSw); go_simp)
  try simp only [Act.put, List.getElem_toArray, List.getElem_cons_succ, List.getElem_cons_zero, List.setIfInBounds_toArray, List.set_cons_zero, List.set_cons_succ]
  refine Lt.take (i := 5) (v := .int .i64 c) rfl (by kernel_rfl) (by kernel_rfl) (by kernel_rfl) rfl (by kernel_rfl) (by kernel_rfl) (fun _ _ _ h => h) (Or.inl ⟨by rfl, ?hyy⟩) HS0 ?_
  case hyy => (intro w' hSw; (try dsimp only at hSw); go_simp)
  try simp only [Act.put, List.getElem_toArray, List.getElem_cons_succ, List.getElem_cons_zero, List.setIfInBounds_toArray, List.set_cons_zero, List.set_cons_succ]
  refine Lt.take (i := 7) (v := .pointer (some ⟨w.heap.size + 1, 0, none⟩)) rfl (by kernel_rfl) (by kernel_rfl) (by kernel_rfl) rfl (by kernel_rfl) (by kernel_rfl) (fun _ _ _ h => h) (Or.inl ⟨by rfl, ?hyy⟩) HS0 ?_
  case hyy => (intro w' hSw; (try dsimp only at hSw); go_simp)
  try simp only [Act.put, List.getElem_toArray, List.getElem_cons_succ, List.getElem_cons_zero, List.setIfInBounds_toArray, List.set_cons_zero, List.set_cons_succ]
  refine Lt.take (i := 8) (v := .int .i64 d) rfl (by kernel_rfl) (by kernel_rfl) (by kernel_rfl) rfl (by kernel_rfl) (by kernel_rfl) (fun _ _ _ h => h) (Or.inl ⟨by rfl, ?hyy⟩) HS0 ?_
  case hyy => (intro w' hSw; (try dsimp only at hSw); go_simp)
  try simp only [Act.put, List.getElem_toArray, List.getElem_cons_succ, List.getElem_cons_zero, List.setIfInBounds_toArray, List.set_cons_zero, List.set_cons_succ]
  refine Lt.take (i := 9) (v := .pointer (some ⟨w.heap.size + 1, 1, none⟩)) rfl (by kernel_rfl) (by kernel_rfl) (by kernel_rfl) rfl (by kernel_rfl) (by kernel_rfl) (fun _ _ _ h => h) (Or.inl ⟨by rfl, ?hyy⟩) HS0 ?_
  case hyy => (intro w' hSw; (try dsimp only at hSw); go_simp)
  try simp only [Act.put, List.getElem_toArray, List.getElem_cons_succ, List.getElem_cons_zero, List.setIfInBounds_toArray, List.set_cons_zero, List.set_cons_succ]
  refine Lt.take (i := 10) (v := .int .i64 e) rfl (by kernel_rfl) (by kernel_rfl) (by kernel_rfl) rfl (by kernel_rfl) (by kernel_rfl) (fun _ _ _ h => h) (Or.inl ⟨by rfl, ?hyy⟩) HS0 ?_
  case hyy => (intro w' hSw; (try dsimp only at hSw); go_simp)
  try simp only [Act.put, List.getElem_toArray, List.getElem_cons_succ, List.getElem_cons_zero, List.setIfInBounds_toArray, List.set_cons_zero, List.set_cons_succ]
  refine Lt.take (i := 11) (v := .pointer (some ⟨w.heap.size + 1, 2, none⟩)) rfl (by kernel_rfl) (by kernel_rfl) (by kernel_rfl) rfl (by kernel_rfl) (by kernel_rfl) (fun _ _ _ h => h) (Or.inl ⟨by rfl, ?hyy⟩) HS0 ?_
  case hyy => (intro w' hSw; (try dsimp only at hSw); go_simp)
  try simp only [Act.put, List.getElem_toArray, List.getElem_cons_succ, List.getElem_cons_zero, List.setIfInBounds_toArray, List.set_cons_zero, List.set_cons_succ]
  refine Lt.take (i := 12) (v := .int .i64 f) rfl (by kernel_rfl) (by kernel_rfl) (by kernel_rfl) rfl (by kernel_rfl) (by kernel_rfl) (fun _ _ _ h => h) (Or.inl ⟨by rfl, ?hyy⟩) HS0 ?_
  case hyy => (intro w' hSw; (try dsimp only at hSw); go_simp)
  try simp only [Act.put, List.getElem_toArray, List.getElem_cons_succ, List.getElem_cons_zero, List.setIfInBounds_toArray, List.set_cons_zero, List.set_cons_succ]
  refine Lt.one (i := 6) (by kernel_rfl) rfl rfl ?_
  refine call_step 28 #[.int .i64 a, .int .i64 b, .int .i64 c] (by kernel_rfl) (CL.out _) ?_
  rintro e w1 ⟨rfl, hb1⟩
  refine ⟨_, rfl, fun _ => HS.out _ (bl_via (bl_drew (bl_refl _)) hb1), ?_⟩
  try simp only [Act.put, List.getElem_toArray, List.getElem_cons_succ, List.getElem_cons_zero, List.setIfInBounds_toArray, List.set_cons_zero, List.set_cons_succ]
  refine Lt.one (i := 13) (by kernel_rfl) rfl rfl ?_
  refine call_step 28 #[.int .i64 d, .int .i64 e, .int .i64 f] (by kernel_rfl) (CM.out _) ?_
  rintro e w2 ⟨rfl, hb2⟩
  refine ⟨_, rfl, fun _ => HS.out _ (bl_via (bl_via (bl_drew (bl_refl _)) hb1) hb2), ?_⟩
  try simp only [Act.put, List.getElem_toArray, List.getElem_cons_succ, List.getElem_cons_zero, List.setIfInBounds_toArray, List.set_cons_zero, List.set_cons_succ]
  have HB2 : Hid (Below W0.heap.size W0 w2) := bl_via (bl_via (bl_drew (bl_refl _)) hb1) hb2
  have BL : Hid (Bx w2 (w.heap.size) a b c ∧ Bx w2 (w.heap.size + 1) d e f) := ⟨HX.out.1.kept HB2.out, HX.out.2.1.kept HB2.out⟩
  obtain ⟨⟨u0, u1, u2⟩, uf⟩ := BL.out.1
  have g0 := uf 0
  have g1 := uf 1
  have g2 := uf 2
  clear hb1 hb2
  refine Lt.one (i := 14) (by kernel_rfl) rfl rfl ?_
  refine skip_step (w' := (((w2.setCell ⟨w.heap.size, 0, none⟩ (.int .i64 A)).setCell ⟨w.heap.size, 1, none⟩ (.int .i64 B)).setCell ⟨w.heap.size, 2, none⟩ (.int .i64 C))) (by first | go_simp | simp [go_sem, u0, u1, u2, g0, g1, g2]) ?_
  refine ⟨fun h => absurd h (by decide), ?_⟩
  try simp only [Act.put, List.getElem_toArray, List.getElem_cons_succ, List.getElem_cons_zero]
  have BM := (BL.out.2.far (show w.heap.size + 1 ≠ w.heap.size by omega) (.int .i64 A) (.int .i64 B) (.int .i64 C))
  have BL2 := (BL.out.1.set3 A B C)
  clear u0 u1 u2 uf g0 g1 g2
  obtain ⟨⟨u0, u1, u2⟩, uf⟩ := BM
  have g0 := uf 0
  have g1 := uf 1
  have g2 := uf 2
  refine Lt.one (i := 15) (by kernel_rfl) rfl rfl ?_
  refine skip_step (w' := ((((((w2.setCell ⟨w.heap.size, 0, none⟩ (.int .i64 A)).setCell ⟨w.heap.size, 1, none⟩ (.int .i64 B)).setCell ⟨w.heap.size, 2, none⟩ (.int .i64 C)).setCell ⟨w.heap.size + 1, 0, none⟩ (.int .i64 D)).setCell ⟨w.heap.size + 1, 1, none⟩ (.int .i64 E)).setCell ⟨w.heap.size + 1, 2, none⟩ (.int .i64 F))) (by first | go_simp | simp [go_sem, u0, u1, u2, g0, g1, g2]) ?_
  refine ⟨fun h => absurd h (by decide), ?_⟩
  try simp only [Act.put, List.getElem_toArray, List.getElem_cons_succ, List.getElem_cons_zero]
  refine Lt.done (by kernel_rfl) ?_
  have HW : Hid (Bx (((((((w2.setCell ⟨w.heap.size, 0, none⟩ (.int .i64 A)).setCell ⟨w.heap.size, 1, none⟩ (.int .i64 B)).setCell ⟨w.heap.size, 2, none⟩ (.int .i64 C)).setCell ⟨w.heap.size + 1, 0, none⟩ (.int .i64 D)).setCell ⟨w.heap.size + 1, 1, none⟩ (.int .i64 E)).setCell ⟨w.heap.size + 1, 2, none⟩ (.int .i64 F))) (w.heap.size) A B C ∧ Bx (((((((w2.setCell ⟨w.heap.size, 0, none⟩ (.int .i64 A)).setCell ⟨w.heap.size, 1, none⟩ (.int .i64 B)).setCell ⟨w.heap.size, 2, none⟩ (.int .i64 C)).setCell ⟨w.heap.size + 1, 0, none⟩ (.int .i64 D)).setCell ⟨w.heap.size + 1, 1, none⟩ (.int .i64 E)).setCell ⟨w.heap.size + 1, 2, none⟩ (.int .i64 F))) (w.heap.size + 1) D E F ∧ Below w.heap.size w (((((((w2.setCell ⟨w.heap.size, 0, none⟩ (.int .i64 A)).setCell ⟨w.heap.size, 1, none⟩ (.int .i64 B)).setCell ⟨w.heap.size, 2, none⟩ (.int .i64 C)).setCell ⟨w.heap.size + 1, 0, none⟩ (.int .i64 D)).setCell ⟨w.heap.size + 1, 1, none⟩ (.int .i64 E)).setCell ⟨w.heap.size + 1, 2, none⟩ (.int .i64 F)))) := ⟨BL2.far (by omega) _ _ _, Bx.set3 ⟨⟨u0, u1, u2⟩, uf⟩ D E F, bl_set3 (bl_set3 (bl_via HX.out.2.2 HB2.out) (by omega)) (by omega)⟩
  clear BL2 u0 u1 u2 uf g0 g1 g2 BL HB2
  generalize ((((((w2.setCell ⟨w.heap.size, 0, none⟩ (.int .i64 A)).setCell ⟨w.heap.size, 1, none⟩ (.int .i64 B)).setCell ⟨w.heap.size, 2, none⟩ (.int .i64 C)).setCell ⟨w.heap.size + 1, 0, none⟩ (.int .i64 D)).setCell ⟨w.heap.size + 1, 1, none⟩ (.int .i64 E)).setCell ⟨w.heap.size + 1, 2, none⟩ (.int .i64 F)) = w3 at HW ⊢
  obtain ⟨⟨⟨c0, c1, c2⟩, _⟩, ⟨⟨d0, d1, d2⟩, _⟩, hbw⟩ := HW.out
  have HB : Hid (Below w.heap.size w w3) := hbw
  have zc := World.block_lt_of_cell? _ _ c0
  have zd := World.block_lt_of_cell? _ _ d0
  clear HW hbw
  have kc := Kin.cells w3
  have kn : Nonempty (Kin w3) := ⟨⟨w3, bl_refl _⟩⟩
  go_wp2
  refine wp_region_kin (by kernel_rfl) (by kernel_rfl) ?_
  repeat (go_big_quiet_step (fail))
  refine wpQuiet_nil ?_
  intro wq hw'
  obtain ⟨nq, hw''⟩ := hw'
  have hq : Below w3.heap.size w3 wq := hw'' ▸ nq.h
  clear hw'' nq kc kn
  replace c0 := cl_kept hq c0
  replace c1 := cl_kept hq c1
  replace c2 := cl_kept hq c2
  replace d0 := cl_kept hq d0
  replace d1 := cl_kept hq d1
  replace d2 := cl_kept hq d2
  replace HB : Hid (Below w.heap.size w wq) := bl_via HB.out hq
  replace zc := World.block_lt_of_cell? _ _ c0
  replace zd := World.block_lt_of_cell? _ _ d0
  clear hq
  clear eq1 eq2 ett en1 en2 enn ek1 ek2 ekk in1 in2 inn ik1 ik2 ikk EQ qt
  go_wp2_with (first | (go_at_call 35; (with_reducible refine (CR.out _).mono ?_); rintro z1 w4 ⟨rfl, hb4⟩; replace c0 := cl_kept hb4 c0; replace c1 := cl_kept hb4 c1; replace c2 := cl_kept hb4 c2; replace d0 := cl_kept hb4 d0; replace d1 := cl_kept hb4 d1; replace d2 := cl_kept hb4 d2; replace HB : Hid (Below w.heap.size w w4) := bl_via HB.out hb4; clear hb4; have gc := World.block_lt_of_cell? _ _ c0; have gd := World.block_lt_of_cell? _ _ d0) | (go_at_call 28; (with_reducible refine (CF1.out _).mono ?_); rintro z2 w5 ⟨rfl, hb5⟩; replace c0 := cl_kept hb5 c0; replace c1 := cl_kept hb5 c1; replace c2 := cl_kept hb5 c2; replace d0 := cl_kept hb5 d0; replace d1 := cl_kept hb5 d1; replace d2 := cl_kept hb5 d2; replace HB : Hid (Below w.heap.size w w5) := bl_via HB.out hb5; clear hb5; have gc := World.block_lt_of_cell? _ _ c0; have gd := World.block_lt_of_cell? _ _ d0) | (go_at_call 28; (with_reducible refine (CF2.out _).mono ?_); rintro z3 w6 ⟨rfl, hb6⟩; have hg := (bx_old w5 25 G1 G2 G3).kept hb6; have HG : Hid (Bx w6 w5.heap.size G1 G2 G3) := hg; obtain ⟨⟨g0, g1, g2⟩, _⟩ := hg; replace HB : Hid (Below w.heap.size w w6) := bl_via HB.out (bl_via (bl_alloc (bl_refl _)) hb6); have HS5 : Hid (w.heap.size ≤ w5.heap.size ∧ w5.heap.size < w6.heap.size) := ⟨by have := HB.out.size; have := HG.out.lt; omega, HG.out.lt⟩; clear hb6 c0 c1 c2 d0 d1 d2 gc gd; have gg := World.block_lt_of_cell? _ _ g0) | (go_at_call 36; (with_reducible refine (CS.out _).mono ?_); rintro z4 w7 ⟨rfl, hb7⟩; have hb8 := bl_via (bl_alloc (bl_refl w6)) hb7; have hg := HG.out.kept hb8; have hh := (bx_old w6 25 H1 H2 H3).kept hb7; have HG7 : Hid (Bx w7 w5.heap.size G1 G2 G3 ∧ Bx w7 w6.heap.size H1 H2 H3 ∧ w5.heap.size < w6.heap.size ∧ w.heap.size ≤ w5.heap.size ∧ Below w.heap.size w w7) := ⟨hg, hh, HS5.out.2, HS5.out.1, bl_via HB.out hb8⟩; obtain ⟨⟨g0, g1, g2⟩, gf⟩ := hg; obtain ⟨⟨h0, h1, h2⟩, hf⟩ := hh; have gf0 := gf 0; have gf1 := gf 1; have gf2 := gf 2; have hf0 := hf 0; have hf1 := hf 1; have hf2 := hf 2; clear hb7 hb8 gf hf HB HG; have gg := World.block_lt_of_cell? _ _ g0; have gh := World.block_lt_of_cell? _ _ h0) | fail)
  refine bodyPost_ret (v := .tuple #[_, _]) (by simp [results, Try.results16, go_sem]) rfl ⟨w7.heap.size, rfl, ⟨by simp [go_sem], by simp [go_sem], by simp [go_sem], by simp [go_sem], by simp [go_sem], by simp [go_sem]⟩, bl_alloc HG7.out.2.2.2.2⟩
end Go.Proofs.Ytohnppjbmpaomaa
