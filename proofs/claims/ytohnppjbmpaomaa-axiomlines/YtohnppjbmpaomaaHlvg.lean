/- Halves: a walk (some, some). -/
import Derived.Test.YtohnppjbmpaomaaHlva
namespace Go.Proofs.Ytohnppjbmpaomaa
open Go.RowKit

set_option maxRecDepth 100000 in
set_option maxHeartbeats 6400000 in
theorem halves14_some_some_swap (a b c d e f nn kk r G1 G2 G3 H1 H2 H3 pr mr x1 x2 X x3 x4 Y x5 x6 Z y2 X2 y4 Y2 y6 Z2 : Int) (w : World) (hk : wrg [⟨a, b, c⟩, ⟨d, e, f⟩] [] = 0) (hnn : nn = a * a + b * b) (hkk : kk = d * d + e * e) (hpr : pr = nn * kk) (hmr : mr = -r) (hx1 : x1 = kk * a) (hx2 : x2 = r * d) (hX : X = x1 + x2) (hx3 : x3 = kk * b) (hx4 : x4 = r * e) (hY : Y = x3 + x4) (hx5 : x5 = kk * c) (hx6 : x6 = r * f) (hZ : Z = x5 + x6) (hy2 : y2 = mr * d) (hX2 : X2 = x1 + y2) (hy4 : y4 = mr * e) (hY2 : Y2 = x3 + y4) (hy6 : y6 = mr * f) (hZ2 : Z2 = x5 + y6) (ρ : Nat) (hr : r = (ρ : Int)) (hρ : ρ ≤ 2000000) (hsq : pr = (ρ : Int) * (ρ : Int)) (hs0 : same3 X Y Z 0 0 0 = false) (hw0 : wl X Y = false) (hF0 : frm X Y Z = .agg #[.int .i64 G1, .int .i64 G2, .int .i64 G3]) (hs1 : same3 X2 Y2 Z2 0 0 0 = false) (hw1 : wl X2 Y2 = false) (hF1 : frm X2 Y2 Z2 = .agg #[.int .i64 H1, .int .i64 H2, .int .i64 H3]) (hc : decide (cmpS H1 H2 H3 G1 G2 G3 < 0) = true) :
    Calls Try.prog 14 #[st a b c, st d e f] w fun z w' => ∃ g cap : Nat, z = .returned (.tuple #[.slice (some ⟨g, 0, none⟩) 2 cap, .int .i64 0]) ∧ (w'.cell? ⟨g, 0, none⟩ = some (.int .i64 H1) ∧ w'.cell? ⟨g, 1, none⟩ = some (.int .i64 H2) ∧ w'.cell? ⟨g, 2, none⟩ = some (.int .i64 H3) ∧ w'.cell? ⟨g, 3, none⟩ = some (.int .i64 G1) ∧ w'.cell? ⟨g, 4, none⟩ = some (.int .i64 G2) ∧ w'.cell? ⟨g, 5, none⟩ = some (.int .i64 G3)) ∧ Below w.heap.size w w' := by
  have C26 : Hid (∀ (g1 : Nat) (W : World), (W.cell? ⟨g1, 0, none⟩ = some (.int .i64 a) ∧ W.cell? ⟨g1, 1, none⟩ = some (.int .i64 b) ∧ W.cell? ⟨g1, 2, none⟩ = some (.int .i64 c) ∧ W.cell? ⟨g1, 3, none⟩ = some (.int .i64 d) ∧ W.cell? ⟨g1, 4, none⟩ = some (.int .i64 e) ∧ W.cell? ⟨g1, 5, none⟩ = some (.int .i64 f)) → Calls Try.prog 26 #[.slice (some ⟨g1, 0, none⟩) 2 2, .slice none 0 0] W fun z w' => z = .returned (.int .i64 (wrg [⟨a, b, c⟩, ⟨d, e, f⟩] [])) ∧ Below W.heap.size W w') := fun g1 W h1 => wrong26 _ _ [⟨a, b, c⟩, ⟨d, e, f⟩] [] W (built_sn2 h1) (sg_nil W) (by simp) (by simp)
  rw [hk] at C26
  obtain ⟨⟨ba, bb, bc⟩, ⟨bd', be, bf⟩, _, _, _⟩ := wrg_ok2 hk
  have bnn : bd 2000000 nn := by rw [hnn]; exact bd_up (bd_add (bd_mul ba ba) (bd_mul bb bb)) (by omega)
  have bkk : bd 2000000 kk := by rw [hkk]; exact bd_up (bd_add (bd_mul bd' bd') (bd_mul be be)) (by omega)
  have CP : Hid (∀ (g : Nat) (W : World), (∀ i, i < 2 → W.cell? ⟨g, i, none⟩ = some (.int .i64 (gt [a, b] i))) → Calls Try.prog 25 #[.slice (some ⟨g, 0, none⟩) 2 2] W fun z w' => z = .returned (.int .i64 nn) ∧ Below W.heap.size W w') := fun g W h => by
    rw [hnn]
    exact sq_two _ _ g W (bd_up ba (by omega)) (bd_up bb (by omega)) h
  have CQ : Hid (∀ (g : Nat) (W : World), (∀ i, i < 2 → W.cell? ⟨g, i, none⟩ = some (.int .i64 (gt [d, e] i))) → Calls Try.prog 25 #[.slice (some ⟨g, 0, none⟩) 2 2] W fun z w' => z = .returned (.int .i64 kk) ∧ Below W.heap.size W w') := fun g W h => by
    rw [hkk]
    exact sq_two _ _ g W (bd_up bd' (by omega)) (bd_up be (by omega)) h
  have br : bd 2000000 r := by rw [hr]; unfold bd; omega
  have bpr : bd 4000000000000 pr := by rw [hpr]; exact bd_up (bd_mul bnn bkk) (by omega)
  have epr : wrap64 (nn * kk) = pr := by rw [← hpr]; exact w64 _ (by have := bpr; unfold bd at this; omega)
  have bmr : bd 2000000 mr := by rw [hmr]; exact bd_up (bd_neg br) (by omega)
  have emr : wrap64 (-r) = mr := by rw [← hmr]; exact w64 _ (by have := bmr; unfold bd at this; omega)
  have imr : IntKind.i64.wrap (-r) = mr := (i64w _).trans emr
  have bx1 : bd 2000000000 x1 := by rw [hx1]; exact bd_up (bd_mul bkk ba) (by omega)
  have ex1 : wrap64 (kk * a) = x1 := by rw [← hx1]; exact w64 _ (by have := bx1; unfold bd at this; omega)
  have bx2 : bd 2000000000 x2 := by rw [hx2]; exact bd_up (bd_mul br bd') (by omega)
  have ex2 : wrap64 (r * d) = x2 := by rw [← hx2]; exact w64 _ (by have := bx2; unfold bd at this; omega)
  have bX : bd 4000000000 X := by rw [hX]; exact bd_up (bd_add bx1 bx2) (by omega)
  have eX : wrap64 (x1 + x2) = X := by rw [← hX]; exact w64 _ (by have := bX; unfold bd at this; omega)
  have bx3 : bd 2000000000 x3 := by rw [hx3]; exact bd_up (bd_mul bkk bb) (by omega)
  have ex3 : wrap64 (kk * b) = x3 := by rw [← hx3]; exact w64 _ (by have := bx3; unfold bd at this; omega)
  have bx4 : bd 2000000000 x4 := by rw [hx4]; exact bd_up (bd_mul br be) (by omega)
  have ex4 : wrap64 (r * e) = x4 := by rw [← hx4]; exact w64 _ (by have := bx4; unfold bd at this; omega)
  have bY : bd 4000000000 Y := by rw [hY]; exact bd_up (bd_add bx3 bx4) (by omega)
  have eY : wrap64 (x3 + x4) = Y := by rw [← hY]; exact w64 _ (by have := bY; unfold bd at this; omega)
  have bx5 : bd 2000000000 x5 := by rw [hx5]; exact bd_up (bd_mul bkk bc) (by omega)
  have ex5 : wrap64 (kk * c) = x5 := by rw [← hx5]; exact w64 _ (by have := bx5; unfold bd at this; omega)
  have bx6 : bd 2000000000 x6 := by rw [hx6]; exact bd_up (bd_mul br bf) (by omega)
  have ex6 : wrap64 (r * f) = x6 := by rw [← hx6]; exact w64 _ (by have := bx6; unfold bd at this; omega)
  have bZ : bd 4000000000 Z := by rw [hZ]; exact bd_up (bd_add bx5 bx6) (by omega)
  have eZ : wrap64 (x5 + x6) = Z := by rw [← hZ]; exact w64 _ (by have := bZ; unfold bd at this; omega)
  have by2 : bd 2000000000 y2 := by rw [hy2]; exact bd_up (bd_mul bmr bd') (by omega)
  have ey2 : wrap64 (mr * d) = y2 := by rw [← hy2]; exact w64 _ (by have := by2; unfold bd at this; omega)
  have bX2 : bd 4000000000 X2 := by rw [hX2]; exact bd_up (bd_add bx1 by2) (by omega)
  have eX2 : wrap64 (x1 + y2) = X2 := by rw [← hX2]; exact w64 _ (by have := bX2; unfold bd at this; omega)
  have by4 : bd 2000000000 y4 := by rw [hy4]; exact bd_up (bd_mul bmr be) (by omega)
  have ey4 : wrap64 (mr * e) = y4 := by rw [← hy4]; exact w64 _ (by have := by4; unfold bd at this; omega)
  have bY2 : bd 4000000000 Y2 := by rw [hY2]; exact bd_up (bd_add bx3 by4) (by omega)
  have eY2 : wrap64 (x3 + y4) = Y2 := by rw [← hY2]; exact w64 _ (by have := bY2; unfold bd at this; omega)
  have by6 : bd 2000000000 y6 := by rw [hy6]; exact bd_up (bd_mul bmr bf) (by omega)
  have ey6 : wrap64 (mr * f) = y6 := by rw [← hy6]; exact w64 _ (by have := by6; unfold bd at this; omega)
  have bZ2 : bd 4000000000 Z2 := by rw [hZ2]; exact bd_up (bd_add bx5 by6) (by omega)
  have eZ2 : wrap64 (x5 + y6) = Z2 := by rw [← hZ2]; exact w64 _ (by have := bZ2; unfold bd at this; omega)
  have CR : Hid (∀ W : World, Calls Try.prog 29 #[.int .i64 pr] W fun z w' => z = .returned (.tuple #[.int .i64 r, .bool true]) ∧ Below W.heap.size W w') := fun W => by
    rw [hr]
    exact root_yes ρ pr W hsq hρ
  have E0 := eql25 X Y Z 0 0 0
  rw [hs0] at E0
  have CW0 : Hid (∀ W : World, Calls Try.prog 30 #[.agg #[.int .i64 X, .int .i64 Y, .int .i64 Z]] W fun z w' => z = .returned (.bool false) ∧ Below W.heap.size W w') := fun W => by
    have := wayless30 X Y Z W
    rwa [hw0] at this
  have CF0 : Hid (∀ W : World, Calls Try.prog 24 #[.int .i64 X, .int .i64 Y, .int .i64 Z] W fun z w' => z = .returned (.agg #[.int .i64 G1, .int .i64 G2, .int .i64 G3]) ∧ Below W.heap.size W w') := fun W => by
    rw [← hF0]
    exact inForm24 X Y Z W (fun h => by simp [wl, h.1, h.2] at hw0) (by have := bX; unfold sm; unfold bd at this; omega) (by have := bY; unfold sm; unfold bd at this; omega) (by have := bZ; unfold sm; unfold bd at this; omega)
  have E1 := eql25 X2 Y2 Z2 0 0 0
  rw [hs1] at E1
  have CW1 : Hid (∀ W : World, Calls Try.prog 30 #[.agg #[.int .i64 X2, .int .i64 Y2, .int .i64 Z2]] W fun z w' => z = .returned (.bool false) ∧ Below W.heap.size W w') := fun W => by
    have := wayless30 X2 Y2 Z2 W
    rwa [hw1] at this
  have CF1 : Hid (∀ W : World, Calls Try.prog 24 #[.int .i64 X2, .int .i64 Y2, .int .i64 Z2] W fun z w' => z = .returned (.agg #[.int .i64 H1, .int .i64 H2, .int .i64 H3]) ∧ Below W.heap.size W w') := fun W => by
    rw [← hF1]
    exact inForm24 X2 Y2 Z2 W (fun h => by simp [wl, h.1, h.2] at hw1) (by have := bX2; unfold sm; unfold bd at this; omega) (by have := bY2; unfold sm; unfold bd at this; omega) (by have := bZ2; unfold sm; unfold bd at this; omega)
  have ix0 : ∀ W : World, (Instr.index 57 (.agg #[.int .i64 r, .int .i64 mr]) (.int .i64 0)).run Try.prog W = .ok (.int .i64 r) W := fun _ => by kernel_rfl
  have ix1 : ∀ W : World, (Instr.index 57 (.agg #[.int .i64 r, .int .i64 mr]) (.int .i64 1)).run Try.prog W = .ok (.int .i64 mr) W := fun _ => by kernel_rfl
  obtain ⟨i25, hI⟩ := info_parts inf25
  have HI : Hid (Try.prog.info? 25 = some i25 ∧ i25.zero = some (.agg #[.int .i64 0, .int .i64 0, .int .i64 0]) ∧ i25.size = 3 ∧ i25.bytes = 24) := hI
  clear hI hk hnn hkk hr hρ hsq hs0 hw0 hF0 hs1 hw1 hF1 ba bb bc bd' be bf bnn bkk br
  clear hpr hmr hx1 hx2 hX hx3 hx4 hY hx5 hx6 hZ hy2 hX2 hy4 hY2 hy6 hZ2 bpr bmr bx1 bx2 bX bx3 bx4 bY bx5 bx6 bZ by2 bX2 by4 bY2 by6 bZ2
  unfold st
  go_enter Try.func14, Try.ntmps14
  go_wp2_with (go_at_call 26; refine (C26.out _ _ ⟨by simp [go_sem], by simp [go_sem], by simp [go_sem], by simp [go_sem], by simp [go_sem], by simp [go_sem]⟩).mono ?_; rintro z1 w1 ⟨rfl, hb⟩; have l0 : w1.cell? ⟨w.heap.size, 0, none⟩ = some (.int .i64 a) := cl_kept hb (by simp [go_sem]); have l1 : w1.cell? ⟨w.heap.size, 1, none⟩ = some (.int .i64 b) := cl_kept hb (by simp [go_sem]); have l2 : w1.cell? ⟨w.heap.size, 2, none⟩ = some (.int .i64 c) := cl_kept hb (by simp [go_sem]); have m0 : w1.cell? ⟨w.heap.size + 1, 0, none⟩ = some (.int .i64 d) := cl_kept hb (by simp [go_sem]); have m1 : w1.cell? ⟨w.heap.size + 1, 1, none⟩ = some (.int .i64 e) := cl_kept hb (by simp [go_sem]); have m2 : w1.cell? ⟨w.heap.size + 1, 2, none⟩ = some (.int .i64 f) := cl_kept hb (by simp [go_sem]); replace hb := bl_via (bl_alloc (bl_alloc (bl_alloc (bl_refl w)))) hb; have HB : Hid (Below w.heap.size w w1) := hb; clear hb; have gl := World.block_lt_of_cell? _ _ l0; have gm := World.block_lt_of_cell? _ _ m0)
  go_cut [7, 8] (fun s7 s8 wx => s7 = .int .i64 nn ∧ s8 = .int .i64 kk ∧ Below w1.heap.size w1 wx)
  case first =>
    have HSX : Hid (∀ w', Below w1.heap.size w1 w' → w'.cell? ⟨w.heap.size, 0, none⟩ = some (.int .i64 a) ∧ w'.cell? ⟨w.heap.size, 1, none⟩ = some (.int .i64 b) ∧ w'.cell? ⟨w.heap.size, 2, none⟩ = some (.int .i64 c) ∧ w'.cell? ⟨w.heap.size + 1, 0, none⟩ = some (.int .i64 d) ∧ w'.cell? ⟨w.heap.size + 1, 1, none⟩ = some (.int .i64 e) ∧ w'.cell? ⟨w.heap.size + 1, 2, none⟩ = some (.int .i64 f)) := fun w' hw => ⟨cl_kept hw l0, cl_kept hw l1, cl_kept hw l2, cl_kept hw m0, cl_kept hw m1, cl_kept hw m2⟩
    go_region_held3 (fun w' => w'.cell? ⟨w.heap.size, 0, none⟩ = some (.int .i64 a) ∧ w'.cell? ⟨w.heap.size, 1, none⟩ = some (.int .i64 b) ∧ w'.cell? ⟨w.heap.size, 2, none⟩ = some (.int .i64 c) ∧ w'.cell? ⟨w.heap.size + 1, 0, none⟩ = some (.int .i64 d) ∧ w'.cell? ⟨w.heap.size + 1, 1, none⟩ = some (.int .i64 e) ∧ w'.cell? ⟨w.heap.size + 1, 2, none⟩ = some (.int .i64 f)) ((refine HSX.out _ ?_; (repeat first | exact bl_refl _ | apply bl_drew | apply bl_alloc | (refine bl_via ?_ (by assumption))); done)) (first | (go_at_call 25; refine Calls.mono (CP.out _ _ (cells2 ?_ ?_)) ?_; (focus (first | (simp [go_sem]; done) | (refine cl_kept (by assumption) ?_; simp [go_sem]; done) | fail)); (focus (first | (simp [go_sem]; done) | (refine cl_kept (by assumption) ?_; simp [go_sem]; done) | fail)); rintro z3 wa ⟨rfl, hba⟩) | (go_at_call 25; refine Calls.mono (CQ.out _ _ (cells2 ?_ ?_)) ?_; (focus (first | (simp [go_sem]; done) | (refine cl_kept (by assumption) ?_; simp [go_sem]; done) | fail)); (focus (first | (simp [go_sem]; done) | (refine cl_kept (by assumption) ?_; simp [go_sem]; done) | fail)); rintro z3 wa ⟨rfl, hba⟩) | fail)
    all_goals
      go_wp2_with fail
      go_meet
      case rel => exact ⟨rfl, rfl, by (repeat first | exact bl_refl _ | apply bl_drew | apply bl_alloc | (refine bl_via ?_ (by assumption)))⟩
  case rest =>
    obtain ⟨rfl, rfl, hbc⟩ := hcut
    replace l0 := cl_kept hbc l0
    replace l1 := cl_kept hbc l1
    replace l2 := cl_kept hbc l2
    replace m0 := cl_kept hbc m0
    replace m1 := cl_kept hbc m1
    replace m2 := cl_kept hbc m2
    replace HB : Hid (Below w.heap.size w wc) := bl_via HB.out hbc
    clear hbc
    go_wp2_with (go_at_call 29; refine (CR.out _).mono ?_; rintro z4 w4 ⟨rfl, hb4⟩; replace l0 := cl_kept hb4 l0; replace l1 := cl_kept hb4 l1; replace l2 := cl_kept hb4 l2; replace m0 := cl_kept hb4 m0; replace m1 := cl_kept hb4 m1; replace m2 := cl_kept hb4 m2; replace HB : Hid (Below w.heap.size w w4) := bl_via HB.out hb4; clear hb4)
    have HL : Hid (∀ w', Below w4.heap.size w4 w' → w'.cell? ⟨w.heap.size, 0, none⟩ = some (.int .i64 a) ∧ w'.cell? ⟨w.heap.size, 1, none⟩ = some (.int .i64 b) ∧ w'.cell? ⟨w.heap.size, 2, none⟩ = some (.int .i64 c) ∧ w'.cell? ⟨w.heap.size + 1, 0, none⟩ = some (.int .i64 d) ∧ w'.cell? ⟨w.heap.size + 1, 1, none⟩ = some (.int .i64 e) ∧ w'.cell? ⟨w.heap.size + 1, 2, none⟩ = some (.int .i64 f)) := fun w' hw => ⟨cl_kept hw l0, cl_kept hw l1, cl_kept hw l2, cl_kept hw m0, cl_kept hw m1, cl_kept hw m2⟩
    clear l0 l1 l2 m0 m1 m2 gl gm C26 CP CQ CR epr
    go_loopg [47, 11] 2 (fun gk s47 s11 wx => (gk = 2 ∧ s47 = .int .i64 0 ∧ s11 = .slice none 0 0 ∧ wx = w4) ∨ (gk = 1 ∧ s47 = .int .i64 1 ∧ Hid (Below w4.heap.size w4 wx ∧ wx.ownsRow w4.heap.size 25 3 s11 1 (rw3 G1 G2 G3))) ∨ (gk = 0 ∧ s47 = .int .i64 2 ∧ Hid (Below w4.heap.size w4 wx ∧ wx.ownsRow w4.heap.size 25 3 s11 2 (rw3 G1 G2 G3 ++ rw3 H1 H2 H3))))
    case atStart => exact Or.inl ⟨rfl, rfl, rfl, rfl⟩
    case round =>
      rcases hrel with ⟨rfl, rfl, rfl, rfl⟩ | ⟨rfl, rfl, H1x⟩ | ⟨rfl, rfl, H2x⟩
      · clear ey2 eX2 ey4 eY2 ey6 eZ2 ix1 E1 CW1 CF1
        obtain ⟨l0, l1, l2, m0, m1, m2⟩ := HL.out wr (bl_refl wr)
        have gl := World.block_lt_of_cell? _ _ l0
        have gm := World.block_lt_of_cell? _ _ m0
        go_wp2_with (first | (go_at_call 30; (with_reducible refine (CW0.out _).mono ?_); rintro z5 w5 ⟨rfl, hb5⟩; have x0 : w5.cell? ⟨wr.heap.size, 0, none⟩ = some (.int .i64 X) := cl_kept hb5 (by simp [go_sem]); have x1c : w5.cell? ⟨wr.heap.size, 1, none⟩ = some (.int .i64 Y) := cl_kept hb5 (by simp [go_sem]); have x2c : w5.cell? ⟨wr.heap.size, 2, none⟩ = some (.int .i64 Z) := cl_kept hb5 (by simp [go_sem])) | (go_at_call 24; (with_reducible refine (CF0.out _).mono ?_); rintro z6 w6 ⟨rfl, hb6⟩; have HB6 : Hid (Below wr.heap.size wr w6) := bl_via (bl_via (bl_alloc (bl_refl _)) hb5) hb6; clear hb5 hb6 x0 x1c x2c) | (at_builtin; refine wpList_append_own _ rfl (.tmp 84) (.tmp 92) 33 rfl wr.heap.size 25 i25 (.agg #[.int .i64 0, .int .i64 0, .int .i64 0]) 3 24 Try.underlying33 HI.out.1 HI.out.2.1 HI.out.2.2.1 HI.out.2.2.2 rfl (by decide) (.slice none 0 0) 0 [] rfl (own_below (show World.ownsRow wr wr.heap.size 25 3 (.slice none 0 0) 0 [] from ⟨by simp, Or.inl ⟨rfl, rfl⟩⟩) (bl_alloc HB6.out)) ⟨w6.heap.size, 0, none⟩ 1 1 (rw3 G1 G2 G3) rfl rfl (three_cells (by simp [go_sem]) (by simp [go_sem]) (by simp [go_sem])) (three_one _ _ _) (by unfold maxLen; omega) (by omega) (by have := (bl_refl wr).size; have := HB6.out.size; simp; omega) ?gA) | fail)
        case gA =>
          intro v' w7 ho hg _
          have HN : Hid (Below wr.heap.size wr w7 ∧ w7.ownsRow wr.heap.size 25 3 v' (0 + 1) ([] ++ rw3 G1 G2 G3)) := ⟨bl_own (bl_via (bl_refl wr) (bl_alloc HB6.out)) (own_below (show World.ownsRow wr wr.heap.size 25 3 (.slice none 0 0) 0 [] from ⟨by simp, Or.inl ⟨rfl, rfl⟩⟩) (bl_alloc HB6.out)) (Nat.le_refl _) hg, ho⟩
          clear ho hg
          go_wp2
          go_roundg 1
          case measure => omega
          case rel => exact Or.inr (Or.inl ⟨rfl, by go_num, HN.out⟩)
      · clear ex2 eX ex4 eY ex6 eZ ix0 E0 CW0 CF0
        obtain ⟨l0, l1, l2, m0, m1, m2⟩ := HL.out wr (H1x.out.1)
        have gl := World.block_lt_of_cell? _ _ l0
        have gm := World.block_lt_of_cell? _ _ m0
        go_wp2_with (first | (go_at_call 30; (with_reducible refine (CW1.out _).mono ?_); rintro z5 w5 ⟨rfl, hb5⟩; have x0 : w5.cell? ⟨wr.heap.size, 0, none⟩ = some (.int .i64 X2) := cl_kept hb5 (by simp [go_sem]); have x1c : w5.cell? ⟨wr.heap.size, 1, none⟩ = some (.int .i64 Y2) := cl_kept hb5 (by simp [go_sem]); have x2c : w5.cell? ⟨wr.heap.size, 2, none⟩ = some (.int .i64 Z2) := cl_kept hb5 (by simp [go_sem])) | (go_at_call 24; (with_reducible refine (CF1.out _).mono ?_); rintro z6 w6 ⟨rfl, hb6⟩; have HB6 : Hid (Below wr.heap.size wr w6) := bl_via (bl_via (bl_alloc (bl_refl _)) hb5) hb6; clear hb5 hb6 x0 x1c x2c) | (at_builtin; refine wpList_append_own _ rfl (.tmp 84) (.tmp 92) 33 rfl w4.heap.size 25 i25 (.agg #[.int .i64 0, .int .i64 0, .int .i64 0]) 3 24 Try.underlying33 HI.out.1 HI.out.2.1 HI.out.2.2.1 HI.out.2.2.2 rfl (by decide) u11 1 (rw3 G1 G2 G3) rfl (own_below H1x.out.2 (bl_alloc HB6.out)) ⟨w6.heap.size, 0, none⟩ 1 1 (rw3 H1 H2 H3) rfl rfl (three_cells (by simp [go_sem]) (by simp [go_sem]) (by simp [go_sem])) (three_one _ _ _) (by unfold maxLen; omega) (by omega) (by have := (H1x.out.1).size; have := HB6.out.size; simp; omega) ?gA) | fail)
        case gA =>
          intro v' w7 ho hg _
          have HN : Hid (Below w4.heap.size w4 w7 ∧ w7.ownsRow w4.heap.size 25 3 v' (1 + 1) ((rw3 G1 G2 G3) ++ rw3 H1 H2 H3)) := ⟨bl_own (bl_via (H1x.out.1) (bl_alloc HB6.out)) (own_below H1x.out.2 (bl_alloc HB6.out)) (Nat.le_refl _) hg, ho⟩
          clear ho hg
          go_wp2
          go_roundg 0
          case measure => omega
          case rel => exact Or.inr (Or.inr ⟨rfl, by go_num, HN.out⟩)
      · obtain ⟨g, cap, rfl, hrow, hge⟩ := own_two H2x.out.2
        have CZ : Hid (Calls Try.prog 31 #[.slice (some ⟨g, 0, none⟩) 2 cap, .func (.func 32) #[] #[]] wr fun z w' => z = .returned (.tuple #[]) ∧ RowS w' g H1 H2 H3 G1 G2 G3 ∧ Below w.heap.size w w') := sort_swap g cap G1 G2 G3 H1 H2 H3 w wr hrow (bl_via HB.out H2x.out.1) (by have := HB.out.size; omega) hc
        clear hrow hge
        go_wp2_with (go_at_call 31; refine CZ.out.mono ?_; rintro z8 w8 ⟨rfl, hrs, hb8⟩)
        refine bodyPost_ret (v := .tuple #[_, _]) (by simp [results, Try.results14, go_sem]) rfl ⟨g, cap, rfl, hrs.1, hb8⟩
end Go.Proofs.Ytohnppjbmpaomaa
