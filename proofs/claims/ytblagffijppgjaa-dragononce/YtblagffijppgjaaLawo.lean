/- The law DragonOnce. -/
import Derived.Test.YtblagffijppgjaaKeys
namespace Go.Proofs.Ytblagffijppgjaa
open Go.RowKit

theorem two_boxes (w : World) (o1 o2 : Obj) : ((w.alloc o1).alloc o2).drew.heap[w.heap.size]? = some o1 ∧ ((w.alloc o1).alloc o2).drew.heap[w.heap.size + 1]? = some o2 := by
  have e : ((w.alloc o1).alloc o2).drew.heap = (w.heap.push o1).push o2 := rfl
  rw [e]
  refine ⟨?_, ?_⟩ <;> simp only [Array.getElem?_push, Array.size_push] <;> (repeat (first | rw [if_pos trivial] | rw [if_neg (by omega)] | rw [if_pos (by omega)]))
/-- A round's state: the two ends of a step in their boxes, what has been seen. -/
def Ed (w2 W : World) (b1 b2 G : Nat) (ax ay bx bY : Int) (O : Nat → Bool) : Prop :=
  (Cl W b1 0 (.int .i64 ax) ∧ Cl W b1 1 (.int .i64 ay)) ∧ (Cl W b2 0 (.int .i64 bx) ∧ Cl W b2 1 (.int .i64 bY)) ∧ BR W G 131072 O ∧ Below w2.heap.size w2 W
theorem Ed.kept {w2 W W' : World} {b1 b2 G : Nat} {ax ay bx bY : Int} {O : Nat → Bool} (h : Ed w2 W b1 b2 G ax ay bx bY O) (hb : Below W.heap.size W W') : Ed w2 W' b1 b2 G ax ay bx bY O := by
  obtain ⟨⟨h1, h2⟩, ⟨h3, h4⟩, h5, h6⟩ := h
  have g := bl_grown hb
  exact ⟨⟨h1.grown g (by simp), h2.grown g (by simp)⟩, ⟨h3.grown g (by simp), h4.grown g (by simp)⟩, h5.kept hb, bl_via h6 hb⟩
theorem Ed.swap {w2 W : World} {b1 b2 G : Nat} {ax ay bx bY : Int} {O : Nat → Bool} (h : Ed w2 W b1 b2 G ax ay bx bY O) (n12 : b1 ≠ b2) (hb1 : w2.heap.size ≤ b1) (hb2 : w2.heap.size ≤ b2) (g1 : G ≠ b1) (g2 : G ≠ b2) :
    Ed w2 ((((W.setCell ⟨b1, 0, none⟩ (.int .i64 bx)).setCell ⟨b1, 1, none⟩ (.int .i64 bY)).setCell ⟨b2, 0, none⟩ (.int .i64 ax)).setCell ⟨b2, 1, none⟩ (.int .i64 ay)) b1 b2 G bx bY ax ay O := by
  obtain ⟨⟨h1, h2⟩, ⟨h3, h4⟩, h5, h6⟩ := h
  have q1 := grown_two W b1 (.int .i64 bx) (.int .i64 bY)
  have q2 := grown_two ((W.setCell ⟨b1, 0, none⟩ (.int .i64 bx)).setCell ⟨b1, 1, none⟩ (.int .i64 bY)) b2 (.int .i64 ax) (.int .i64 ay)
  have a1 : Cl ((W.setCell ⟨b1, 0, none⟩ (.int .i64 bx)).setCell ⟨b1, 1, none⟩ (.int .i64 bY)) b1 0 (.int .i64 bx) := (h1.set _).other _ (by omega)
  have a2 : Cl ((W.setCell ⟨b1, 0, none⟩ (.int .i64 bx)).setCell ⟨b1, 1, none⟩ (.int .i64 bY)) b1 1 (.int .i64 bY) := (h2.other _ (by omega)).set _
  have a3 := h3.grown q1 (by simp; omega)
  have a4 := h4.grown q1 (by simp; omega)
  have l6 : Below w2.heap.size w2 ((W.setCell ⟨b1, 0, none⟩ (.int .i64 bx)).setCell ⟨b1, 1, none⟩ (.int .i64 bY)) := h6.grown q1 h6.size (fun k hk => by cases hk; exact hb1)
  refine ⟨⟨a1.grown q2 (by simp; omega), a2.grown q2 (by simp; omega)⟩, ⟨(a3.set _).other _ (by omega), (a4.other _ (by omega)).set _⟩, ?_, ?_⟩
  · exact (h5.grown q1 (by simp; omega)).grown q2 (by simp; omega)
  · exact l6.grown q2 l6.size (fun k hk => by cases hk; exact hb2)
set_option maxRecDepth 100000 in
set_option maxHeartbeats 4000000 in
theorem once_any (a : Option Addr) (c : Nat) (l : List Int) (w : World) (hv : Sg w (.slice a l.length c) l) (hb : ∀ i, i < l.length → -9223372036854775808 ≤ gt l i ∧ gt l i ≤ 9223372036854775807) :
    Calls Try.prog 6 #[.slice a l.length c] w fun e w' => e = .returned (.bool true) ∧ Below w.heap.size w w' := by
  have CK : Hid (Calls Try.prog 16 #[.slice a l.length c, .int .i64 10] w fun e w' => ∃ (fs : List Int) (a c : _), e = .returned (.slice a fs.length c) ∧ (fs.length ≤ 10 ∧ allK fs = true) ∧ Sg w' (.slice a fs.length c) fs ∧ Below w.heap.size w w') := kinds_any a c l w hv hb
  have C9 : Hid (∀ (fs : List Int) (W : World) (u : Value), fs.length ≤ 10 → allK fs = true → Sg W u fs → Calls Try.prog 9 #[u] W fun e w' => ∃ a c, e = .returned (.tuple #[.slice a ((opn fs).length + 2) c, .int .i64 0]) ∧ PW w' a ((opn fs).length + 2) (opn fs) ∧ Below W.heap.size W w') := fun fs W u h10 ha hu => (path9 u fs W hu (by omega)).mono fun e w' ⟨u, h1, h2, h3⟩ => by
    have hf : fmay fs = 0 := fmay_ok.2 ⟨h10, ha⟩
    rw [pathR, if_pos hf] at h2
    rw [hf] at h1
    obtain ⟨a, c, rfl, h4⟩ := pw_of h2
    exact ⟨a, c, h1, h4, h3⟩
  obtain ⟨i4, hI⟩ := info_parts inf4
  have HI : Hid (Try.prog.info? 4 = some i4 ∧ i4.zero = some (.bool false) ∧ i4.size = 1 ∧ i4.bytes = 1) := hI
  clear hI hv hb
  go_enter Try.func6, Try.ntmps6
  go_wp2_with (go_at_call 16; refine CK.out.mono ?_; rintro e w1 ⟨fs, a1, c1, rfl, ⟨h10, ha⟩, hs, hb⟩; have H1 : Hid (allK fs = true ∧ Sg w1 (.slice a1 fs.length c1) fs ∧ Below w.heap.size w w1) := ⟨ha, hs, hb⟩; clear ha hs hb)
  obtain ⟨N, hN⟩ : ∃ N, N = 2 ^ fs.length := ⟨_, rfl⟩
  obtain ⟨rs, hrs⟩ : ∃ rs, rs = fs.reverse := ⟨_, rfl⟩
  have HRS : Hid (rs.length ≤ 10 ∧ 2 ^ rs.length = N) := by
    rw [hrs, List.length_reverse]
    exact ⟨h10, hN.symm⟩
  have HKD : Hid (∀ k ∈ rs, k = 1 ∨ k = 2) := fun k hk => allK_mem H1.out.1 k (by rw [hrs] at hk; simpa using hk)
  have HOP : Hid (opn fs = opr rs) := by
    have := opr_opn fs
    rw [← hrs] at this
    exact this
  have hol := opn_len fs
  rw [← hN] at hol
  have hp : wrap64 ((2 : Int) ^ fs.length) = (N : Int) := by rw [(shl_nat h10).1, hN]
  have hN9 : N ≤ 1024 := by rw [hN]; exact pow10 h10
  have hN1 : 1 ≤ N := by rw [hN]; exact pow_pos _
  have HC9 : Hid (∀ (W : World) (u : Value), Sg W u fs → Calls Try.prog 9 #[u] W fun e w' => ∃ a c, e = .returned (.tuple #[.slice a (N + 1) c, .int .i64 0]) ∧ (∀ i, i < N + 1 → ∃ g, a = some ⟨g, 0, none⟩ ∧ w'.cell? ⟨g, i * 2, none⟩ = some (.int .i64 (ps rs i).1) ∧ w'.cell? ⟨g, i * 2 + 1, none⟩ = some (.int .i64 (ps rs i).2)) ∧ Below W.heap.size W w') := fun W u hu => (C9.out fs W u h10 H1.out.1 hu).mono fun e w' ⟨a, c, h1, h2, h3⟩ => by
    have e1 : (opn fs).length + 2 = N + 1 := by omega
    rw [e1] at h1 h2
    refine ⟨a, c, h1, fun i hi => ?_, h3⟩
    obtain ⟨g, x1, x2, x3⟩ := h2 i hi
    rw [HOP.out, pw_ps HKD.out i (by rw [HRS.out.2]; omega)] at x2 x3
    exact ⟨g, x1, x2, x3⟩
  obtain ⟨⟨xl, yl⟩, hxl⟩ : ∃ p, p = ps rs N := ⟨_, rfl⟩
  have hend := end_far rs
  have hnear := near HRS.out.1 (i := N) (by rw [HRS.out.2]; omega)
  rw [HRS.out.2, ← hxl] at hend
  rw [← hxl] at hnear
  have HXL : Hid ((xl, yl) = ps rs N) := hxl
  simp only at hend hnear
  have sq1 : 0 ≤ xl * xl := by rcases Int.le_total 0 xl with h | h <;> (first | exact Int.mul_nonneg h h | exact Int.mul_nonneg_of_nonpos_of_nonpos h h)
  have sq2 : 0 ≤ yl * yl := by rcases Int.le_total 0 yl with h | h <;> (first | exact Int.mul_nonneg h h | exact Int.mul_nonneg_of_nonpos_of_nonpos h h)
  have sq3 : xl * xl ≤ 1024 := by omega
  have sq4 : yl * yl ≤ 1024 := by omega
  have hne : (xl * xl + yl * yl != (N : Int)) = false := by rw [hend]; simp
  clear hN hrs hol C9 CK hxl hend
  go_wp2_with (first
    | (go_at_call 9; refine (HC9.out _ _ H1.out.2.1).mono ?_; rintro e w2 ⟨a2, c2, rfl, hs, hb⟩; have H2 : Hid ((∀ i, i < N + 1 → ∃ g, a2 = some ⟨g, 0, none⟩ ∧ w2.cell? ⟨g, i * 2, none⟩ = some (.int .i64 (ps rs i).1) ∧ w2.cell? ⟨g, i * 2 + 1, none⟩ = some (.int .i64 (ps rs i).2)) ∧ Below w.heap.size w w2) := ⟨hs, bl_via H1.out.2.2 hb⟩; clear hs hb; obtain ⟨g2, ha2, e0, e1⟩ := H2.out.1 N (by omega); subst ha2; rw [← HXL.out] at e0 e1; simp only at e0 e1; have z2 : g2 < w2.heap.size := World.block_lt_of_cell? _ _ e0)
    | (at_make; refine wpList_make_full _ rfl _ _ 37 rfl (w2.heap.size + 1) 4 i4 (.bool false) 1 Try.underlying37 HI.out.1 HI.out.2.1 HI.out.2.2.1 _ _ _ _ 131072 rfl rfl rfl rfl (by rw [HI.out.2.2.2]; omega) (by unfold maxLen; omega) (by simp) ?mk))
  case mk =>
    intro w3 hown hgr
    try rw [hp]
    have HS : Hid (BR w3 (w2.heap.size + 1) 131072 (seenO rs 0) ∧ Below w2.heap.size w2 w3) := ⟨by rw [seen_zero]; exact made_cells hown, bl_via (bl_alloc (bl_refl _)) (bl_grown_none hgr)⟩
    have HP2 : Hid (∀ i, i < N + 1 → w2.cell? ⟨g2, i * 2, none⟩ = some (.int .i64 (ps rs i).1) ∧ w2.cell? ⟨g2, i * 2 + 1, none⟩ = some (.int .i64 (ps rs i).2)) := fun i hi => by
      obtain ⟨g, e, h1, h2⟩ := H2.out.1 i hi
      cases e
      exact ⟨h1, h2⟩
    have HBW : Hid (Below w.heap.size w w2) := H2.out.2
    have hb3 : w2.heap.size + 1 < w3.heap.size := World.block_lt_of_cell? _ _ (HS.out.1 0 (by omega)).1
    clear hown hgr e0 e1 H2 hp hne sq1 sq2 sq3 sq4 hnear HXL HC9 H1 HI HOP HKD
    obtain ⟨G, hG⟩ : ∃ G, G = w2.heap.size + 1 := ⟨_, rfl⟩
    have HG : Hid (G = w2.heap.size + 1) := hG
    rw [← hG] at HS hb3 ⊢
    have g2G : ¬ g2 = G := by omega
    clear hG
    go_wp2
    go_loopg [9] N (fun gk s9 wx => ∃ i : Nat, i ≤ N ∧ gk = N - i ∧ s9 = .int .i64 (i : Int) ∧ Hid (BR wx G 131072 (seenO rs i)) ∧ Hid (Below w2.heap.size w2 wx))
    case atStart => exact ⟨0, by omega, rfl, rfl, HS.out.1, HS.out.2⟩
    case round =>
      obtain ⟨i, hi, rfl, rfl, HBR, HB⟩ := hrel
      by_cases h1 : i < N
      · have i1 : (i : Int) < (N : Int) := by omega
        have i0 : (0 : Int) ≤ (i : Int) := by omega
        obtain ⟨j, hj⟩ : ∃ j, j = i + 1 := ⟨_, rfl⟩
        have HJ : Hid (j = i + 1) := hj
        have ej : IntKind.i64.wrap ((i : Int) + 1) = (j : Int) := by rw [IntKind.wrap_i64]; omega
        have j0 : (0 : Int) ≤ (j : Int) := by omega
        have j1 : (j : Int) < (N : Int) + 1 := by omega
        have k1 : (i : Int) < (N : Int) + 1 := by omega
        obtain ⟨p0, p1⟩ := HP2.out i (by omega)
        obtain ⟨q0, q1⟩ := HP2.out j (by omega)
        replace p0 := cl_kept HB.out p0
        replace p1 := cl_kept HB.out p1
        replace q0 := cl_kept HB.out q0
        replace q1 := cl_kept HB.out q1
        have zr : g2 < wr.heap.size := World.block_lt_of_cell? _ _ p0
        have HED : Hid (∃ (xN yN : Nat), xN < 256 ∧ yN < 256 ∧ ((ps rs i = ((xN : Int) - 128, (yN : Int) - 128) ∧ ps rs (i + 1) = ((xN : Int) - 127, (yN : Int) - 128) ∧ key rs i = 2 * ((xN : Int) * 256 + yN)) ∨ (ps rs i = ((xN : Int) - 128, (yN : Int) - 128) ∧ ps rs (i + 1) = ((xN : Int) - 128, (yN : Int) - 127) ∧ key rs i = 2 * ((xN : Int) * 256 + yN) + 1) ∨ (ps rs i = ((xN : Int) - 127, (yN : Int) - 128) ∧ ps rs (i + 1) = ((xN : Int) - 128, (yN : Int) - 128) ∧ key rs i = 2 * ((xN : Int) * 256 + yN)) ∨ (ps rs i = ((xN : Int) - 128, (yN : Int) - 127) ∧ ps rs (i + 1) = ((xN : Int) - 128, (yN : Int) - 128) ∧ key rs i = 2 * ((xN : Int) * 256 + yN) + 1))) := edge HRS.out.1 (by rw [HRS.out.2]; exact h1)
        obtain ⟨⟨x, y⟩, hxy⟩ : ∃ p, p = ps rs i := ⟨_, rfl⟩
        obtain ⟨⟨x2, y2⟩, hxy2⟩ : ∃ p, p = ps rs j := ⟨_, rfl⟩
        rw [← hj] at HED
        clear hj
        rw [← hxy] at p0 p1 HED
        rw [← hxy2] at q0 q1 HED
        simp only at p0 p1 q0 q1
        clear hxy hxy2
        go_wp2
        go_cut [10, 11] (fun s10 s11 wx => ∃ b1 b2, s10 = .pointer (some ⟨b1, 0, none⟩) ∧ s11 = .pointer (some ⟨b2, 0, none⟩) ∧ Hid ((Cl wx b1 0 (.int .i64 x) ∧ Cl wx b1 1 (.int .i64 y)) ∧ (Cl wx b2 0 (.int .i64 x2) ∧ Cl wx b2 1 (.int .i64 y2)) ∧ b1 ≠ b2 ∧ wr.heap.size ≤ b1 ∧ wr.heap.size ≤ b2 ∧ Below wr.heap.size wr wx))
        case first =>
          go_region_held3 (fun w' => (w'.cell? ⟨g2, i * 2, none⟩ = some (.int .i64 x) ∧ w'.cell? ⟨g2, i * 2 + 1, none⟩ = some (.int .i64 y)) ∧ w'.cell? ⟨g2, j * 2, none⟩ = some (.int .i64 x2) ∧ w'.cell? ⟨g2, j * 2 + 1, none⟩ = some (.int .i64 y2)) ((simp [go_sem, *]; done)) (fail)
          all_goals
            go_wp2_with fail
            go_meet
            first
              | exact ⟨_, _, rfl, rfl, ⟨cl_of (two_boxes wr _ _).1 rfl, cl_of (two_boxes wr _ _).1 rfl⟩, ⟨cl_of (two_boxes wr _ _).2 rfl, cl_of (two_boxes wr _ _).2 rfl⟩, by omega, by omega, by omega, bl_drew (bl_alloc (bl_alloc (bl_refl _)))⟩
              | exact ⟨_, _, rfl, rfl, ⟨cl_of (two_boxes wr _ _).2 rfl, cl_of (two_boxes wr _ _).2 rfl⟩, ⟨cl_of (two_boxes wr _ _).1 rfl, cl_of (two_boxes wr _ _).1 rfl⟩, by omega, by omega, by omega, bl_drew (bl_alloc (bl_alloc (bl_refl _)))⟩
        case rest =>
          obtain ⟨b1, b2, rfl, rfl, HCL⟩ := hcut
          have HST : Hid (Ed w2 wc b1 b2 G x y x2 y2 (seenO rs i)) := ⟨HCL.out.1, HCL.out.2.1, HBR.out.kept HCL.out.2.2.2.2.2, bl_via HB.out HCL.out.2.2.2.2.2⟩
          have hGr : G < wr.heap.size := World.block_lt_of_cell? _ _ (HBR.out 0 (by omega)).1
          have hn := HCL.out.2.2
          have n12 : ¬ b1 = b2 := hn.1
          have n21 : ¬ b2 = b1 := fun e => hn.1 e.symm
          have nG1 : ¬ G = b1 := by omega
          have nG2 : ¬ G = b2 := by omega
          have nb1 : w2.heap.size ≤ b1 := by have := HB.out.size; omega
          have nb2 : w2.heap.size ≤ b2 := by have := HB.out.size; omega
          obtain ⟨⟨⟨c0, f0⟩, c1, f1⟩, ⟨⟨d0, e0⟩, d1, e1⟩, _, _⟩ := HST.out
          have z1 : b1 < wc.heap.size := World.block_lt_of_cell? _ _ c0
          have z2 : b2 < wc.heap.size := World.block_lt_of_cell? _ _ d0
          obtain ⟨xN, yN, hx, hy, hcase⟩ := HED.out
          clear p0 p1 q0 q1 HCL hn HED HBR HB hGr zr
          obtain ⟨sN, hsN⟩ : ∃ sN : Nat, sN = 2 * (xN * 256 + yN) := ⟨_, rfl⟩
          have hs1 : sN + 1 < 131072 := by omega
          have es : 2 * ((xN : Int) * 2 * 128 + (yN : Int)) = (sN : Int) := by omega
          have ek : 2 * ((xN : Int) * 256 + (yN : Int)) = (sN : Int) := by omega
          clear hsN
          rcases hcase with ⟨h3, h4, hk⟩ | ⟨h3, h4, hk⟩ | ⟨h3, h4, hk⟩ | ⟨h3, h4, hk⟩
          · have hA := Prod.mk.inj h3
            have hB := Prod.mk.inj h4
            have bx1 : -128 ≤ x ∧ x ≤ 128 ∧ -128 ≤ y ∧ y ≤ 128 := by omega
            have bx2 : -128 ≤ x2 ∧ x2 ≤ 128 ∧ -128 ≤ y2 ∧ y2 ≤ 128 := by omega
            obtain ⟨bxa, bxb, bxc, bxd⟩ := bx1
            obtain ⟨bxe, bxf, bxg, bxh⟩ := bx2
            have ex : x + 128 = (xN : Int) := by omega
            have ey : y + 128 = (yN : Int) := by omega
            have lt1 : decide (x2 < x) = false := by rw [decide_eq_false_iff_not]; omega
            have lt2 : decide (y2 < y) = false := by rw [decide_eq_false_iff_not]; omega
            have lt3 : ¬ x2 < x := by omega
            have lt4 : ¬ y2 < y := by omega
            have e1 : (x2 - x + y2 - y != 1) = false := by
              have : x2 - x + y2 - y = 1 := by omega
              rw [this]
              rfl
            have e2 : (x2 != x) = true := by
              rw [bne_iff_ne]
              omega
            have e3 : (x2 == x) = false := by rw [beq_eq_false_iff_ne]; omega
            have e4 : (y2 != y) = false := by
              have : y2 = y := by omega
              rw [this]
              simp
            obtain ⟨tN, htN⟩ : ∃ tN : Nat, tN = sN := ⟨_, rfl⟩
            have HK : Hid (key rs i = (tN : Int)) := by
              have : key rs i = (tN : Int) := by rw [hk, ek, htN]
              exact this
            have ht1 : tN < 131072 := by omega
            subst htN
            have xa : (0 : Int) ≤ (xN : Int) := by omega
            have xb : (xN : Int) < 256 := by omega
            have ya : (0 : Int) ≤ (yN : Int) := by omega
            have yb : (yN : Int) < 256 := by omega
            have xg1 : decide ((xN : Int) < 0) = false := by rw [decide_eq_false_iff_not]; omega
            have xg2 : decide (256 ≤ (xN : Int)) = false := by rw [decide_eq_false_iff_not]; omega
            have yg1 : decide ((yN : Int) < 0) = false := by rw [decide_eq_false_iff_not]; omega
            have yg2 : decide (256 ≤ (yN : Int)) = false := by rw [decide_eq_false_iff_not]; omega
            have ta : (0 : Int) ≤ (tN : Int) := by omega
            have tb : (tN : Int) < 131072 := by omega
            clear h3 h4 hA hB hk ek
            go_wp2
            refine wp_named ?_
            intro W hW
            have HE : Hid (Ed w2 W b1 b2 G x y x2 y2 (seenO rs i)) := by
              rw [hW]
              exact HST.out
            clear hW HST c0 f0 c1 f1 d0 e0 d1 z1 z2
            have c0 := HE.out.1.1.1
            have c1 := HE.out.1.2.1
            have d0 := HE.out.2.1.1.1
            have d1 := HE.out.2.1.2.1
            have z1 : b1 < W.heap.size := World.block_lt_of_cell? _ _ c0
            have z2 : b2 < W.heap.size := World.block_lt_of_cell? _ _ d0
            have kc := Kin.cells W
            have kn : Nonempty (Kin W) := ⟨⟨W, bl_refl _⟩⟩
            refine wp_region_kin (by kernel_rfl) (by kernel_rfl) ?_
            repeat (go_big_quiet_step (fail))
            refine wpQuiet_nil ?_
            intro wq hw'
            obtain ⟨nq, hw''⟩ := hw'
            have hq : Below W.heap.size W wq := hw'' ▸ nq.h
            have HQ : Hid (Ed w2 wq b1 b2 G x y x2 y2 (seenO rs i)) := HE.out.kept hq
            clear hw'' nq kc kn c0 c1 d0 d1 z1 z2 hq HE
            have c0 := HQ.out.1.1.1
            have d0 := HQ.out.2.1.1.1
            have z1 : b1 < wq.heap.size := World.block_lt_of_cell? _ _ c0
            have z2 : b2 < wq.heap.size := World.block_lt_of_cell? _ _ d0
            have hsn := seen_new HRS.out.1 (by rw [HRS.out.2]; exact h1) HK.out
            obtain ⟨s0, s1⟩ := HQ.out.2.2.1 tN ht1
            rw [hsn] at s0
            have z3 : G < wq.heap.size := World.block_lt_of_cell? _ _ s0
            clear hsn ex ey bxa bxb bxc bxd bxe bxf bxg bxh e1 e2 lt1 lt3 hx hy
            go_wp2
            go_roundg (N - (i + 1))
            case measure => omega
            case rel =>
              have h7 := HQ.out.2.2.1.set (k := tN) true
              rw [seen_succ HK.out] at h7
              exact ⟨i + 1, by omega, rfl, by (rw [HJ.out]; try go_num), h7, HQ.out.2.2.2.setCell (by have h8 := HG.out; show w2.heap.size ≤ G; omega) _⟩
          · have hA := Prod.mk.inj h3
            have hB := Prod.mk.inj h4
            have bx1 : -128 ≤ x ∧ x ≤ 128 ∧ -128 ≤ y ∧ y ≤ 128 := by omega
            have bx2 : -128 ≤ x2 ∧ x2 ≤ 128 ∧ -128 ≤ y2 ∧ y2 ≤ 128 := by omega
            obtain ⟨bxa, bxb, bxc, bxd⟩ := bx1
            obtain ⟨bxe, bxf, bxg, bxh⟩ := bx2
            have ex : x + 128 = (xN : Int) := by omega
            have ey : y + 128 = (yN : Int) := by omega
            have lt1 : decide (x2 < x) = false := by rw [decide_eq_false_iff_not]; omega
            have lt2 : decide (y2 < y) = false := by rw [decide_eq_false_iff_not]; omega
            have lt3 : ¬ x2 < x := by omega
            have lt4 : ¬ y2 < y := by omega
            have e1 : (x2 - x + y2 - y != 1) = false := by
              have : x2 - x + y2 - y = 1 := by omega
              rw [this]
              rfl
            have e2 : (x2 != x) = false := by
              have : x2 = x := by omega
              rw [this]
              simp
            have e3 : (x2 == x) = true := by rw [beq_iff_eq]; omega
            obtain ⟨tN, htN⟩ : ∃ tN : Nat, tN = sN + 1 := ⟨_, rfl⟩
            have et : (sN : Int) + 1 = (tN : Int) := by omega
            have HK : Hid (key rs i = (tN : Int)) := by
              have : key rs i = (tN : Int) := by rw [hk, ek, et]
              exact this
            have ht1 : tN < 131072 := by omega
            clear htN
            have xa : (0 : Int) ≤ (xN : Int) := by omega
            have xb : (xN : Int) < 256 := by omega
            have ya : (0 : Int) ≤ (yN : Int) := by omega
            have yb : (yN : Int) < 256 := by omega
            have xg1 : decide ((xN : Int) < 0) = false := by rw [decide_eq_false_iff_not]; omega
            have xg2 : decide (256 ≤ (xN : Int)) = false := by rw [decide_eq_false_iff_not]; omega
            have yg1 : decide ((yN : Int) < 0) = false := by rw [decide_eq_false_iff_not]; omega
            have yg2 : decide (256 ≤ (yN : Int)) = false := by rw [decide_eq_false_iff_not]; omega
            have ta : (0 : Int) ≤ (tN : Int) := by omega
            have tb : (tN : Int) < 131072 := by omega
            clear h3 h4 hA hB hk ek
            go_wp2
            refine wp_named ?_
            intro W hW
            have HE : Hid (Ed w2 W b1 b2 G x y x2 y2 (seenO rs i)) := by
              rw [hW]
              exact HST.out
            clear hW HST c0 f0 c1 f1 d0 e0 d1 z1 z2
            have c0 := HE.out.1.1.1
            have c1 := HE.out.1.2.1
            have d0 := HE.out.2.1.1.1
            have d1 := HE.out.2.1.2.1
            have z1 : b1 < W.heap.size := World.block_lt_of_cell? _ _ c0
            have z2 : b2 < W.heap.size := World.block_lt_of_cell? _ _ d0
            have kc := Kin.cells W
            have kn : Nonempty (Kin W) := ⟨⟨W, bl_refl _⟩⟩
            refine wp_region_kin (by kernel_rfl) (by kernel_rfl) ?_
            repeat (go_big_quiet_step (fail))
            refine wpQuiet_nil ?_
            intro wq hw'
            obtain ⟨nq, hw''⟩ := hw'
            have hq : Below W.heap.size W wq := hw'' ▸ nq.h
            have HQ : Hid (Ed w2 wq b1 b2 G x y x2 y2 (seenO rs i)) := HE.out.kept hq
            clear hw'' nq kc kn c0 c1 d0 d1 z1 z2 hq HE
            have c0 := HQ.out.1.1.1
            have d0 := HQ.out.2.1.1.1
            have z1 : b1 < wq.heap.size := World.block_lt_of_cell? _ _ c0
            have z2 : b2 < wq.heap.size := World.block_lt_of_cell? _ _ d0
            have hsn := seen_new HRS.out.1 (by rw [HRS.out.2]; exact h1) HK.out
            obtain ⟨s0, s1⟩ := HQ.out.2.2.1 tN ht1
            rw [hsn] at s0
            have z3 : G < wq.heap.size := World.block_lt_of_cell? _ _ s0
            clear hsn ex ey bxa bxb bxc bxd bxe bxf bxg bxh e1 e2 lt1 lt3 hx hy
            go_wp2
            go_roundg (N - (i + 1))
            case measure => omega
            case rel =>
              have h7 := HQ.out.2.2.1.set (k := tN) true
              rw [seen_succ HK.out] at h7
              exact ⟨i + 1, by omega, rfl, by (rw [HJ.out]; try go_num), h7, HQ.out.2.2.2.setCell (by have h8 := HG.out; show w2.heap.size ≤ G; omega) _⟩
          · have hA := Prod.mk.inj h3
            have hB := Prod.mk.inj h4
            have bx1 : -128 ≤ x ∧ x ≤ 128 ∧ -128 ≤ y ∧ y ≤ 128 := by omega
            have bx2 : -128 ≤ x2 ∧ x2 ≤ 128 ∧ -128 ≤ y2 ∧ y2 ≤ 128 := by omega
            obtain ⟨bxa, bxb, bxc, bxd⟩ := bx1
            obtain ⟨bxe, bxf, bxg, bxh⟩ := bx2
            have ex : x2 + 128 = (xN : Int) := by omega
            have ey : y2 + 128 = (yN : Int) := by omega
            have lt1 : decide (x2 < x) = true := by rw [decide_eq_true_eq]; omega
            have lt3 : x2 < x := by omega
            have e1 : (x - x2 + y - y2 != 1) = false := by
              have : x - x2 + y - y2 = 1 := by omega
              rw [this]
              rfl
            have e2 : (x != x2) = true := by
              rw [bne_iff_ne]
              omega
            have e3 : (x == x2) = false := by rw [beq_eq_false_iff_ne]; omega
            have e4 : (y != y2) = false := by
              have : y = y2 := by omega
              rw [this]
              simp
            obtain ⟨tN, htN⟩ : ∃ tN : Nat, tN = sN := ⟨_, rfl⟩
            have HK : Hid (key rs i = (tN : Int)) := by
              have : key rs i = (tN : Int) := by rw [hk, ek, htN]
              exact this
            have ht1 : tN < 131072 := by omega
            subst htN
            have xa : (0 : Int) ≤ (xN : Int) := by omega
            have xb : (xN : Int) < 256 := by omega
            have ya : (0 : Int) ≤ (yN : Int) := by omega
            have yb : (yN : Int) < 256 := by omega
            have xg1 : decide ((xN : Int) < 0) = false := by rw [decide_eq_false_iff_not]; omega
            have xg2 : decide (256 ≤ (xN : Int)) = false := by rw [decide_eq_false_iff_not]; omega
            have yg1 : decide ((yN : Int) < 0) = false := by rw [decide_eq_false_iff_not]; omega
            have yg2 : decide (256 ≤ (yN : Int)) = false := by rw [decide_eq_false_iff_not]; omega
            have ta : (0 : Int) ≤ (tN : Int) := by omega
            have tb : (tN : Int) < 131072 := by omega
            clear h3 h4 hA hB hk ek
            go_wp2
            refine wp_named ?_
            intro W hW
            have HE : Hid (Ed w2 W b1 b2 G x2 y2 x y (seenO rs i)) := by
              rw [hW]
              exact HST.out.swap n12 nb1 nb2 nG1 nG2
            clear hW HST c0 f0 c1 f1 d0 e0 d1 z1 z2
            have c0 := HE.out.1.1.1
            have c1 := HE.out.1.2.1
            have d0 := HE.out.2.1.1.1
            have d1 := HE.out.2.1.2.1
            have z1 : b1 < W.heap.size := World.block_lt_of_cell? _ _ c0
            have z2 : b2 < W.heap.size := World.block_lt_of_cell? _ _ d0
            have kc := Kin.cells W
            have kn : Nonempty (Kin W) := ⟨⟨W, bl_refl _⟩⟩
            refine wp_region_kin (by kernel_rfl) (by kernel_rfl) ?_
            repeat (go_big_quiet_step (fail))
            refine wpQuiet_nil ?_
            intro wq hw'
            obtain ⟨nq, hw''⟩ := hw'
            have hq : Below W.heap.size W wq := hw'' ▸ nq.h
            have HQ : Hid (Ed w2 wq b1 b2 G x2 y2 x y (seenO rs i)) := HE.out.kept hq
            clear hw'' nq kc kn c0 c1 d0 d1 z1 z2 hq HE
            have c0 := HQ.out.1.1.1
            have d0 := HQ.out.2.1.1.1
            have z1 : b1 < wq.heap.size := World.block_lt_of_cell? _ _ c0
            have z2 : b2 < wq.heap.size := World.block_lt_of_cell? _ _ d0
            have hsn := seen_new HRS.out.1 (by rw [HRS.out.2]; exact h1) HK.out
            obtain ⟨s0, s1⟩ := HQ.out.2.2.1 tN ht1
            rw [hsn] at s0
            have z3 : G < wq.heap.size := World.block_lt_of_cell? _ _ s0
            clear hsn ex ey bxa bxb bxc bxd bxe bxf bxg bxh e1 e2 lt1 lt3 hx hy
            go_wp2
            go_roundg (N - (i + 1))
            case measure => omega
            case rel =>
              have h7 := HQ.out.2.2.1.set (k := tN) true
              rw [seen_succ HK.out] at h7
              exact ⟨i + 1, by omega, rfl, by (rw [HJ.out]; try go_num), h7, HQ.out.2.2.2.setCell (by have h8 := HG.out; show w2.heap.size ≤ G; omega) _⟩
          · have hA := Prod.mk.inj h3
            have hB := Prod.mk.inj h4
            have bx1 : -128 ≤ x ∧ x ≤ 128 ∧ -128 ≤ y ∧ y ≤ 128 := by omega
            have bx2 : -128 ≤ x2 ∧ x2 ≤ 128 ∧ -128 ≤ y2 ∧ y2 ≤ 128 := by omega
            obtain ⟨bxa, bxb, bxc, bxd⟩ := bx1
            obtain ⟨bxe, bxf, bxg, bxh⟩ := bx2
            have ex : x2 + 128 = (xN : Int) := by omega
            have ey : y2 + 128 = (yN : Int) := by omega
            have lt1 : decide (x2 < x) = false := by rw [decide_eq_false_iff_not]; omega
            have lt2 : decide (y2 < y) = true := by rw [decide_eq_true_eq]; omega
            have lt3 : ¬ x2 < x := by omega
            have lt4 : y2 < y := by omega
            have e1 : (x - x2 + y - y2 != 1) = false := by
              have : x - x2 + y - y2 = 1 := by omega
              rw [this]
              rfl
            have e2 : (x != x2) = false := by
              have : x = x2 := by omega
              rw [this]
              simp
            have e3 : (x == x2) = true := by rw [beq_iff_eq]; omega
            obtain ⟨tN, htN⟩ : ∃ tN : Nat, tN = sN + 1 := ⟨_, rfl⟩
            have et : (sN : Int) + 1 = (tN : Int) := by omega
            have HK : Hid (key rs i = (tN : Int)) := by
              have : key rs i = (tN : Int) := by rw [hk, ek, et]
              exact this
            have ht1 : tN < 131072 := by omega
            clear htN
            have xa : (0 : Int) ≤ (xN : Int) := by omega
            have xb : (xN : Int) < 256 := by omega
            have ya : (0 : Int) ≤ (yN : Int) := by omega
            have yb : (yN : Int) < 256 := by omega
            have xg1 : decide ((xN : Int) < 0) = false := by rw [decide_eq_false_iff_not]; omega
            have xg2 : decide (256 ≤ (xN : Int)) = false := by rw [decide_eq_false_iff_not]; omega
            have yg1 : decide ((yN : Int) < 0) = false := by rw [decide_eq_false_iff_not]; omega
            have yg2 : decide (256 ≤ (yN : Int)) = false := by rw [decide_eq_false_iff_not]; omega
            have ta : (0 : Int) ≤ (tN : Int) := by omega
            have tb : (tN : Int) < 131072 := by omega
            clear h3 h4 hA hB hk ek
            go_wp2
            refine wp_named ?_
            intro W hW
            have HE : Hid (Ed w2 W b1 b2 G x2 y2 x y (seenO rs i)) := by
              rw [hW]
              exact HST.out.swap n12 nb1 nb2 nG1 nG2
            clear hW HST c0 f0 c1 f1 d0 e0 d1 z1 z2
            have c0 := HE.out.1.1.1
            have c1 := HE.out.1.2.1
            have d0 := HE.out.2.1.1.1
            have d1 := HE.out.2.1.2.1
            have z1 : b1 < W.heap.size := World.block_lt_of_cell? _ _ c0
            have z2 : b2 < W.heap.size := World.block_lt_of_cell? _ _ d0
            have kc := Kin.cells W
            have kn : Nonempty (Kin W) := ⟨⟨W, bl_refl _⟩⟩
            refine wp_region_kin (by kernel_rfl) (by kernel_rfl) ?_
            repeat (go_big_quiet_step (fail))
            refine wpQuiet_nil ?_
            intro wq hw'
            obtain ⟨nq, hw''⟩ := hw'
            have hq : Below W.heap.size W wq := hw'' ▸ nq.h
            have HQ : Hid (Ed w2 wq b1 b2 G x2 y2 x y (seenO rs i)) := HE.out.kept hq
            clear hw'' nq kc kn c0 c1 d0 d1 z1 z2 hq HE
            have c0 := HQ.out.1.1.1
            have d0 := HQ.out.2.1.1.1
            have z1 : b1 < wq.heap.size := World.block_lt_of_cell? _ _ c0
            have z2 : b2 < wq.heap.size := World.block_lt_of_cell? _ _ d0
            have hsn := seen_new HRS.out.1 (by rw [HRS.out.2]; exact h1) HK.out
            obtain ⟨s0, s1⟩ := HQ.out.2.2.1 tN ht1
            rw [hsn] at s0
            have z3 : G < wq.heap.size := World.block_lt_of_cell? _ _ s0
            clear hsn ex ey bxa bxb bxc bxd bxe bxf bxg bxh e1 e2 lt1 lt3 hx hy
            go_wp2
            go_roundg (N - (i + 1))
            case measure => omega
            case rel =>
              have h7 := HQ.out.2.2.1.set (k := tN) true
              rw [seen_succ HK.out] at h7
              exact ⟨i + 1, by omega, rfl, by (rw [HJ.out]; try go_num), h7, HQ.out.2.2.2.setCell (by have h8 := HG.out; show w2.heap.size ≤ G; omega) _⟩
      · have i1 : ¬ (i : Int) < (N : Int) := by omega
        go_wp2
        go_ret
        exact ⟨rfl, bl_via HBW.out HB.out⟩
end Go.Proofs.Ytblagffijppgjaa
