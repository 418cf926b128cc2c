/- The law VertexCrimps, walked. -/
import Derived.Test.YtioajagblphbnaaLawk
namespace Go.Proofs.Ytioajagblphbnaa
open Go.RowKit

theorem tdiv_two (q : Nat) : (2 * (1 + (q : Int))).tdiv 2 = 1 + (q : Int) := by
  rw [Int.tdiv_eq_ediv_of_nonneg (by omega)]
  omega
theorem wnt_step {q i : Nat} (hq : q < 4) (hi : i < q) : 0 ≤ wnt q i * (2 * (1 + (q : Int)) - (i : Int)) ∧ wnt q i * (2 * (1 + (q : Int)) - (i : Int)) ≤ 2000 ∧ 0 ≤ wnt q (i + 1) ∧ wnt q (i + 1) ≤ 200 := by
  have h : ∀ q, q < 4 → ∀ i, i < q → 0 ≤ wnt q i * (2 * (1 + (q : Int)) - (i : Int)) ∧ wnt q i * (2 * (1 + (q : Int)) - (i : Int)) ≤ 2000 ∧ 0 ≤ wnt q (i + 1) ∧ wnt q (i + 1) ≤ 200 := by decide
  exact h q hq i hi
/-- What a list that goes tells at a small angle. -/
def Unl (l : List Int) (W : World) (gs : List Nat) (a : Option Addr) (X : List Int) : Prop := ∀ j, j < gs.length → ∃ ga gk m, a = some ⟨ga, 0, none⟩ ∧ W.cell? ⟨ga, j, none⟩ = some (.slice (some ⟨gk, 0, none⟩) X.length X.length) ∧ Rw W gk (lst X.length m) ∧ m < 2 ^ l.length ∧ goB X m = true
theorem unl_of {l : List Int} {W : World} {gs : List Nat} {a : Option Addr} (h : GR W a gs (dsk l) (KL (dsk l) (2 ^ l.length))) : Unl l W gs a (dsk l) := fun j hj => by
  obtain ⟨ga, ea, hc⟩ := h.1 j hj
  have hr := h.2.2 j hj
  obtain ⟨m, h1, h2, h3⟩ := KL_mem (dsk l) (2 ^ l.length) j (by rw [← h.2.1]; exact hj)
  rw [h3] at hr
  exact ⟨ga, gs.getD j 0, m, ea, hc, hr, h1, h2⟩
theorem Unl.kept {l : List Int} {W W' : World} {gs : List Nat} {a : Option Addr} {X : List Int} (h : Unl l W gs a X) (hb : Below W.heap.size W W') : Unl l W' gs a X := fun j hj => by
  obtain ⟨ga, gk, m, h1, h2, h3, h4⟩ := h j hj
  exact ⟨ga, gk, m, h1, cl_kept hb h2, h3.kept hb, h4⟩
set_option maxRecDepth 100000 in
set_option maxHeartbeats 3200000 in
theorem crimps_any (a : Option Addr) (c : Nat) (l : List Int) (n : Int) (hn1 : -9223372036854775808 ≤ n) (hn2 : n ≤ 9223372036854775807) (w : World) (hv : Sg w (.slice a l.length c) l) (hl : l.length ≤ 17592186044416) :
    Calls Try.prog 4 #[.slice a l.length c, .int .i64 n] w fun e w' => e = .returned (.bool true) ∧ Below w.heap.size w w' := by
  have CP : Hid (∀ W : World, Calls Try.prog 8 #[.int .i64 n, .int .i64 4] W fun e w' => ∃ q : Nat, q < 4 ∧ e = .returned (.int .i64 (q : Int)) ∧ w' = W) := fun W => picked4 n hn1 hn2 W
  have HV : Hid (Sg w (.slice a l.length c) l) := hv
  obtain ⟨i3, hI⟩ := info_parts inf3
  have HI : Hid (Try.prog.info? 3 = some i3 ∧ i3.zero = some (.int .i64 0) ∧ i3.size = 1 ∧ i3.bytes = 8) := hI
  clear hv hI hn1 hn2
  go_enter Try.func4, Try.ntmps4
  go_upto_region 4 with (go_at_call 8; refine (CP.out _).mono ?_; rintro e w1 ⟨q, hq, rfl, rfl⟩)
  clear CP
  go_wp2
  go_loopg [6, 8] (2 * (1 + q)) (fun gk s6 s8 wx => ∃ (i : Nat) (v6 : Value), i ≤ 2 * (1 + q) ∧ gk = 2 * (1 + q) - i ∧ v6 = s6 ∧ s8 = .int .i64 (i : Int) ∧ wx.ownsRow w1.heap.size 3 1 v6 i (rowI (List.replicate i 7)) ∧ Below w1.heap.size w1 wx)
  case atStart => exact ⟨0, _, by omega, rfl, rfl, rfl, ⟨by simp [rowI], .inl ⟨rfl, rfl⟩⟩, bl_refl _⟩
  case round =>
    obtain ⟨i, v6, hi, rfl, rfl, rfl, hO, hB⟩ := hrel
    have HO : Hid (wr.ownsRow w1.heap.size 3 1 v6 i (rowI (List.replicate i 7)) ∧ Below w1.heap.size w1 wr) := ⟨hO, hB⟩
    clear hO hB
    by_cases h1 : i < 2 * (1 + q)
    · have j1 : (i : Int) < 2 * (1 + (q : Int)) := by omega
      go_wp2_with (at_builtin; refine wpList_append_own _ rfl (.tmp 27) (.tmp 28) 22 rfl w1.heap.size 3 i3 (.int .i64 0) 1 8 Try.underlying22 HI.out.1 HI.out.2.1 HI.out.2.2.1 HI.out.2.2.2 rfl (by decide) v6 i (rowI (List.replicate i 7)) rfl (own_below HO.out.1 (bl_alloc (bl_refl _))) ⟨wr.heap.size, 0, none⟩ 1 1 [.int .i64 7] rfl rfl (cell_one _ (by simp [go_sem])) (one_cell _) (by unfold maxLen; omega) (by omega) (by have := HO.out.2.size; simp; omega) ?growA)
      case growA =>
        intro v' w3 hown hgrow _
        have HO3 : Hid (w3.ownsRow w1.heap.size 3 1 v' (i + 1) (rowI (List.replicate (i + 1) 7)) ∧ Below w1.heap.size w1 w3) := by
          refine ⟨?_, bl_own (bl_alloc HO.out.2) (own_below HO.out.1 (bl_alloc (bl_refl _))) (Nat.le_refl _) hgrow⟩
          rw [List.replicate_succ', rowI_add]
          exact hown
        clear hown hgrow
        go_wp2
        go_roundg (2 * (1 + q) - (i + 1))
        case measure => omega
        case rel => exact ⟨i + 1, _, by omega, rfl, rfl, by go_num, HO3.out.1, HO3.out.2⟩
    · have j1 : ¬ (i : Int) < 2 * (1 + (q : Int)) := by omega
      obtain rfl : i = 2 * (1 + q) := by omega
      have HS : Hid (Sl wr v6 (List.replicate (2 * (1 + q)) 7)) := own_sl HO.out.1 (by simp)
      have HB : Hid (Below w1.heap.size w1 wr) := HO.out.2
      clear HO j1 HI
      go_wp2
      go_loopg [7, 9] q (fun gk s7 s9 wx => ∃ i : Nat, i ≤ q ∧ gk = q - i ∧ s7 = .int .i64 (wnt q i) ∧ s9 = .int .i64 (i : Int) ∧ wx = wr)
      case atStart => exact ⟨0, by omega, rfl, rfl, rfl, rfl⟩
      case round =>
        obtain ⟨i, hi, rfl, rfl, rfl, rfl⟩ := hrel
        have td := tdiv_two q
        by_cases h1 : i < q
        · have j1 : (i : Int) < 1 + (q : Int) - 1 := by omega
          have hb := wnt_step hq h1
          have HE : Hid (wnt q (i + 1) = (wnt q i * (2 * (1 + (q : Int)) - (i : Int))).tdiv ((i : Int) + 1)) := by
            have : wnt q (i + 1) = (wnt q i * (2 * (1 + (q : Int)) - (i : Int))).tdiv ((i : Int) + 1) := rfl
            exact this
          have hb1 := wnt_bd q hq i h1
          rw [HE.out] at hb
          obtain ⟨wv, hwv⟩ : ∃ z, z = wnt q i := ⟨_, rfl⟩
          rw [← hwv] at HE hb hb1 ⊢
          clear hwv
          go_wp2
          go_roundg (q - (i + 1))
          case measure => omega
          case rel => exact ⟨i + 1, by omega, rfl, by first | go_num | (rw [HE.out]; go_num) | rw [HE.out], by go_num, rfl⟩
        · have j1 : ¬ (i : Int) < 1 + (q : Int) - 1 := by omega
          obtain rfl : i = q := by omega
          have HC : Hid (∀ W : World, Below wr.heap.size wr W → Calls Try.prog 5 #[v6] W fun e w' => e = .returned (.tuple #[.int .i64 (wnt i i), .int .i64 0]) ∧ Below W.heap.size W w') := fun W hW => count7 hq v6 W (HS.out.kept hW)
          have C6 : Hid (∀ W : World, Below w1.heap.size w1 W → wrongV l = 0 → Calls Try.prog 6 #[.slice a l.length c] W fun e w' => ∃ a c gs, e = .returned (.tuple #[.slice a (List.length gs) c, .int .i64 0]) ∧ GR w' a gs (dsk l) (KL (dsk l) (2 ^ l.length)) ∧ Below W.heap.size W w') := fun W hW hw => all_ok _ l W (HV.out.kept hW) hl hw
          have C6' : Hid (∀ W : World, Below w1.heap.size w1 W → wrongV l ≠ 0 → Calls Try.prog 6 #[.slice a l.length c] W fun e w' => e = .returned (.tuple #[.slice none 0 0, .int .i64 (wrongV l)]) ∧ Below W.heap.size W w') := fun W hW hw => all_bad _ l W (HV.out.kept hW) hl hw
          obtain ⟨wv, hwv⟩ : ∃ z, z = wnt i i := ⟨_, rfl⟩
          rw [← hwv] at HC ⊢
          have qv : (wv != wv) = false := by simp
          clear hwv HS td j1 h1 hi
          go_upto_region 15 with (go_at_call 5; refine (HC.out _ (bl_refl _)).mono ?_; rintro e w2 ⟨rfl, hb2⟩; have HB2 : Hid (Below w1.heap.size w1 w2) := bl_via HB.out hb2; clear hb2)
          clear HC HB
          by_cases hw : wrongV l = 0
          · obtain ⟨n2, n8, ne⟩ := bad_none (wrong_none hw).1
            have HWV : Hid (wrongV l = 0) := hw
            have C := C6.out w2 HB2.out hw
            have HCC : Hid (Calls Try.prog 6 #[.slice a l.length c] w2 fun e w' => ∃ a c gs, e = .returned (.tuple #[.slice a (List.length gs) c, .int .i64 0]) ∧ GR w' a gs (dsk l) (KL (dsk l) (2 ^ l.length)) ∧ Below w2.heap.size w2 w') := C
            clear C C6 C6' hw
            go_upto_region 19 with (go_at_call 6; refine HCC.out.mono ?_; rintro e w3 ⟨a3, c3', gs, rfl, hgr, hb3⟩; have HU : Hid (Unl l w3 gs a3 (dsk l)) := unl_of hgr; have HLN : Hid (gs.length ≤ 256) := (by have h5 := hgr.2.1; rw [KL_len] at h5; have h6 := cnt_le (dsk l) (2 ^ l.length); have h7 := (shl_nat n8).2; rw [h5]; exact Nat.le_trans h6 h7); have HB3 : Hid (Below w1.heap.size w1 w3) := bl_via HB2.out hb3; clear hgr hb3)
            have hln := HLN.out
            clear HCC HB2 HLN
            have HR : Hid (∀ i, i < l.length → ∃ g off, a = some ⟨g, off, none⟩ ∧ w3.cell? ⟨g, off + i, none⟩ = some (.int .i64 (gt l i))) := by
              obtain ⟨a', c', e, h⟩ := HV.out.kept HB3.out
              cases e
              exact h
            clear HV
            obtain ⟨g, off, rfl, c0⟩ := HR.out 0 (by omega)
            have zg : g < w3.heap.size := World.block_lt_of_cell? _ _ c0
            rw [Nat.add_zero] at c0
            have i00 : (0 : Int) < (l.length : Int) := by omega
            obtain ⟨z0, hz0⟩ : ∃ z, z = gt l 0 := ⟨_, rfl⟩
            rw [← hz0] at c0
            clear hz0
            go_wp2
            clear c0
            go_loopg [14, 15] l.length (fun gk s14 s15 wx => ∃ (i : Nat) (z : Int), i ≤ l.length ∧ gk = l.length - i ∧ s14 = .int .i64 z ∧ s15 = .int .i64 (i : Int) ∧ w3 = wx ∧ ∀ j, j < i → z ≤ gt l j)
            case atStart => exact ⟨0, _, by omega, rfl, rfl, rfl, rfl, fun j hj => by omega⟩
            case round =>
              obtain ⟨i, z, hi, rfl, rfl, rfl, rfl, hz⟩ := hrel
              have HZ : Hid (∀ j, j < i → z ≤ gt l j) := hz
              clear hz
              by_cases h1 : i < l.length
              · have j1 : (i : Int) < (l.length : Int) := by omega
                have j0 : (0 : Int) ≤ (i : Int) := by omega
                obtain ⟨g', off', e', c0⟩ := HR.out i h1
                cases e'
                obtain ⟨vi, hvi⟩ : ∃ v, v = gt l i := ⟨_, rfl⟩
                rw [← hvi] at c0
                have HVI : Hid (vi = gt l i) := hvi
                clear hvi
                by_cases q1 : vi < z
                · go_wp2
                  go_roundg (l.length - (i + 1))
                  case measure => omega
                  case rel =>
                    refine ⟨i + 1, vi, by omega, rfl, rfl, by go_num, rfl, fun j hj => ?_⟩
                    by_cases e : j = i
                    · rw [e, ← HVI.out]
                      exact Int.le_refl _
                    · have := HZ.out j (by omega)
                      omega
                · go_wp2
                  go_roundg (l.length - (i + 1))
                  case measure => omega
                  case rel =>
                    refine ⟨i + 1, z, by omega, rfl, rfl, by go_num, rfl, fun j hj => ?_⟩
                    by_cases e : j = i
                    · rw [e, ← HVI.out]
                      omega
                    · exact HZ.out j (by omega)
              · have j1 : ¬ (i : Int) < (l.length : Int) := by omega
                obtain rfl : i = l.length := by omega
                go_wp2
                clear j1 h1 hi
                go_loopg [16] l.length (fun gk s16 wx => ∃ i : Nat, i ≤ l.length ∧ gk = l.length - i ∧ s16 = .int .i64 (i : Int) ∧ Below w3.heap.size w3 wx)
                case atStart => exact ⟨0, by omega, rfl, rfl, bl_refl _⟩
                case round =>
                  obtain ⟨i, hi, rfl, rfl, hB⟩ := hrel
                  have HBW : Hid (Below w3.heap.size w3 wr) := hB
                  clear hB
                  by_cases h1 : i < l.length
                  · have j1 : (i : Int) < (l.length : Int) := by omega
                    have j0 : (0 : Int) ≤ (i : Int) := by omega
                    obtain ⟨qn, hqn⟩ : ∃ x, x = (i + 1) % l.length := ⟨_, rfl⟩
                    have hq1 : qn < l.length := by rw [hqn]; exact Nat.mod_lt _ (by omega)
                    have tq := nx_int l.length i
                    rw [← hqn] at tq
                    have HQ : Hid (qn = i + 1 ∨ (qn = 0 ∧ i + 1 = l.length)) := by
                      have : qn = i + 1 ∨ (qn = 0 ∧ i + 1 = l.length) := by
                        by_cases e : i + 1 < l.length
                        · left; rw [hqn, Nat.mod_eq_of_lt e]
                        · right; have e2 : i + 1 = l.length := by omega
                          rw [hqn, e2, Nat.mod_self]
                          exact ⟨rfl, rfl⟩
                      exact this
                    obtain ⟨pn, hpn⟩ : ∃ x, x = sA l.length i := ⟨_, rfl⟩
                    have tp := sA_int (j := i) n2
                    rw [← hpn] at tp
                    have HP : Hid (pn < l.length ∧ (i = pn + 1 ∨ (i = 0 ∧ pn + 1 = l.length))) := by
                      have : pn < l.length ∧ (i = pn + 1 ∨ (i = 0 ∧ pn + 1 = l.length)) := by
                        rw [sA_val n2 h1] at hpn
                        split at hpn <;> omega
                      exact this
                    have hp1 := HP.out.1
                    clear hqn hpn
                    have h00 : (l.length : Int) ≠ 0 := by omega
                    have q1 : (qn : Int) < (l.length : Int) := by omega
                    have q0 : (0 : Int) ≤ (qn : Int) := by omega
                    have p1 : (pn : Int) < (l.length : Int) := by omega
                    have p0 : (0 : Int) ≤ (pn : Int) := by omega
                    obtain ⟨_, _, e', c0⟩ := HR.out i h1
                    cases e'
                    obtain ⟨_, _, e', c1⟩ := HR.out qn hq1
                    cases e'
                    obtain ⟨_, _, e', c2⟩ := HR.out pn hp1
                    cases e'
                    replace c0 := cl_kept HBW.out c0
                    replace c1 := cl_kept HBW.out c1
                    replace c2 := cl_kept HBW.out c2
                    have zg' : g < wr.heap.size := World.block_lt_of_cell? _ _ c0
                    obtain ⟨vi, hvi⟩ : ∃ v, v = gt l i := ⟨_, rfl⟩
                    obtain ⟨vq, hvq⟩ : ∃ v, v = gt l qn := ⟨_, rfl⟩
                    obtain ⟨vp, hvp⟩ : ∃ v, v = gt l pn := ⟨_, rfl⟩
                    rw [← hvi] at c0
                    rw [← hvq] at c1
                    rw [← hvp] at c2
                    have HVV : Hid (vi = gt l i ∧ vq = gt l qn ∧ vp = gt l pn) := ⟨hvi, hvq, hvp⟩
                    clear hvi hvq hvp
                    by_cases e1 : vi = z
                    · have b1 : (vi != z) = false := by simpa using e1
                      by_cases e2 : vq = z
                      · have b2 : (vq == z) = true := by simpa using e2
                        clear e1 e2
                        go_wp2
                        go_roundg (l.length - (i + 1))
                        case measure => omega
                        case rel => exact ⟨i + 1, by omega, rfl, by go_num, HBW.out⟩
                      · have b2 : (vq == z) = false := by simpa using e2
                        by_cases e3 : vp = z
                        · have b3 : (vp == z) = true := by simpa using e3
                          clear e1 e2 e3
                          go_wp2
                          go_roundg (l.length - (i + 1))
                          case measure => omega
                          case rel => exact ⟨i + 1, by omega, rfl, by go_num, HBW.out⟩
                        · have b3 : (vp == z) = false := by simpa using e3
                          have HX : Hid (∀ m, m < 2 ^ l.length → goB (dsk l) m = true → gt (lst l.length m) i ≠ gt (lst l.length m) qn) := fun m hm hg => by
                            have l1 := HZ.out qn hq1
                            have l2 := HZ.out pn hp1
                            exact crimp HWV.out hm hg h1 hp1 HP.out.2 hq1 HQ.out (by rw [← HVV.out.1, ← HVV.out.2.1]; have := HVV.out.2.1; omega) (by rw [← HVV.out.1, ← HVV.out.2.2]; have := HVV.out.2.2; omega)
                          clear e1 e2 e3
                          go_wp2
                          clear c0 c1 c2 b1 b2 b3
                          go_loopg [17] gs.length (fun gk9 s17 wx => ∃ j : Nat, j ≤ gs.length ∧ gk9 = gs.length - j ∧ s17 = .int .i64 (j : Int) ∧ Below w3.heap.size w3 wx)
                          case atStart => exact ⟨0, by omega, rfl, rfl, HBW.out⟩
                          case round =>
                            clear HBW zg'
                            obtain ⟨j, hj, rfl, rfl, hB⟩ := hrel
                            have HBW : Hid (Below w3.heap.size w3 wr) := hB
                            clear hB
                            by_cases hj1 : j < gs.length
                            · have k1 : (j : Int) < (gs.length : Int) := by omega
                              have k0 : (0 : Int) ≤ (j : Int) := by omega
                              obtain ⟨ga, gk, m, rfl, d0, d1, hm, hg⟩ := (HU.out.kept HBW.out) j hj1
                              rw [dsk_len] at d0 d1
                              have d2 := d1 i (by rw [lst_len]; exact h1)
                              have d3 := d1 qn (by rw [lst_len]; exact hq1)
                              have hne := HX.out m hm hg
                              obtain ⟨x2, hx2⟩ : ∃ v, v = gt (lst l.length m) i := ⟨_, rfl⟩
                              obtain ⟨x3, hx3⟩ : ∃ v, v = gt (lst l.length m) qn := ⟨_, rfl⟩
                              rw [← hx2] at d2 hne
                              rw [← hx3] at d3 hne
                              have bx : (x2 == x3) = false := by simpa using hne
                              have za : ga < wr.heap.size := World.block_lt_of_cell? _ _ d0
                              have zk : gk < wr.heap.size := World.block_lt_of_cell? _ _ d2
                              clear hne hx2 hx3 d1 hm hg
                              go_wp2
                              have kc := Kin.cells wr
                              have kn : Nonempty (Kin wr) := ⟨⟨wr, bl_refl _⟩⟩
                              refine wp_region_kin (by kernel_rfl) (by kernel_rfl) ?_
                              repeat (go_big_quiet_step (fail))
                              refine wpQuiet_nil ?_
                              intro wq hw'
                              obtain ⟨nq, hw''⟩ := hw'
                              have hq : Below wr.heap.size wr wq := hw'' ▸ nq.h
                              clear hw'' nq kc kn d0 d2 d3
                              go_wp2
                              go_roundg (gs.length - (j + 1))
                              case measure => omega
                              case rel => exact ⟨j + 1, by omega, rfl, by go_num, bl_via HBW.out hq⟩
                            · have k1 : ¬ (j : Int) < (gs.length : Int) := by omega
                              go_wp2
                              go_roundg (l.length - (i + 1))
                              case measure => omega
                              case rel => exact ⟨i + 1, by omega, rfl, by go_num, HBW.out⟩
                    · have b1 : (vi != z) = true := by simpa using e1
                      clear e1
                      go_wp2
                      go_roundg (l.length - (i + 1))
                      case measure => omega
                      case rel => exact ⟨i + 1, by omega, rfl, by go_num, HBW.out⟩
                  · have j1 : ¬ (i : Int) < (l.length : Int) := by omega
                    go_wp2
                    go_ret
                    exact ⟨rfl, bl_via HB3.out HBW.out⟩
          · have qz : (wrongV l != 0) = true := by simpa using hw
            have C := C6'.out w2 HB2.out hw
            have HCC : Hid (Calls Try.prog 6 #[.slice a l.length c] w2 fun e w' => e = .returned (.tuple #[.slice none 0 0, .int .i64 (wrongV l)]) ∧ Below w2.heap.size w2 w') := C
            obtain ⟨z, hz⟩ : ∃ z, z = wrongV l := ⟨_, rfl⟩
            rw [← hz] at HCC qz
            clear C C6 C6' hw hz
            go_wp2_with (go_at_call 6; refine HCC.out.mono ?_; rintro e w3 ⟨rfl, hb3⟩; have HB3 : Hid (Below w1.heap.size w1 w3) := bl_via HB2.out hb3; clear hb3)
            go_ret
            exact ⟨rfl, HB3.out⟩
end Go.Proofs.Ytioajagblphbnaa
