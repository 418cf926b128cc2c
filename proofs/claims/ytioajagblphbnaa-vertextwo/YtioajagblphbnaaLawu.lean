/- The law VertexTwo, walked where the angles may be. -/
import Derived.Test.YtioajagblphbnaaLawt
namespace Go.Proofs.Ytioajagblphbnaa
open Go.RowKit

set_option maxRecDepth 100000 in
set_option maxHeartbeats 3200000 in
theorem two_ok (a : Option Addr) (c : Nat) (l : List Int) (w : World) (hv : Sg w (.slice a l.length c) l) (hl : l.length ≤ 17592186044416) (hw : wrongV l = 0) :
    Calls Try.prog 3 #[.slice a l.length c] w fun e w' => e = .returned (.bool true) ∧ Below w.heap.size w w' := by
  obtain ⟨n2, n8, ne⟩ := bad_none (wrong_none hw).1
  have C6 : Hid (∀ W : World, Below w.heap.size w W → Calls Try.prog 6 #[.slice a l.length c] W fun e w' => ∃ a c gs, e = .returned (.tuple #[.slice a (List.length gs) c, .int .i64 0]) ∧ GR w' a gs (dsk l) (KL (dsk l) (2 ^ l.length)) ∧ Below W.heap.size W w') := fun W hW => all_ok _ l W (hv.kept hW) hl hw
  have C5 : Hid (∀ W : World, Below w.heap.size w W → Calls Try.prog 5 #[.slice a l.length c] W fun e w' => e = .returned (.tuple #[.int .i64 (cnt (dsk l) (2 ^ l.length) : Int), .int .i64 0]) ∧ Below W.heap.size W w') := fun W hW => count_ok _ l W (hv.kept hW) hl hw
  have HV : Hid (Sg w (.slice a l.length c) l) := hv
  have HW : Hid (wrongV l = 0 ∧ l.length ≤ 17592186044416) := ⟨hw, hl⟩
  obtain ⟨i3, hI⟩ := info_parts inf3
  have HI : Hid (Try.prog.info? 3 = some i3 ∧ i3.zero = some (.int .i64 0) ∧ i3.size = 1 ∧ i3.bytes = 8) := hI
  clear hv hl hw hI
  go_enter Try.func3, Try.ntmps3
  go_upto_region 2 with (go_at_call 5; refine (count1111 w.heap.size _ (by simp [go_sem]) (by simp [go_sem]) (by simp [go_sem]) (by simp [go_sem])).mono ?_; rintro e w1 ⟨rfl, hb1⟩; have HB : Hid (Below w.heap.size w w1) := bl_via (bl_alloc (bl_refl w)) hb1; clear hb1)
  go_upto_region 5 with (go_at_call 6; refine (C6.out _ HB.out).mono ?_; rintro e w2 ⟨a3, c3', gs, rfl, hgr, hb⟩; have HU : Hid (Unl l w2 gs a3 (dsk l)) := unl_of hgr; have HCN : Hid (gs.length = cnt (dsk l) (2 ^ l.length)) := (by have h5 := hgr.2.1; rw [KL_len] at h5; exact h5); have hq := bl_via HB.out hb; clear hb HB hgr; have HB : Hid (Below w.heap.size w w2) := hq; clear hq)
  have hpos : 0 < gs.length := by
    obtain ⟨k, hk, hg⟩ := some_goes HW.out.1
    rw [HCN.out]
    exact cnt_pos hg _ hk
  have hln : gs.length ≤ 256 := by
    have h6 := cnt_le (dsk l) (2 ^ l.length)
    have h7 := (shl_nat n8).2
    rw [HCN.out]
    exact Nat.le_trans h6 h7
  have C5' : Hid (∀ W : World, Below w.heap.size w W → Calls Try.prog 5 #[.slice a l.length c] W fun e w' => e = .returned (.tuple #[.int .i64 (gs.length : Int), .int .i64 0]) ∧ Below W.heap.size W w') := fun W hW => by
    rw [HCN.out]
    exact C5.out W hW
  clear C5 C6 HCN
  have q1 : ((gs.length : Int) != (gs.length : Int)) = false := by simp
  have q2 : ((gs.length : Int) == 0) = false := by
    rw [beq_eq_false_iff_ne]
    omega
  go_upto_region 10 with (go_at_call 5; refine (C5'.out _ HB.out).mono ?_; rintro e w3 ⟨rfl, hb⟩; have HU3 : Hid (Unl l w3 gs a3 (dsk l)) := HU.out.kept hb; have hq := bl_via HB.out hb; clear hb HB HU; have HB : Hid (Below w.heap.size w w3) := hq; clear hq)
  clear C5' q1 q2 hpos
  go_wp2
  go_loopg [8] gs.length (fun gk s8 wx => ∃ j : Nat, j ≤ gs.length ∧ gk = gs.length - j ∧ s8 = .int .i64 (j : Int) ∧ Below w3.heap.size w3 wx)
  case atStart => exact ⟨0, by omega, rfl, rfl, bl_refl _⟩
  case round =>
    obtain ⟨j, hj, rfl, rfl, hB⟩ := hrel
    by_cases h1 : j < gs.length
    · have k1 : (j : Int) < (gs.length : Int) := by omega
      have k0 : (0 : Int) ≤ (j : Int) := by omega
      obtain ⟨ga, gk, m, rfl, d0, d1, hm, hg⟩ := (HU3.out.kept hB) j h1
      rw [dsk_len] at d0 d1
      obtain ⟨w4, hw4⟩ : ∃ W, W = wr := ⟨_, rfl⟩
      subst hw4
      have HB4 : Hid (Below w3.heap.size w3 w4) := hB
      clear hB
      have HM : Hid (m < 2 ^ l.length ∧ goB (dsk l) m = true) := ⟨hm, hg⟩
      obtain ⟨ks, hks⟩ : ∃ x, x = lst l.length m := ⟨_, rfl⟩
      have HKS : Hid (ks = lst l.length m) := hks
      rw [← hks] at d1
      have hkl : ks.length = l.length := by rw [hks, lst_len]
      have hk12 : ∀ i, i < l.length → gt ks i = 1 ∨ gt ks i = 2 := fun i hi => by rw [hks]; exact lst_two hi
      have HK12 : Hid (∀ i, i < l.length → gt ks i = 1 ∨ gt ks i = 2) := hk12
      have HD1 : Hid (Rw w4 gk ks) := d1
      have HD0 : Hid (w4.cell? ⟨ga, j, none⟩ = some (.slice (some ⟨gk, 0, none⟩) l.length l.length)) := d0
      clear hks hm hg d0 d1 hk12
      have HL : Hid (ks.length = l.length) := hkl
      clear hkl
      have k2 : ¬ (gs.length : Int) ≤ (j : Int) := by omega
      go_wp2
      go_loopg [9, 10, 13] l.length (fun gk' s9 s10 s13 wx => ∃ (k : Nat) (v10 : Value), k ≤ l.length ∧ gk' = l.length - k ∧ s9 = .int .i64 (msm ks k) ∧ v10 = s10 ∧ s13 = .int .i64 (k : Int) ∧ wx.ownsRow w4.heap.size 3 1 v10 k (rowI ((oth ks).take k)) ∧ Below w4.heap.size w4 wx)
      case atStart => exact ⟨0, _, by omega, rfl, rfl, rfl, rfl, ⟨by simp [rowI], .inl ⟨rfl, rfl⟩⟩, bl_refl _⟩
      case round =>
        obtain ⟨k, v10, hk, rfl, rfl, rfl, rfl, hO, hB⟩ := hrel
        have HO : Hid (wr.ownsRow w4.heap.size 3 1 v10 k (rowI ((oth ks).take k)) ∧ Below w4.heap.size w4 wr) := ⟨hO, hB⟩
        clear hO hB
        have d0 := cl_kept HO.out.2 HD0.out
        have za : ga < wr.heap.size := World.block_lt_of_cell? _ _ d0
        by_cases h2 : k < l.length
        · have j1 : (k : Int) < (l.length : Int) := by omega
          have j0 : (0 : Int) ≤ (k : Int) := by omega
          have d2 := cl_kept HO.out.2 (HD1.out k (by rw [HL.out]; exact h2))
          have zk : gk < wr.heap.size := World.block_lt_of_cell? _ _ d2
          have mb := msm_bd HK12.out k (by omega)
          have xb := HK12.out k h2
          obtain ⟨x, hx⟩ : ∃ x, x = gt ks k := ⟨_, rfl⟩
          obtain ⟨y, hy⟩ : ∃ y, y = msm ks k := ⟨_, rfl⟩
          rw [← hx] at d2 xb
          rw [← hy] at mb ⊢
          have HE : Hid (msm ks (k + 1) = y + (3 - 2 * x) ∧ (oth ks).take (k + 1) = (oth ks).take k ++ [3 - x]) := by
            rw [hx, hy]
            exact ⟨rfl, oth_take (by rw [HL.out]; exact h2)⟩
          have xb1 : 1 ≤ x := by omega
          have xb2 : x ≤ 2 := by omega
          clear hx hy xb
          go_wp2_with (at_builtin; refine wpList_append_own _ rfl (.tmp 92) (.tmp 101) 22 rfl w4.heap.size 3 i3 (.int .i64 0) 1 8 Try.underlying22 HI.out.1 HI.out.2.1 HI.out.2.2.1 HI.out.2.2.2 rfl (by decide) v10 k (rowI ((oth ks).take k)) rfl (own_below HO.out.1 (bl_alloc (bl_refl _))) ⟨wr.heap.size, 0, none⟩ 1 1 [.int .i64 (3 - x)] rfl rfl (cell_one _ (by simp [go_sem])) (one_cell _) (by unfold maxLen; omega) (by omega) (by have := HO.out.2.size; simp; omega) ?growA)
          case growA =>
            intro v' w5 hown hgrow _
            have HO5 : Hid (w5.ownsRow w4.heap.size 3 1 v' (k + 1) (rowI ((oth ks).take (k + 1))) ∧ Below w4.heap.size w4 w5) := by
              refine ⟨?_, bl_own (bl_alloc HO.out.2) (own_below HO.out.1 (bl_alloc (bl_refl _))) (Nat.le_refl _) hgrow⟩
              rw [HE.out.2, rowI_add]
              exact hown
            clear hown hgrow
            go_wp2
            go_roundg (l.length - (k + 1))
            case measure => omega
            case rel => exact ⟨k + 1, _, by omega, rfl, by rw [HE.out.1], rfl, by go_num, HO5.out.1, HO5.out.2⟩
        · have j1 : ¬ (k : Int) < (l.length : Int) := by omega
          obtain rfl : k = l.length := by omega
          have HOT : Hid (Sl wr v10 (oth ks) ∧ Below w4.heap.size w4 wr) := ⟨own_sl (l := oth ks) (by have := HO.out.1; rw [List.take_of_length_le (by simp [oth, HL.out])] at this; exact this) (by simp [oth, HL.out]), HO.out.2⟩
          have hms : msm ks l.length = 2 ∨ msm ks l.length = -2 := by
            rw [HKS.out]
            exact two_more HW.out.1 HM.out.1 HM.out.2
          obtain ⟨mm, hmm⟩ : ∃ x, x = msm ks l.length := ⟨_, rfl⟩
          rw [← hmm] at hms ⊢
          clear hmm h2 hk HO
          go_wp2
          obtain ⟨w5, hw5⟩ : ∃ W, W = wr := ⟨_, rfl⟩
          subst hw5
          clear d0 za j1
          have HB5 : Hid (Below w.heap.size w w5) := bl_via HB.out (bl_via HB4.out HOT.out.2)
          have HR : Hid (∀ i, i < l.length → ∃ g off, a = some ⟨g, off, none⟩ ∧ w5.cell? ⟨g, off + i, none⟩ = some (.int .i64 (gt l i))) := by
            obtain ⟨a', c', e, h⟩ := HV.out.kept HB5.out
            cases e
            exact h
          go_loopg [11, 12, 14] l.length (fun gk' s11 s12 s14 wx => ∃ (k : Nat) (v11 v12 : Value), k ≤ l.length ∧ gk' = l.length - k ∧ v11 = s11 ∧ v12 = s12 ∧ s14 = .int .i64 ((l.length : Int) - 1 - (k : Int)) ∧ wx.ownsRow w5.heap.size 3 1 v11 k (rowI (l.reverse.take k)) ∧ wx.ownsRow w5.heap.size 3 1 v12 k (rowI ((trn l.length ks).take k)) ∧ Apart v11 v12 ∧ Below w5.heap.size w5 wx)
          case atStart => exact ⟨0, _, _, by omega, rfl, rfl, rfl, by simp, ⟨by simp [rowI], .inl ⟨rfl, rfl⟩⟩, ⟨by simp [rowI], .inl ⟨rfl, rfl⟩⟩, fun q h => by simp [Value.ownBlock] at h, bl_refl _⟩
          case round =>
            obtain ⟨k, v11, v12, hk, rfl, rfl, rfl, rfl, hO1, hO2, hA, hB⟩ := hrel
            have HO : Hid (wr.ownsRow w5.heap.size 3 1 v11 k (rowI (l.reverse.take k)) ∧ wr.ownsRow w5.heap.size 3 1 v12 k (rowI ((trn l.length ks).take k)) ∧ Apart v11 v12 ∧ Below w5.heap.size w5 wr) := ⟨hO1, hO2, hA, hB⟩
            clear hO1 hO2 hA hB
            by_cases h2 : k < l.length
            · obtain ⟨p, hp⟩ : ∃ p : Nat, p = l.length - 1 - k := ⟨_, rfl⟩
              have ep : (l.length : Int) - 1 - (k : Int) = (p : Int) := by omega
              rw [ep]
              have p1 : (p : Int) < (l.length : Int) := by omega
              have p0 : (0 : Int) ≤ (p : Int) := by omega
              obtain ⟨qn, hqn⟩ : ∃ x, x = (p + 1) % l.length := ⟨_, rfl⟩
              have hq1 : qn < l.length := by rw [hqn]; exact Nat.mod_lt _ (by omega)
              have tq := nx_int l.length p
              rw [← hqn] at tq
              have h00 : (l.length : Int) ≠ 0 := by omega
              have hln0 : l ≠ [] := by intro e; rw [e] at h2; simp at h2
              have wp1 : IntKind.i64.wrap ((p : Int) + 1) = (p : Int) + 1 := by rw [IntKind.wrap_i64]; omega
              have q1 : (qn : Int) < (l.length : Int) := by omega
              have q0 : (0 : Int) ≤ (qn : Int) := by omega
              obtain ⟨g, off, rfl, c0⟩ := HR.out p (by omega)
              replace c0 := cl_kept HO.out.2.2.2 c0
              have zg : g < wr.heap.size := World.block_lt_of_cell? _ _ c0
              obtain ⟨x1, hx1⟩ : ∃ x, x = gt l p := ⟨_, rfl⟩
              obtain ⟨x2, hx2⟩ : ∃ x, x = gt ks qn := ⟨_, rfl⟩
              rw [← hx1] at c0
              have HE : Hid (l.reverse.take (k + 1) = l.reverse.take k ++ [x1] ∧ (trn l.length ks).take (k + 1) = (trn l.length ks).take k ++ [x2]) := by
                have e1 : l.length - k = p + 1 := by omega
                rw [hx1, hx2, hqn, hp]
                exact ⟨rev_take h2, by rw [trn_take h2, e1, hp]⟩
              have HD2 : Hid (w5.cell? ⟨gk, qn, none⟩ = some (.int .i64 x2)) := by
                rw [hx2]
                exact cl_kept HOT.out.2 (HD1.out qn (by rw [HL.out]; exact hq1))
              clear hx1 hx2 hqn hp
              go_wp2_with (at_builtin; refine wpList_append_own_at _ rfl (.tmp 110) (.tmp 115) 22 rfl w5.heap.size 3 i3 (.int .i64 0) 1 8 Try.underlying22 HI.out.1 HI.out.2.1 HI.out.2.2.1 HI.out.2.2.2 rfl (by decide) v11 k (rowI (l.reverse.take k)) rfl (own_below HO.out.1 (bl_alloc (bl_refl _))) ⟨wr.heap.size, 0, none⟩ 1 1 [.int .i64 x1] rfl rfl (cell_one _ (by simp [go_sem])) (one_cell _) (by unfold maxLen; omega) (by omega) (by have := HO.out.2.2.2.size; simp; omega) ?growB)
              case growB =>
                intro v' w6 hown hgrow _ hblk
                have HO6 : Hid (w6.ownsRow w5.heap.size 3 1 v' (k + 1) (rowI (l.reverse.take (k + 1))) ∧ w6.ownsRow w5.heap.size 3 1 v12 k (rowI ((trn l.length ks).take k)) ∧ Apart v' v12 ∧ Below w5.heap.size w5 w6) := by
                  refine ⟨?_, (own_below HO.out.2.1 (bl_alloc (bl_refl _))).kept hgrow HO.out.2.2.1.other, HO.out.2.2.1.grew HO.out.2.1 (hblk.imp id fun e => ⟨wr.heap.size + 1, Nat.le_succ _, e⟩), bl_own (bl_alloc HO.out.2.2.2) (own_below HO.out.1 (bl_alloc (bl_refl _))) (Nat.le_refl _) hgrow⟩
                  rw [HE.out.1, rowI_add]
                  exact hown
                clear hown hgrow hblk c0 zg HO
                have d0 := cl_kept HO6.out.2.2.2 (cl_kept HOT.out.2 HD0.out)
                have d2 := cl_kept HO6.out.2.2.2 HD2.out
                have za : ga < w6.heap.size := World.block_lt_of_cell? _ _ d0
                have zk : gk < w6.heap.size := World.block_lt_of_cell? _ _ d2
                go_wp2
                go_region_law ((refine step_append_lies _ (by rfl) (.tmp 117) (.tmp 129) 22 (by rfl) w5.heap.size 3 i3 (.int .i64 0) 1 8 Try.underlying22 HI.out.1 HI.out.2.1 HI.out.2.2.1 HI.out.2.2.2 rfl (by decide) v12 k (rowI ((trn l.length ks).take k)) (by rfl) (own_below HO6.out.2.1 (by with_reducible (first | exact bl_drew (bl_alloc (bl_refl _)) | exact bl_alloc (bl_drew (bl_refl _)) | exact bl_alloc (bl_refl _)))) ⟨w6.heap.size, 0, none⟩ 1 1 [.int .i64 x2] (by rfl) rfl (cell_one _ (by simp [go_sem])) (one_cell _) (by decide) (by unfold maxLen; omega) (by omega) (Nat.le_trans HO6.out.2.2.2.size (by simp)) (w6.heap.size + 1) (by simp) ?_; intro g7 cap7 W7 hown7 hgrow7 hat7 hlt7; have HO7 : Hid (W7.ownsRow w5.heap.size 3 1 v' (k + 1) (rowI (l.reverse.take (k + 1))) ∧ W7.ownsRow w5.heap.size 3 1 (.slice (some ⟨g7, 0, none⟩) (k + 1) cap7) (k + 1) (rowI ((trn l.length ks).take (k + 1))) ∧ Apart v' (.slice (some ⟨g7, 0, none⟩) (k + 1) cap7) ∧ Below w5.heap.size w5 W7) := ⟨(own_below HO6.out.1 (by with_reducible (first | exact bl_drew (bl_alloc (bl_refl _)) | exact bl_alloc (bl_drew (bl_refl _)) | exact bl_alloc (bl_refl _)))).kept hgrow7 HO6.out.2.2.1.swap.other, (by rw [HE.out.2, rowI_add]; exact hown7), (HO6.out.2.2.1.swap.grew (u' := .slice (some ⟨g7, 0, none⟩) (k + 1) cap7) HO6.out.1 (hat7.imp (fun e => e.symm) (fun e => ⟨_, Nat.le_succ _, by rw [e]; rfl⟩))).swap, bl_own (bl_via HO6.out.2.2.2 (by with_reducible (first | exact bl_drew (bl_alloc (bl_refl _)) | exact bl_alloc (bl_drew (bl_refl _)) | exact bl_alloc (bl_refl _)))) (own_below HO6.out.2.1 (by with_reducible (first | exact bl_drew (bl_alloc (bl_refl _)) | exact bl_alloc (bl_drew (bl_refl _)) | exact bl_alloc (bl_refl _)))) (Nat.le_refl _) hgrow7⟩; clear hown7 hgrow7 hat7 hlt7))
                all_goals
                  go_wp2
                  go_roundg (l.length - (k + 1))
                  case measure => omega
                  case rel => exact ⟨k + 1, _, _, by omega, rfl, rfl, rfl, by go_num, HO7.out.1, HO7.out.2.1, HO7.out.2.2.1, HO7.out.2.2.2⟩
            · obtain rfl : k = l.length := by omega
              have ep : (l.length : Int) - 1 - (l.length : Int) = -1 := by omega
              rw [ep]
              have HF1 : Hid (∀ W : World, Below w5.heap.size w5 W → Calls Try.prog 7 #[.slice a l.length c, v10] W fun e w' => e = .returned (.tuple #[.bool true, .int .i64 0]) ∧ Below W.heap.size W w') := fun W hW => by
                have h := flat_any (.slice a l.length c) v10 l (oth ks) W (HV.out.kept (bl_via HB5.out hW)) (HOT.out.1.kept hW) HW.out.2 (by simp [oth, HL.out]; exact HW.out.2)
                have h' := flat_other HW.out.1 HM.out.1 HM.out.2
                rw [← HKS.out] at h'
                rw [h'.1, h'.2] at h
                exact h
              have HF2 : Hid (∀ W : World, Below wr.heap.size wr W → Calls Try.prog 7 #[v11, v12] W fun e w' => e = .returned (.tuple #[.bool true, .int .i64 0]) ∧ Below W.heap.size W w') := fun W hW => by
                have s1 : Sl wr v11 l.reverse := own_sl (by have := HO.out.1; rw [List.take_of_length_le (by simp)] at this; exact this) (by simp)
                have s2 : Sl wr v12 (trn l.length ks) := own_sl (by have := HO.out.2.1; rw [List.take_of_length_le (by simp [trn])] at this; exact this) (by simp [trn])
                have h := flat_any v11 v12 l.reverse (trn l.length ks) W (s1.kept hW).sg (s2.kept hW) (by simp; exact HW.out.2) (by simp [trn]; exact HW.out.2)
                have h' := flat_back HW.out.1 HM.out.1 HM.out.2
                rw [← HKS.out] at h'
                rw [h'.1, h'.2] at h
                exact h
              have HB6 : Hid (Below w5.heap.size w5 wr ∧ Below w3.heap.size w3 wr) := ⟨HO.out.2.2.2, bl_via HB4.out (bl_via HOT.out.2 HO.out.2.2.2)⟩
              clear HO HR HD0 HD1 HI h2 ep hk
              go_upto_region 27 with (first
                | (go_at_call 7; refine (HF1.out _ HB6.out.1).mono ?_; rintro e w7 ⟨rfl, hb7⟩; have HB7 : Hid (Below wr.heap.size wr w7) := hb7; clear hb7 HF1)
                | (go_at_call 7; refine (HF2.out _ HB7.out).mono ?_; rintro e w8 ⟨rfl, hb8⟩; have HB8 : Hid (Below w3.heap.size w3 w8) := bl_via HB6.out.2 (bl_via HB7.out hb8); clear hb8 HF2))
              rcases hms with rfl | rfl
              · go_wp2
                go_roundg (gs.length - (j + 1))
                case measure => omega
                case rel => exact ⟨j + 1, by omega, rfl, by go_num, HB8.out⟩
              · go_wp2
                go_roundg (gs.length - (j + 1))
                case measure => omega
                case rel => exact ⟨j + 1, by omega, rfl, by go_num, HB8.out⟩
    · have k1 : ¬ (j : Int) < (gs.length : Int) := by omega
      have HBW : Hid (Below w3.heap.size w3 wr) := hB
      clear hB
      go_wp2
      go_ret
      exact ⟨rfl, bl_via HB.out HBW.out⟩
end Go.Proofs.Ytioajagblphbnaa
