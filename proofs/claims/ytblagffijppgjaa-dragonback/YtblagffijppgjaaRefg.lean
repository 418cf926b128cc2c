/- The reference's FoldsOf, walked. -/
import Derived.Test.YtblagffijppgjaaReff
namespace Go.Proofs.Ytblagffijppgjaa
open Go.RowKit

theorem low45 {k L : Nat} (h : 2 ^ k < L + 1) (hL : L ≤ 17592186044416) : k ≤ 44 := by
  rcases Nat.lt_or_ge k 45 with h1 | h1
  · omega
  · have : 2 ^ 45 ≤ 2 ^ k := Nat.pow_le_pow_right (by omega) h1
    omega
theorem low_succ {k L : Nat} (h : ∀ i, i < k → 2 ^ i < L + 1) (hk : 2 ^ k < L + 1) : ∀ i, i < k + 1 → 2 ^ i < L + 1 := fun i hi => by
  by_cases e : i = k
  · rw [e]; exact hk
  · exact h i (by omega)
theorem list_eq {a b : List Int} (hl : a.length = b.length) (h : ∀ j, j < a.length → gt a j = gt b j) : a = b := by
  refine List.ext_getElem hl (fun k h1 h2 => ?_)
  have := h k h1
  rwa [gt_lt h1, gt_lt h2] at this
set_option maxRecDepth 100000 in
set_option maxHeartbeats 4000000 in
theorem foldsOf15 (v : Value) (ws : List Int) (w : World) (hv : Sg w v ws) (hl : ws.length ≤ 17592186044416) :
    Calls Try.prog 15 #[v] w fun e w' => ∃ u, e = .returned (.tuple #[u, .int .i64 (fcode ws)]) ∧ Sl w' u (fres ws) ∧ Below w.heap.size w w' := by
  obtain ⟨a, c, rfl, hR⟩ := hv
  have HRR : Hid (∀ i, i < ws.length → ∃ g off, a = some ⟨g, off, none⟩ ∧ w.cell? ⟨g, off + i, none⟩ = some (.int .i64 (gt ws i))) := hR
  obtain ⟨i3, hI⟩ := info_parts inf3
  have HI : Hid (Try.prog.info? 3 = some i3 ∧ i3.zero = some (.int .i64 0) ∧ i3.size = 1 ∧ i3.bytes = 8) := hI
  obtain ⟨fc, hfc⟩ : ∃ x, x = fcode ws := ⟨_, rfl⟩
  obtain ⟨fr, hfr⟩ : ∃ x, x = fres ws := ⟨_, rfl⟩
  have HFC : Hid (fc = fcode ws ∧ fr = fres ws) := ⟨hfc, hfr⟩
  rw [← hfc, ← hfr]
  have C13 : Hid (∀ (v : Value) (fs : List Int) (W : World), Sg W v fs → fs.length ≤ 10 → allK fs = true → Calls Try.prog 13 #[v] W fun e w' => ∃ u, e = .returned u ∧ w'.ownsRow W.heap.size 3 1 u (opn fs).length (rowI (opn fs)) ∧ Below W.heap.size W w') := fun v fs W h1 h2 h3 => wordOf13 v fs W h1 h2 h3
  clear hR hI hfc hfr
  go_enter Try.func15, Try.ntmps15
  go_wp2
  go_loopg [4] 46 (fun gk s4 wx => ∃ k : Nat, k ≤ 45 ∧ gk = 46 - k ∧ s4 = .int .i64 (k : Int) ∧ Hid (∀ i, i < k → 2 ^ i < ws.length + 1) ∧ w = wx)
  case atStart => exact ⟨0, by omega, rfl, rfl, fun i hi => by omega, rfl⟩
  case round =>
    obtain ⟨k, hk45, rfl, rfl, HLO, rfl⟩ := hrel
    have hp := shl_big hk45
    obtain ⟨K, hK⟩ : ∃ K : Nat, K = 2 ^ k := ⟨_, rfl⟩
    rw [← hK] at hp
    have HK : Hid (K = 2 ^ k) := hK
    clear hK
    by_cases q : K < ws.length + 1
    · have q1 : (K : Int) < (ws.length : Int) + 1 := by omega
      have k44 : k ≤ 44 := low45 (by rw [← HK.out]; exact q) hl
      go_wp2
      go_roundg (46 - (k + 1))
      case measure => omega
      case rel => exact ⟨k + 1, by omega, rfl, by go_num, low_succ HLO.out (by rw [← HK.out]; exact q), rfl⟩
    · have q1 : ¬ (K : Int) < (ws.length : Int) + 1 := by omega
      by_cases e : K = ws.length + 1
      · have e1 : ((K : Int) != (ws.length : Int) + 1) = false := by
          have : (K : Int) = (ws.length : Int) + 1 := by omega
          simp [this]
        have HE : Hid (2 ^ k = ws.length + 1) := by
          have : 2 ^ k = ws.length + 1 := by rw [← HK.out]; exact e
          exact this
        clear e
        by_cases q10 : 10 < k
        · have q2 : (10 : Int) < (k : Int) := by omega
          have HF : Hid (fc = 2 ∧ fr = []) := by
            rw [HFC.out.1, HFC.out.2]
            exact code_size HLO.out (by rw [HE.out]; exact Nat.le_refl _) (Or.inr q10)
          clear q10 HFC
          go_wp2
          go_ret2
          obtain ⟨h1, h2⟩ := HF.out
          subst h1 h2
          exact ⟨_, rfl, Or.inl ⟨rfl, rfl⟩, bl_refl _⟩
        · have q2 : ¬ (10 : Int) < (k : Int) := by omega
          have k10 : k ≤ 10 := by omega
          have h1024 : ws.length ≤ 1023 := by have := pow10 k10; have := HE.out; omega
          have hKL : K ≤ 1024 := by have := pow10 k10; have := HK.out; omega
          clear q10
          go_wp2
          go_loopg [5] ws.length (fun gk s5 wx => ∃ i : Nat, i ≤ ws.length ∧ gk = ws.length - i ∧ s5 = .int .i64 (i : Int) ∧ Hid (Below w.heap.size w wx) ∧ Hid (∀ k, k < i → gt ws k = 1 ∨ gt ws k = 2))
          case atStart => exact ⟨0, by omega, rfl, rfl, bl_refl _, fun k hk => by omega⟩
          case round =>
            obtain ⟨i, hi, rfl, rfl, HB, HNO⟩ := hrel
            by_cases h1 : i < ws.length
            · have i1 : (i : Int) < (ws.length : Int) := by omega
              have i0 : (0 : Int) ≤ (i : Int) := by omega
              obtain ⟨g, off, ha, c0⟩ := HRR.out i h1
              have HA : Hid (a = some ⟨g, off, none⟩) := ha
              subst ha
              replace c0 := cl_kept HB.out c0
              have zg : g < wr.heap.size := World.block_lt_of_cell? _ _ c0
              obtain ⟨vi, hvi⟩ : ∃ v, v = gt ws i := ⟨_, rfl⟩
              rw [← hvi] at c0
              have HVI : Hid (vi = gt ws i) := hvi
              clear hvi
              have HM : Hid (vi = 1 ∨ vi = 2 → ∀ k, k < i + 1 → gt ws k = 1 ∨ gt ws k = 2) := fun h k hk => by
                by_cases hki : k < i
                · exact HNO.out k hki
                · have : k = i := by omega
                  rw [this, ← HVI.out]
                  exact h
              by_cases v1 : vi = 1
              · have HN : Hid (∀ k, k < i + 1 → gt ws k = 1 ∨ gt ws k = 2) := HM.out (Or.inl v1)
                clear HVI HM
                subst v1
                go_wp2
                go_roundg (ws.length - (i + 1))
                case measure => omega
                case rel => exact ⟨i + 1, by omega, rfl, by go_num, HB.out, HN.out⟩
              · by_cases v2 : vi = 2
                · have HN : Hid (∀ k, k < i + 1 → gt ws k = 1 ∨ gt ws k = 2) := HM.out (Or.inr v2)
                  clear HVI HM v1
                  subst v2
                  go_wp2
                  go_roundg (ws.length - (i + 1))
                  case measure => omega
                  case rel => exact ⟨i + 1, by omega, rfl, by go_num, HB.out, HN.out⟩
                · have HF : Hid (fc = 4 ∧ fr = []) := by
                    rw [HFC.out.1, HFC.out.2]
                    exact code_kind k10 HE.out (not_allK h1 (by rw [← HVI.out]; exact v1) (by rw [← HVI.out]; exact v2))
                  have w1 : (vi != 1) = true := by simpa using v1
                  have w2 : (vi != 2) = true := by simpa using v2
                  clear HM HFC
                  go_wp2
                  go_ret2
                  obtain ⟨h1, h2⟩ := HF.out
                  subst h1 h2
                  exact ⟨_, rfl, Or.inl ⟨rfl, rfl⟩, HB.out⟩
            · have i1 : ¬ (i : Int) < (ws.length : Int) := by omega
              obtain rfl : i = ws.length := by omega
              have HALL : Hid (allK ws = true) := allK_of HNO.out
              clear HNO
              go_wp2
              go_loopg [6] K (fun gk s6 wx => ∃ m : Nat, m ≤ K ∧ gk = K - m ∧ s6 = .int .i64 (m : Int) ∧ Hid (Non ws k m) ∧ Hid (Below w.heap.size w wx))
              case atStart => exact ⟨0, by omega, rfl, rfl, fun m' h => by omega, HB.out⟩
              case round =>
                clear HB
                obtain ⟨m, hm, rfl, rfl, HNON, HB⟩ := hrel
                by_cases h2 : m < K
                · have i2 : (m : Int) < (K : Int) := by omega
                  have m0 : (0 : Int) ≤ (m : Int) := by omega
                  go_wp2
                  rw [hp]
                  go_loopg [7, 8] k (fun gk s7 s8 wx => ∃ i : Nat, i ≤ k ∧ gk = k - i ∧ s8 = .int .i64 (i : Int) ∧ Hid (wx.ownsRow w.heap.size 3 1 s7 i (rowI (btl m i))) ∧ Hid (Below w.heap.size w wx))
                  case atStart => exact ⟨0, by omega, rfl, rfl, ⟨by simp [rowI, btl], Or.inl ⟨rfl, rfl⟩⟩, HB.out⟩
                  case round =>
                    clear HB
                    obtain ⟨i, hi, rfl, rfl, HO, HB⟩ := hrel
                    by_cases h3 : i < k
                    · have i3' : (i : Int) < (k : Int) := by omega
                      have i4 : (0 : Int) ≤ (i : Int) := by omega
                      obtain ⟨d, hd⟩ : ∃ d : Nat, d = m / 2 ^ i := ⟨_, rfl⟩
                      obtain ⟨r, hr⟩ : ∃ r : Nat, r = d % 2 := ⟨_, rfl⟩
                      have ed : ((m : Int) / 2 ^ i) = (d : Int) := by rw [hd]; simp
                      have er : ((d : Int) % 2) = (r : Int) := by omega
                      have et : ((d : Int)).tmod 2 = (r : Int) := by rw [Int.tmod_eq_emod_of_nonneg (by omega)]; exact er
                      have hr1 : r ≤ 1 := by omega
                      have HT : Hid (btl m (i + 1) = btl m i ++ [1 + (r : Int)]) := by
                        have := btl_succ m i
                        rw [← hd, ← hr] at this
                        exact this
                      clear hd hr
                      go_wp2_with (at_builtin; refine wpList_append_own _ rfl (.tmp 59) (.tmp 65) 22 rfl w.heap.size 3 i3 (.int .i64 0) 1 8 Try.underlying22 HI.out.1 HI.out.2.1 HI.out.2.2.1 HI.out.2.2.2 rfl (by decide) u7 i (rowI (btl m i)) rfl (own_below HO.out (bl_alloc (bl_refl _))) ⟨wr.heap.size, 0, none⟩ 1 1 [.int .i64 (1 + (r : Int))] rfl rfl (cell_one _ (by simp [go_sem])) (one_cell _) (by unfold maxLen; omega) (by omega) (by have := HB.out.size; simp; omega) ?gA)
                      case gA =>
                        intro v' w3 hown hgrow _
                        have HO3 : Hid (w3.ownsRow w.heap.size 3 1 v' (i + 1) (rowI (btl m (i + 1))) ∧ Below w.heap.size w w3) := by
                          refine ⟨?_, bl_own (bl_alloc HB.out) (own_below HO.out (bl_alloc (bl_refl _))) (Nat.le_refl _) hgrow⟩
                          rw [HT.out, rowI_add]
                          exact hown
                        clear hown hgrow
                        go_wp2
                        go_roundg (k - (i + 1))
                        case measure => omega
                        case rel => exact ⟨i + 1, by omega, rfl, by go_num, HO3.out.1, HO3.out.2⟩
                    · have i3' : ¬ (i : Int) < (k : Int) := by omega
                      obtain rfl : i = k := by omega
                      obtain ⟨W, hW⟩ : ∃ W, W = opn (btl m i) := ⟨_, rfl⟩
                      have HWL : Hid (W = opn (btl m i) ∧ W.length = ws.length) := by
                        refine ⟨hW, ?_⟩
                        have h5 := opn_len (btl m i)
                        rw [btl_len, HE.out] at h5
                        rw [hW]
                        omega
                      have CW := C13.out u7 (btl m i) wr (own_sl (n := i) (base := w.heap.size) (e := 3) HO.out (btl_len m i).symm).sg (by rw [btl_len]; exact k10) (btl_allK m i)
                      rw [← hW, HWL.out.2] at CW
                      have CH : Hid (Calls Try.prog 13 #[u7] wr fun e w' => ∃ u, e = .returned u ∧ w'.ownsRow wr.heap.size 3 1 u ws.length (rowI W) ∧ Below wr.heap.size wr w') := CW
                      clear CW hW
                      go_wp2_with (go_at_call 13; refine CH.out.mono ?_; rintro e w5 ⟨u, rfl, hown, hb⟩; obtain ⟨a5, c5, hu5, hR5⟩ := (own_sl (n := ws.length) (e := 3) hown HWL.out.2.symm).sg; rw [HWL.out.2] at hu5; subst hu5; have HR5 : Hid (∀ j, j < ws.length → ∃ g off, a5 = some ⟨g, off, none⟩ ∧ w5.cell? ⟨g, off + j, none⟩ = some (.int .i64 (gt W j))) := (by rw [HWL.out.2] at hR5; exact hR5); have HB5 : Hid (Below w.heap.size w w5 ∧ Sl w5 u7 (btl m i)) := ⟨bl_via HB.out hb, (own_sl (n := i) (base := w.heap.size) (e := 3) HO.out (btl_len m i).symm).kept hb⟩; clear hown hb hR5)
                      clear CH HO HB
                      go_loopg [10, 11] ws.length (fun gk s10 s11 wx => ∃ (j : Nat) (b : Bool), j ≤ ws.length ∧ gk = ws.length - j ∧ s11 = .int .i64 (j : Int) ∧ s10 = .bool b ∧ Hid (b = true → ∀ t, t < j → gt W t = gt ws t) ∧ Hid (b = false → W ≠ ws) ∧ Hid (Below w5.heap.size w5 wx))
                      case atStart => exact ⟨0, true, by omega, rfl, rfl, rfl, (fun _ t ht => by omega), (fun h => by cases h), bl_refl _⟩
                      case round =>
                        obtain ⟨j, b, hj, rfl, rfl, rfl, HT1, HT2, HB⟩ := hrel
                        by_cases h4 : j < ws.length
                        · have j1 : (j : Int) < (ws.length : Int) := by omega
                          have j0 : (0 : Int) ≤ (j : Int) := by omega
                          cases b
                          · have HN2 : Hid (Non ws i (m + 1)) := by
                              have := HT2.out rfl
                              rw [HWL.out.1] at this
                              exact non_succ HNON.out this
                            go_wp2
                            go_roundg (K - (m + 1))
                            case measure => omega
                            case rel => exact ⟨m + 1, by omega, rfl, by go_num, HN2.out, bl_via HB5.out.1 HB.out⟩
                          · obtain ⟨g, off, ha, c0⟩ := HRR.out j h4
                            subst ha
                            replace c0 := cl_kept (bl_via HB5.out.1 HB.out) c0
                            have zg : g < wr.heap.size := World.block_lt_of_cell? _ _ c0
                            obtain ⟨g2, off2, ha2, d0⟩ := HR5.out j h4
                            subst ha2
                            replace d0 := cl_kept HB.out d0
                            have zg2 : g2 < wr.heap.size := World.block_lt_of_cell? _ _ d0
                            obtain ⟨vi, hvi⟩ : ∃ v, v = gt ws j := ⟨_, rfl⟩
                            obtain ⟨ui, hui⟩ : ∃ v, v = gt W j := ⟨_, rfl⟩
                            rw [← hvi] at c0
                            rw [← hui] at d0
                            obtain ⟨bb, hbb⟩ : ∃ b, b = (ui == vi) := ⟨_, rfl⟩
                            have hbb2 : (ui == vi) = bb := hbb.symm
                            have HN1 : Hid (bb = true → ∀ t, t < j + 1 → gt W t = gt ws t) := fun h t ht => by
                              by_cases htj : t < j
                              · exact HT1.out rfl t htj
                              · have : t = j := by omega
                                rw [hbb] at h
                                rw [this, ← hvi, ← hui]
                                simpa using h
                            have HN2 : Hid (bb = false → W ≠ ws) := fun h e => by
                              rw [hbb] at h
                              rw [hui, hvi, e] at h
                              simp at h
                            clear hvi hui hbb
                            have kc := Kin.cells wr
                            have kn : Nonempty (Kin wr) := ⟨⟨wr, bl_refl _⟩⟩
                            go_wp2
                            refine wp_region_kin (by kernel_rfl) (by kernel_rfl) ?_
                            repeat (go_big_quiet_step (fail))
                            refine wpQuiet_nil ?_
                            intro wq hw'
                            obtain ⟨nq, hw''⟩ := hw'
                            have hq : Below wr.heap.size wr wq := hw'' ▸ nq.h
                            clear hw'' nq kc kn
                            go_wp2
                            go_roundg (ws.length - (j + 1))
                            case measure => omega
                            case rel => exact ⟨j + 1, bb, by omega, rfl, by go_num, by first | rfl | rw [hbb2], HN1.out, HN2.out, bl_via HB.out hq⟩
                        · have j1 : ¬ (j : Int) < (ws.length : Int) := by omega
                          obtain rfl : j = ws.length := by omega
                          cases b
                          · have HN2 : Hid (Non ws i (m + 1)) := by
                              have := HT2.out rfl
                              rw [HWL.out.1] at this
                              exact non_succ HNON.out this
                            go_wp2
                            go_roundg (K - (m + 1))
                            case measure => omega
                            case rel => exact ⟨m + 1, by omega, rfl, by go_num, HN2.out, bl_via HB5.out.1 HB.out⟩
                          · have HF : Hid (fc = 0 ∧ fr = btl m i) := by
                              rw [HFC.out.1, HFC.out.2]
                              have he : W = ws := list_eq HWL.out.2 (fun t ht => HT1.out rfl t (by have := HWL.out.2; omega))
                              rw [HWL.out.1] at he
                              exact code_some k10 HE.out HALL.out he
                            clear HFC
                            go_wp2
                            go_ret2
                            obtain ⟨h1, h2⟩ := HF.out
                            subst h1 h2
                            exact ⟨_, rfl, HB5.out.2.kept HB.out, bl_via HB5.out.1 HB.out⟩
                · have i2 : ¬ (m : Int) < (K : Int) := by omega
                  have HF : Hid (fc = 9 ∧ fr = []) := by
                    rw [HFC.out.1, HFC.out.2]
                    exact code_none k10 HE.out HALL.out (by rw [← HK.out]; have hmk : m = K := (by omega); rw [← hmk]; exact HNON.out)
                  clear HFC
                  go_wp2
                  go_ret2
                  obtain ⟨h1, h2⟩ := HF.out
                  subst h1 h2
                  exact ⟨_, rfl, Or.inl ⟨rfl, rfl⟩, HB.out⟩
      · have e1 : ((K : Int) != (ws.length : Int) + 1) = true := by
          simp only [bne_iff_ne, ne_eq]
          omega
        have HF : Hid (fc = 2 ∧ fr = []) := by
          rw [HFC.out.1, HFC.out.2]
          exact code_size HLO.out (by rw [← HK.out]; omega) (Or.inl (by rw [← HK.out]; exact e))
        clear e HFC
        go_wp2
        go_ret2
        obtain ⟨h1, h2⟩ := HF.out
        subst h1 h2
        exact ⟨_, rfl, Or.inl ⟨rfl, rfl⟩, bl_refl _⟩
end Go.Proofs.Ytblagffijppgjaa
