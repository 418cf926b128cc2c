/- The reference's WordOf. -/
import Derived.Test.YtblagffijppgjaaWord
namespace Go.Proofs.Ytblagffijppgjaa
open Go.RowKit

theorem shl_nat {n : Nat} (h : n ≤ 10) : wrap64 ((2 : Int) ^ n) = ((2 ^ n : Nat) : Int) ∧ 2 ^ n ≤ 1024 := by
  have : n = 0 ∨ n = 1 ∨ n = 2 ∨ n = 3 ∨ n = 4 ∨ n = 5 ∨ n = 6 ∨ n = 7 ∨ n = 8 ∨ n = 9 ∨ n = 10 := by omega
  rcases this with rfl | rfl | rfl | rfl | rfl | rfl | rfl | rfl | rfl | rfl | rfl <;> exact ⟨by first | go_num | (simp [wrap64]; done) | kernel_rfl, by decide⟩
/-- The search for the fold that made place p. -/
def Inn (rs : List Int) (p q j m : Nat) : Prop := q + j + 1 = rs.length ∧ 1 ≤ m ∧ m < 2 ^ (q + 1) ∧ pl (rs.drop j) m = pl rs p
theorem inn_start {rs : List Int} {p q : Nat} (hq : q + 1 = rs.length) (h1 : 1 ≤ p) (h2 : p < 2 ^ rs.length) : Inn rs p q 0 p := ⟨by omega, h1, by rw [hq]; exact h2, rfl⟩
theorem drop_gt {rs : List Int} {j : Nat} (h : j < rs.length) : rs.drop j = gt rs j :: rs.drop (j + 1) := by
  rw [gt_lt h]
  exact List.drop_eq_getElem_cons h
theorem inn_step {rs : List Int} {p q j m : Nat} (h : Inn rs p q j m) (he : m % 2 = 0) : ∃ q', q = q' + 1 ∧ Inn rs p q' (j + 1) (m / 2) := by
  obtain ⟨h1, h2, h3, h4⟩ := h
  cases q with
  | zero => simp at h3; omega
  | succ q' =>
    refine ⟨q', rfl, by omega, by omega, ?_, ?_⟩
    · rw [Nat.pow_succ] at h3; omega
    · rw [← h4, drop_gt (j := j) (by omega), pl_cons, if_neg (by omega)]
theorem inn_end {rs : List Int} {p q j m : Nat} (h : Inn rs p q j m) (he : m % 2 = 1) : pl rs p = if m % 4 = 3 then 3 - gt rs j else gt rs j := by
  obtain ⟨h1, h2, h3, h4⟩ := h
  rw [← h4, drop_gt (by omega), pl_cons, if_pos he]
theorem gt_rev {fs : List Int} {q j : Nat} (h : q + j + 1 = fs.length) : gt fs.reverse j = gt fs q := by
  rw [gt_lt (by rw [List.length_reverse]; omega), gt_lt (by omega), List.getElem_reverse]
  congr 1
  omega
theorem quo2 (m : Nat) : ((m : Int)).tdiv 2 = ((m / 2 : Nat) : Int) := by
  rw [Int.tdiv_eq_ediv_of_nonneg (by omega)]
  rfl
theorem rem4 (m : Nat) : ((m : Int)).tmod 4 = ((m % 4 : Nat) : Int) := tmod_nat m 4
set_option maxRecDepth 100000 in
set_option maxHeartbeats 1600000 in
theorem wordOf13 (v : Value) (fs : List Int) (w : World) (hv : Sg w v fs) (hl : fs.length ≤ 10) (hk : allK fs = true) :
    Calls Try.prog 13 #[v] w fun e w' => ∃ u, e = .returned u ∧ w'.ownsRow w.heap.size 3 1 u (opn fs).length (rowI (opn fs)) ∧ Below w.heap.size w w' := by
  obtain ⟨a, c, rfl, hR⟩ := hv
  have HR : Hid (∀ i, i < fs.length → ∃ g off, a = some ⟨g, off, none⟩ ∧ w.cell? ⟨g, off + i, none⟩ = some (.int .i64 (gt fs i))) := hR
  have HK : Hid (allK fs = true) := hk
  obtain ⟨i3, hI⟩ := info_parts inf3
  have HI : Hid (Try.prog.info? 3 = some i3 ∧ i3.zero = some (.int .i64 0) ∧ i3.size = 1 ∧ i3.bytes = 8) := hI
  have hp := (shl_nat hl).1
  have hN9 := (shl_nat hl).2
  have hW := opn_len fs
  obtain ⟨N, hN⟩ : ∃ N : Nat, N = 2 ^ fs.length := ⟨_, rfl⟩
  obtain ⟨W, hWe⟩ : ∃ W, W = opn fs := ⟨_, rfl⟩
  rw [← hN] at hp hN9 hW
  rw [← hWe] at hW ⊢
  have HN : Hid (N = 2 ^ fs.length ∧ W.length + 1 = N) := ⟨hN, hW⟩
  have HP : Hid (∀ p, 1 ≤ p → p < N → gt W (p - 1) = pl fs.reverse p) := fun p h1 h2 => by
    rw [hWe, opr_opn]
    exact opr_at fs.reverse p h1 (by rw [List.length_reverse, ← hN]; exact h2)
  clear hR hk hI hN hW hWe
  go_enter Try.func13, Try.ntmps13
  go_wp2
  go_loopg [4, 5] N (fun gk s4 s5 wx => ∃ i : Nat, i + 1 ≤ N ∧ gk = N - i ∧ s5 = .int .i64 ((i : Int) + 1) ∧ wx.ownsRow w.heap.size 3 1 s4 i (rowI (W.take i)) ∧ Below w.heap.size w wx)
  case atStart => exact ⟨0, by have := HN.out.2; omega, rfl, rfl, ⟨by simp [rowI], Or.inl ⟨rfl, rfl⟩⟩, bl_refl _⟩
  case round =>
    obtain ⟨i, hi, rfl, rfl, hO, hB⟩ := hrel
    have HO : Hid (wr.ownsRow w.heap.size 3 1 u4 i (rowI (W.take i)) ∧ Below w.heap.size w wr) := ⟨hO, hB⟩
    clear hO hB
    by_cases h1 : i + 1 < N
    · have i1 : (i : Int) + 1 < (N : Int) := by omega
      have HIN : Hid (∃ n', fs.length = n' + 1 ∧ Inn fs.reverse (i + 1) n' 0 (i + 1)) := by
        have h2 := HN.out.1
        have : fs.length ≠ 0 := fun e => by rw [e] at h2; simp at h2; omega
        refine ⟨fs.length - 1, by omega, inn_start (by rw [List.length_reverse]; omega) (by omega) (by rw [List.length_reverse, ← h2]; exact h1)⟩
      obtain ⟨n', hn', hinn⟩ := HIN.out
      have HN' : Hid (fs.length = n' + 1) := hn'
      have HI0 : Hid (Inn fs.reverse (i + 1) n' 0 (i + 1)) := hinn
      have n10 : n' ≤ 10 := by omega
      have en : ((fs.length : Int)) - 1 = (n' : Int) := by omega
      clear hn' hinn HIN
      go_wp2
      go_loopg [6, 7] (i + 1) (fun gk s6 s7 wx => ∃ q j m : Nat, m = gk ∧ q ≤ 10 ∧ m ≤ 1024 ∧ s6 = .int .i64 (m : Int) ∧ s7 = .int .i64 (q : Int) ∧ Inn fs.reverse (i + 1) q j m ∧ wx = wr)
      case atStart => exact ⟨n', 0, i + 1, rfl, n10, by omega, by go_num, by go_num, HI0.out, rfl⟩
      case round =>
        obtain ⟨q, j, m, rfl, hq, hm, rfl, rfl, hinn, rfl⟩ := hrel
        have HJ : Hid (Inn fs.reverse (i + 1) q j m) := hinn
        clear hinn
        by_cases c2 : m % 2 = 0
        · obtain ⟨q', hq', hst⟩ := inn_step HJ.out c2
          have HS : Hid (Inn fs.reverse (i + 1) q' (j + 1) (m / 2) ∧ 1 ≤ m) := ⟨hst, HJ.out.2.1⟩
          have t2 : ((m : Int) % 2 == 0) = true := by rw [beq_iff_eq]; omega
          clear hst HJ c2
          subst hq'
          go_wp2
          go_roundg (m / 2)
          case measure => have := HS.out.2; omega
          case rel => exact ⟨q', j + 1, m / 2, rfl, by omega, by omega, by go_num, by go_num, HS.out.1, rfl⟩
        · have t2 : ((m : Int) % 2 == 0) = false := by rw [beq_eq_false_iff_ne]; omega
          have HE : Hid (pl fs.reverse (i + 1) = if m % 4 = 3 then 3 - gt fs q else gt fs q) := by
            have h := inn_end HJ.out (by omega)
            rw [gt_rev (q := q) (by have := HJ.out.1; rwa [List.length_reverse] at this)] at h
            exact h
          have hqn : q < fs.length := by have := HJ.out.1; rw [List.length_reverse] at this; omega
          obtain ⟨g, off, rfl, c0⟩ := HR.out q hqn
          replace c0 := cl_kept HO.out.2 c0
          have zg : g < wr.heap.size := World.block_lt_of_cell? _ _ c0
          obtain ⟨vi, hvi⟩ : ∃ v, v = gt fs q := ⟨_, rfl⟩
          have hkk := allK_at HK.out hqn
          rw [← hvi] at c0 HE hkk
          have v1 : 1 ≤ vi := by omega
          have v2 : vi ≤ 2 := by omega
          have HT : Hid (∀ x, x = pl fs.reverse (i + 1) → W.take (i + 1) = W.take i ++ [x]) := fun x hx => by
            have h3 := HN.out.2
            have := HP.out (i + 1) (by omega) h1
            rw [Nat.add_sub_cancel] at this
            rw [take_one (by omega), this, hx]
          clear hvi hkk c2 HJ
          have i0 : (0 : Int) ≤ (q : Int) := by omega
          have q1 : (q : Int) < (fs.length : Int) := by omega
          clear hqn
          by_cases c4 : m % 4 = 3
          · have t4 : ((m : Int) % 4 == 3) = true := by rw [beq_iff_eq]; omega
            have HX : Hid (W.take (i + 1) = W.take i ++ [3 - vi]) := HT.out _ (by rw [HE.out, if_pos c4])
            clear c4 HE HT
            go_wp2_with (at_builtin; refine wpList_append_own _ rfl (.tmp 36) (.tmp 38) 22 rfl w.heap.size 3 i3 (.int .i64 0) 1 8 Try.underlying22 HI.out.1 HI.out.2.1 HI.out.2.2.1 HI.out.2.2.2 rfl (by decide) u4 i (rowI (W.take i)) rfl (own_below HO.out.1 (bl_alloc (bl_refl _))) ⟨wr.heap.size, 0, none⟩ 1 1 [.int .i64 (3 - vi)] rfl rfl (cell_one _ (by simp [go_sem])) (one_cell _) (by unfold maxLen; omega) (by omega) (by have := HO.out.2.size; simp; omega) ?gA)
            case gA =>
              intro v' w3 hown hgrow _
              have HO3 : Hid (w3.ownsRow w.heap.size 3 1 v' (i + 1) (rowI (W.take (i + 1))) ∧ Below w.heap.size w w3) := by
                refine ⟨?_, bl_own (bl_alloc HO.out.2) (own_below HO.out.1 (bl_alloc (bl_refl _))) (Nat.le_refl _) hgrow⟩
                rw [HX.out, rowI_add]
                exact hown
              clear hown hgrow
              go_wp2
              go_roundg (N - (i + 1))
              case measure => omega
              case rel => exact ⟨i + 1, by omega, rfl, by go_num, HO3.out.1, HO3.out.2⟩
          · have t4 : ((m : Int) % 4 == 3) = false := by rw [beq_eq_false_iff_ne]; omega
            have HX : Hid (W.take (i + 1) = W.take i ++ [vi]) := HT.out _ (by rw [HE.out, if_neg c4])
            clear c4 HE HT
            go_wp2_with (at_builtin; refine wpList_append_own _ rfl (.tmp 36) (.tmp 38) 22 rfl w.heap.size 3 i3 (.int .i64 0) 1 8 Try.underlying22 HI.out.1 HI.out.2.1 HI.out.2.2.1 HI.out.2.2.2 rfl (by decide) u4 i (rowI (W.take i)) rfl (own_below HO.out.1 (bl_alloc (bl_refl _))) ⟨wr.heap.size, 0, none⟩ 1 1 [.int .i64 vi] rfl rfl (cell_one _ (by simp [go_sem])) (one_cell _) (by unfold maxLen; omega) (by omega) (by have := HO.out.2.size; simp; omega) ?gA)
            case gA =>
              intro v' w3 hown hgrow _
              have HO3 : Hid (w3.ownsRow w.heap.size 3 1 v' (i + 1) (rowI (W.take (i + 1))) ∧ Below w.heap.size w w3) := by
                refine ⟨?_, bl_own (bl_alloc HO.out.2) (own_below HO.out.1 (bl_alloc (bl_refl _))) (Nat.le_refl _) hgrow⟩
                rw [HX.out, rowI_add]
                exact hown
              clear hown hgrow
              go_wp2
              go_roundg (N - (i + 1))
              case measure => omega
              case rel => exact ⟨i + 1, by omega, rfl, by go_num, HO3.out.1, HO3.out.2⟩
    · have i1 : ¬ (i : Int) + 1 < (N : Int) := by omega
      have HF : Hid (wr.ownsRow w.heap.size 3 1 u4 W.length (rowI W) ∧ Below w.heap.size w wr) := by
        have h := HO.out
        have h3 := HN.out.2
        have e : i = W.length := by omega
        rw [e, List.take_length] at h
        exact h
      clear HO
      go_wp2
      go_ret
      exact ⟨_, rfl, HF.out.1, HF.out.2⟩
end Go.Proofs.Ytblagffijppgjaa
