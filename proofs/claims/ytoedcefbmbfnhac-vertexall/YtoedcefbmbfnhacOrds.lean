/- The reference's Orders. -/
import Derived.Test.YtoedcefbmbfnhacOrdr
namespace Go.Proofs.Ytoedcefbmbfnhac
open Go.RowKit

theorem inf4 : (Try.prog.info? 4).map (fun i => (i.zero, i.size, i.bytes)) = some (some (.bool false), 1, 1) := by kernel_rfl
theorem own_first (w : World) : (w.alloc (.cells #[.int .i64 0] 3)).ownsRow w.heap.size 3 1 (.slice (some ⟨w.heap.size, 0, none⟩) 1 1) 1 (rowI [0]) :=
  ⟨by simp [rowI], .inr ⟨w.heap.size, 1, #[.int .i64 0], rfl, Nat.le_refl _, heap_alloc_new w _, Nat.le_refl _, by unfold maxLen; omega, by simp, by simp [rowI]⟩⟩
/-- Rows that 'make' made. -/
theorem made_cells {w : World} {base e g n : Nat} {z : Value} (h : w.ownsRow base e 1 (.slice (some ⟨g, 0, none⟩) n n) n (madeCells #[z] n).toList) : ∀ i, i < n → w.cell? ⟨g, i, none⟩ = some z ∧ w.frozen? ⟨g, i, none⟩ = false := fun i hi => by
  have hc := h.cellAt i (by omega)
  rw [toList_madeCells_one] at hc
  refine ⟨by rw [hc]; simp [hi], ?_⟩
  rcases h.2 with ⟨h1, _⟩ | ⟨g', cap, cur, h1, _, h3, _⟩
  · cases h1
  · cases h1
    simp [World.frozen?, h3]
theorem shl_nat {n : Nat} (h : n ≤ 8) : wrap64 ((2 : Int) ^ n) = ((2 ^ n : Nat) : Int) ∧ 2 ^ n ≤ 256 := by
  have : n = 0 ∨ n = 1 ∨ n = 2 ∨ n = 3 ∨ n = 4 ∨ n = 5 ∨ n = 6 ∨ n = 7 ∨ n = 8 := by omega
  rcases this with rfl | rfl | rfl | rfl | rfl | rfl | rfl | rfl | rfl <;> exact ⟨by first | go_num | (simp [wrap64]; done) | kernel_rfl, by decide⟩
theorem gt_rep (n i : Nat) (h : i < n) : gt (List.replicate n 0) i = 0 := by simp [gt, h]
set_option maxRecDepth 100000 in
set_option maxHeartbeats 800000 in
theorem orders_any (v : Value) (l : List Int) (w : World) (hv : Sg w v l) (h2 : 2 ≤ l.length) (h8 : l.length ≤ 8) (hb : ∀ i, i < l.length → 1 ≤ gt l i ∧ gt l i ≤ 1000) :
    Calls Try.prog 10 #[v] w fun e w' => ∃ g m O, e = .returned (.slice (some ⟨g, 0, none⟩) m m) ∧ m = 2 ^ l.length ∧ BR w' g m O ∧ (∀ b : Nat, b < m → (O b = true ↔ Ord (plc l l.length) l.length (b : Int))) ∧ Below w.heap.size w w' := by
  obtain ⟨a, c, rfl, hR⟩ := hv
  obtain ⟨i3, hI⟩ := info_parts inf3
  obtain ⟨i4, hI4⟩ := info_parts inf4
  have HI : Hid (Try.prog.info? 3 = some i3 ∧ i3.zero = some (.int .i64 0) ∧ i3.size = 1 ∧ i3.bytes = 8) := hI
  have HI4 : Hid (Try.prog.info? 4 = some i4 ∧ i4.zero = some (.bool false) ∧ i4.size = 1 ∧ i4.bytes = 1) := hI4
  have HR : Hid (∀ i, i < l.length → ∃ g off, a = some ⟨g, off, none⟩ ∧ w.cell? ⟨g, off + i, none⟩ = some (.int .i64 (gt l i))) := hR
  have HBD : Hid (∀ i, i < l.length → 1 ≤ gt l i ∧ gt l i ≤ 1000) := hb
  clear hI hI4 hR hb
  go_enter Try.func10, Try.ntmps10
  go_wp2
  refine wp_named (fun W1 hW1 => ?_)
  have HO : Hid (W1.ownsRow w.heap.size 3 1 (.slice (some ⟨w.heap.size, 0, none⟩) 1 1) 1 (rowI [0]) ∧ Below w.heap.size w W1) := by
    have : W1.ownsRow w.heap.size 3 1 (.slice (some ⟨w.heap.size, 0, none⟩) 1 1) 1 (rowI [0]) ∧ Below w.heap.size w W1 := by
      rw [hW1]
      exact ⟨own_first w, bl_alloc (bl_refl _)⟩
    exact this
  clear hW1
  go_loopg [4, 5] l.length (fun gk s4 s5 wx => ∃ i : Nat, i ≤ l.length ∧ gk = l.length - i ∧ s5 = .int .i64 (i : Int) ∧ wx.ownsRow w.heap.size 3 1 s4 (i + 1) (rowI (plc l i)) ∧ Below w.heap.size w wx)
  case atStart => exact ⟨0, by omega, rfl, rfl, by rw [plc_zero]; exact HO.out.1, HO.out.2⟩
  case round =>
    clear HO
    obtain ⟨i, hi, rfl, rfl, hO, hB⟩ := hrel
    have HS : Hid (w.heap.size ≤ wr.heap.size) := hB.size
    obtain ⟨gp, cp, rfl, hrp⟩ := (own_sl hO (plc_len l i).symm).some (by rw [plc_len]; omega)
    rw [plc_len] at hO ⊢
    have HO : Hid (wr.ownsRow w.heap.size 3 1 (.slice (some ⟨gp, 0, none⟩) (i + 1) cp) (i + 1) (rowI (plc l i)) ∧ Below w.heap.size w wr ∧ Rw wr gp (plc l i)) := ⟨hO, hB, hrp⟩
    clear hO hB hrp
    by_cases h1 : i < l.length
    · have i1 : (i : Int) < (l.length : Int) := by omega
      have i0 : (0 : Int) ≤ (i : Int) := by omega
      have i2 : (i : Int) < (i : Int) + 1 := by omega
      obtain ⟨g, off, rfl, c0⟩ := HR.out i h1
      replace c0 := cl_kept HO.out.2.1 c0
      have zg : g < wr.heap.size := World.block_lt_of_cell? _ _ c0
      have c1 := HO.out.2.2 i (by rw [plc_len]; omega)
      have zp : gp < wr.heap.size := World.block_lt_of_cell? _ _ c1
      rw [plc_at (Nat.le_refl _)] at c1
      have hbd := HBD.out i h1
      have hxb := xf_bd HBD.out i (by omega)
      obtain ⟨vi, hvi⟩ : ∃ v, v = gt l i := ⟨_, rfl⟩
      obtain ⟨xi, hxi⟩ : ∃ v, v = xf l i := ⟨_, rfl⟩
      rw [← hvi] at c0 hbd
      rw [← hxi] at c1 hxb
      have HVI : Hid (vi = gt l i ∧ xi = xf l i) := ⟨hvi, hxi⟩
      clear hvi hxi
      have t1 := two_int i
      by_cases q : (i : Int) % 2 = 1
      · have qb : ((i : Int) % 2 == 1) = true := by simpa using q
        have HF : Hid (xf l (i + 1) = xi + -vi) := by
          have : xf l (i + 1) = xi + -vi := by
            unfold xf
            rw [if_neg (by omega), HVI.out.1, HVI.out.2]
          exact this
        clear q
        go_wp2_with (at_builtin; refine wpList_append_own _ rfl (.tmp 26) (.tmp 33) 22 rfl w.heap.size 3 i3 (.int .i64 0) 1 8 Try.underlying22 HI.out.1 HI.out.2.1 HI.out.2.2.1 HI.out.2.2.2 rfl (by decide) (.slice (some ⟨gp, 0, none⟩) (i + 1) cp) (i + 1) (rowI (plc l i)) rfl (own_below HO.out.1 (bl_alloc (bl_refl _))) ⟨wr.heap.size, 0, none⟩ 1 1 [.int .i64 (xi + -vi)] rfl rfl (cell_one _ (by simp [go_sem])) (one_cell _) (by unfold maxLen; omega) (by omega) (by have := HS.out; simp; omega) ?growB)
        case growB =>
          intro v' w3 hown hgrow _
          have HO3 : Hid (w3.ownsRow w.heap.size 3 1 v' (i + 1 + 1) (rowI (plc l (i + 1))) ∧ Below w.heap.size w w3) := by
            refine ⟨?_, bl_own (bl_alloc HO.out.2.1) (own_below HO.out.1 (bl_alloc (bl_refl _))) (Nat.le_refl _) hgrow⟩
            rw [plc_succ, rowI_add, HF.out]
            exact hown
          clear hown hgrow
          go_wp2
          go_roundg (l.length - (i + 1))
          case measure => omega
          case rel => exact ⟨i + 1, by omega, rfl, by go_num, HO3.out.1, HO3.out.2⟩
      · have qb : ((i : Int) % 2 == 1) = false := by simpa using q
        have HF : Hid (xf l (i + 1) = xi + vi) := by
          have : xf l (i + 1) = xi + vi := by
            unfold xf
            rw [if_pos (by omega), HVI.out.1, HVI.out.2]
          exact this
        clear q
        go_wp2_with (at_builtin; refine wpList_append_own _ rfl (.tmp 26) (.tmp 33) 22 rfl w.heap.size 3 i3 (.int .i64 0) 1 8 Try.underlying22 HI.out.1 HI.out.2.1 HI.out.2.2.1 HI.out.2.2.2 rfl (by decide) (.slice (some ⟨gp, 0, none⟩) (i + 1) cp) (i + 1) (rowI (plc l i)) rfl (own_below HO.out.1 (bl_alloc (bl_refl _))) ⟨wr.heap.size, 0, none⟩ 1 1 [.int .i64 (xi + vi)] rfl rfl (cell_one _ (by simp [go_sem])) (one_cell _) (by unfold maxLen; omega) (by omega) (by have := HS.out; simp; omega) ?growA)
        case growA =>
          intro v' w3 hown hgrow _
          have HO3 : Hid (w3.ownsRow w.heap.size 3 1 v' (i + 1 + 1) (rowI (plc l (i + 1))) ∧ Below w.heap.size w w3) := by
            refine ⟨?_, bl_own (bl_alloc HO.out.2.1) (own_below HO.out.1 (bl_alloc (bl_refl _))) (Nat.le_refl _) hgrow⟩
            rw [plc_succ, rowI_add, HF.out]
            exact hown
          clear hown hgrow
          go_wp2
          go_roundg (l.length - (i + 1))
          case measure => omega
          case rel => exact ⟨i + 1, by omega, rfl, by go_num, HO3.out.1, HO3.out.2⟩
    · have i1 : ¬ (i : Int) < (l.length : Int) := by omega
      obtain rfl : i = l.length := by omega
      obtain ⟨m, hm⟩ : ∃ m, m = 2 ^ l.length := ⟨_, rfl⟩
      have hw := (shl_nat h8).1
      have hm8 := (shl_nat h8).2
      rw [← hm] at hw hm8
      have HM : Hid (m = 2 ^ l.length) := hm
      clear hm
      have HX : Hid (Below w.heap.size w wr ∧ Rw wr gp (plc l l.length)) := ⟨HO.out.2.1, HO.out.2.2⟩
      clear HO
      go_wp2_with (at_make; refine wpList_make_full _ rfl _ _ 31 rfl wr.heap.size 4 i4 (.bool false) 1 Try.underlying31 HI4.out.1 HI4.out.2.1 HI4.out.2.2.1 _ _ _ _ m rfl rfl (by first | rfl | exact hw) (by first | rfl | exact hw) (by rw [HI4.out.2.2.2]; omega) (by unfold maxLen; omega) (Nat.le_refl _) ?mk1)
      case mk1 =>
        intro w1 hown1 hg1
        have HB1 : Hid (BR w1 wr.heap.size m (fun _ => false) ∧ Below wr.heap.size wr w1) := ⟨made_cells hown1, (bl_refl wr).grown hg1 (Nat.le_refl _) (fun k hk => by cases hk)⟩
        clear hown1 hg1 hw
        go_wp2_with (at_make; refine wpList_make_full _ rfl _ _ 22 rfl w1.heap.size 3 i3 (.int .i64 0) 1 Try.underlying22 HI.out.1 HI.out.2.1 HI.out.2.2.1 _ _ _ _ l.length rfl rfl rfl rfl (by rw [HI.out.2.2.2]; omega) (by unfold maxLen; omega) (Nat.le_refl _) ?mk2)
        case mk2 =>
          intro w2 hown2 hg2
          have hb2 : Below w1.heap.size w1 w2 := (bl_refl w1).grown hg2 (Nat.le_refl _) (fun k hk => by cases hk)
          have hsz : wr.heap.size < w1.heap.size := World.block_lt_of_cell? _ _ (HB1.out.1 0 (by rw [HM.out]; exact Nat.two_pow_pos _)).1
          have HS : Hid (OS wr w2 w1.heap.size wr.heap.size l.length m (List.replicate l.length 0) (fun _ => false)) := by
            refine ⟨bl_via HB1.out.2 hb2, ⟨by simp, fun i hi => ?_⟩, HB1.out.1.kept hb2⟩
            rw [gt_rep _ _ hi]
            exact made_cells hown2 i hi
          have CO : Hid (Calls Try.prog 19 #[.slice (some ⟨gp, 0, none⟩) (l.length + 1) cp, .slice (some ⟨w1.heap.size, 0, none⟩) l.length l.length, .int .i64 0, .slice (some ⟨wr.heap.size, 0, none⟩) m m] w2 fun e w' => e = .returned (.tuple #[]) ∧ Came wr w' w1.heap.size wr.heap.size l.length m 0 (plc l l.length) (List.replicate l.length 0) (fun _ => false)) := by
            have := order_any wr gp cp w1.heap.size l.length wr.heap.size m l.length m (plc l l.length) HX.out.2 (plc_len _ _) h2 h8 HM.out (by omega) (Nat.le_refl _) (by omega) l.length 0 _ _ w2 (by omega) HS.out
            rw [plc_len] at this
            exact this
          clear hown2 hg2 hb2 HS hsz
          go_wp2_with (go_at_call 19; refine CO.out.mono ?_; rintro e w3 ⟨rfl, hC⟩; have HC : Hid (Came wr w3 w1.heap.size wr.heap.size l.length m 0 (plc l l.length) (List.replicate l.length 0) (fun _ => false)) := hC; clear hC)
          go_ret
          obtain ⟨H', O', s1, _, s3⟩ := HC.out
          refine ⟨wr.heap.size, m, O', rfl, HM.out, s1.2.2, fun b hb => ?_, bl_via HX.out.1 s1.1⟩
          rw [s3 b hb, ext_ord]
          simp
end Go.Proofs.Ytoedcefbmbfnhac
