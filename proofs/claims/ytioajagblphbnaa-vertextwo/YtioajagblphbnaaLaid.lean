/- One sector more is laid. -/
import Derived.Test.YtioajagblphbnaaOwns
namespace Go.Proofs.Ytioajagblphbnaa
open Go.RowKit

def lf (t v : Int) : Int := if v ≥ t then v + 1 else v
theorem laidL_eq (h : List Int) (t : Int) : laidL h t = h.map (lf t) ++ [t] := rfl
/-- The first ones, laid. -/
def lp (h : List Int) (t : Int) (i : Nat) : List Int := (h.take i).map (lf t)
theorem lp_zero (h : List Int) (t : Int) : lp h t 0 = [] := by simp [lp]
theorem lp_succ (h : List Int) (t : Int) (i : Nat) (hi : i < h.length) : lp h t (i + 1) = lp h t i ++ [lf t (gt h i)] := by
  unfold lp
  rw [List.take_succ_eq_append_getElem hi, List.map_append, gt_lt hi]
  rfl
theorem lp_all (h : List Int) (t : Int) : lp h t h.length = h.map (lf t) := by simp [lp]
set_option maxRecDepth 100000 in
set_option maxHeartbeats 800000 in
theorem laid_any (v : Value) (h : List Int) (t : Nat) (w : World) (hv : Sl w v h) (h8 : h.length ≤ 8) (_ht : t ≤ 8) (hb : ∀ i, i < h.length → 0 ≤ gt h i ∧ gt h i < 9) :
    Calls Try.prog 24 #[v, .int .i64 (t : Int)] w fun e w' => ∃ g cap, e = .returned (.slice (some ⟨g, 0, none⟩) (laidL h (t : Int)).length cap) ∧ Rw w' g (laidL h (t : Int)) ∧ Below w.heap.size w w' := by
  obtain ⟨a, c, rfl, hR⟩ := sl_meet hv
  obtain ⟨i3, hI⟩ := info_parts inf3
  have HI : Hid (Try.prog.info? 3 = some i3 ∧ i3.zero = some (.int .i64 0) ∧ i3.size = 1 ∧ i3.bytes = 8) := hI
  have HR : Hid (∀ i, i < h.length → ∃ g, a = some ⟨g, 0, none⟩ ∧ w.cell? ⟨g, i, none⟩ = some (.int .i64 (gt h i))) := hR
  have HBD : Hid (∀ i, i < h.length → 0 ≤ gt h i ∧ gt h i < 9) := hb
  clear hv hI hR hb
  go_enter Try.func24, Try.ntmps24
  go_wp2_with (at_make; refine wpList_make_own _ rfl _ _ 48 rfl w.heap.size 3 i3 (.int .i64 0) 1 Try.underlying48 HI.out.1 HI.out.2.1 HI.out.2.2.1 _ _ _ (h.length + 1) rfl rfl (by omega) ?bytes ?maxl ?base ?_)
  case bytes => rw [HI.out.2.2.2]; omega
  case maxl => unfold maxLen; omega
  case base => omega
  intro w1 hown hg1
  have HO : Hid (w1.ownsRow w.heap.size 3 1 (.slice (some ⟨w.heap.size, 0, none⟩) 0 (h.length + 1)) 0 (rowI []) ∧ Below w.heap.size w w1) := ⟨hown, (bl_refl w).grown hg1 (Nat.le_refl _) (fun k hk => by cases hk)⟩
  clear hown hg1
  go_wp2
  go_loopg [5, 14] h.length (fun gk s5 s14 wx => ∃ i : Nat, i ≤ h.length ∧ gk = h.length - i ∧ s14 = .int .i64 (i : Int) ∧ wx.ownsRow w.heap.size 3 1 s5 i (rowI (lp h (t : Int) i)) ∧ Below w.heap.size w wx)
  case atStart => exact ⟨0, by omega, rfl, rfl, by rw [lp_zero]; exact HO.out.1, HO.out.2⟩
  case round =>
    clear HO
    obtain ⟨i, hi, rfl, rfl, hO, hB⟩ := hrel
    have HO : Hid (wr.ownsRow w.heap.size 3 1 u5 i (rowI (lp h (t : Int) i)) ∧ Below w.heap.size w wr) := ⟨hO, hB⟩
    have HS : Hid (w.heap.size ≤ wr.heap.size) := hB.size
    clear hO hB
    by_cases h1 : i < h.length
    · have i1 : (i : Int) < (h.length : Int) := by omega
      have i0 : (0 : Int) ≤ (i : Int) := by omega
      obtain ⟨g, rfl, c0⟩ := HR.out i h1
      replace c0 := cl_kept HO.out.2 c0
      have zg : g < wr.heap.size := World.block_lt_of_cell? _ _ c0
      have hbd := HBD.out i h1
      obtain ⟨vi, hvi⟩ : ∃ v, v = gt h i := ⟨_, rfl⟩
      rw [← hvi] at c0 hbd
      have HVI : Hid (vi = gt h i) := hvi
      clear hvi
      by_cases q : (t : Int) ≤ vi
      · have HF : Hid (lf (t : Int) vi = vi + 1) := if_pos q
        go_wp2_with (at_builtin; refine wpList_append_own _ rfl (.tmp 23) (.tmp 25) 48 rfl w.heap.size 3 i3 (.int .i64 0) 1 8 Try.underlying48 HI.out.1 HI.out.2.1 HI.out.2.2.1 HI.out.2.2.2 rfl (by decide) u5 i (rowI (lp h (t : Int) i)) rfl (own_below HO.out.1 (bl_alloc (bl_refl _))) ⟨wr.heap.size, 0, none⟩ 1 1 [.int .i64 (vi + 1)] rfl rfl (cell_one _ (by simp [go_sem])) (one_cell _) (by unfold maxLen; omega) (by omega) (by have := HS.out; simp; omega) ?growA)
        case growA =>
          intro v' w3 hown hgrow _
          have HO3 : Hid (w3.ownsRow w.heap.size 3 1 v' (i + 1) (rowI (lp h (t : Int) (i + 1))) ∧ Below w.heap.size w w3) := by
            refine ⟨?_, bl_own (bl_alloc HO.out.2) (own_below HO.out.1 (bl_alloc (bl_refl _))) (Nat.le_refl _) hgrow⟩
            rw [lp_succ h _ i h1, rowI_add, ← HVI.out, HF.out]
            exact hown
          clear hown hgrow
          go_wp2
          go_roundg (h.length - (i + 1))
          case measure => omega
          case rel => exact ⟨i + 1, by omega, rfl, by go_num, HO3.out.1, HO3.out.2⟩
      · have HF : Hid (lf (t : Int) vi = vi) := if_neg q
        go_wp2_with (at_builtin; refine wpList_append_own _ rfl (.tmp 23) (.tmp 25) 48 rfl w.heap.size 3 i3 (.int .i64 0) 1 8 Try.underlying48 HI.out.1 HI.out.2.1 HI.out.2.2.1 HI.out.2.2.2 rfl (by decide) u5 i (rowI (lp h (t : Int) i)) rfl (own_below HO.out.1 (bl_alloc (bl_refl _))) ⟨wr.heap.size, 0, none⟩ 1 1 [.int .i64 vi] rfl rfl (cell_one _ (by simp [go_sem])) (one_cell _) (by unfold maxLen; omega) (by omega) (by have := HS.out; simp; omega) ?growB)
        case growB =>
          intro v' w3 hown hgrow _
          have HO3 : Hid (w3.ownsRow w.heap.size 3 1 v' (i + 1) (rowI (lp h (t : Int) (i + 1))) ∧ Below w.heap.size w w3) := by
            refine ⟨?_, bl_own (bl_alloc HO.out.2) (own_below HO.out.1 (bl_alloc (bl_refl _))) (Nat.le_refl _) hgrow⟩
            rw [lp_succ h _ i h1, rowI_add, ← HVI.out, HF.out]
            exact hown
          clear hown hgrow
          go_wp2
          go_roundg (h.length - (i + 1))
          case measure => omega
          case rel => exact ⟨i + 1, by omega, rfl, by go_num, HO3.out.1, HO3.out.2⟩
    · have i1 : ¬ (i : Int) < (h.length : Int) := by omega
      obtain rfl : i = h.length := by omega
      go_wp2_with (at_builtin; refine wpList_append_own _ rfl (.tmp 28) (.tmp 30) 48 rfl w.heap.size 3 i3 (.int .i64 0) 1 8 Try.underlying48 HI.out.1 HI.out.2.1 HI.out.2.2.1 HI.out.2.2.2 rfl (by decide) u5 h.length (rowI (lp h (t : Int) h.length)) rfl (own_below HO.out.1 (bl_alloc (bl_refl _))) ⟨wr.heap.size, 0, none⟩ 1 1 [.int .i64 (t : Int)] rfl rfl (cell_one _ (by simp [go_sem])) (one_cell _) (by unfold maxLen; omega) (by omega) (by have := HS.out; simp; omega) ?growC)
      case growC =>
        intro v' w3 hown hgrow _
        have hb3 := bl_own (bl_alloc HO.out.2) (own_below HO.out.1 (bl_alloc (bl_refl _))) (Nat.le_refl _) hgrow
        have hsl : Sl w3 v' (laidL h (t : Int)) := by
          refine own_sl (n := h.length + 1) (base := w.heap.size) (e := 3) ?_ (by rw [laid_len])
          rw [laidL_eq, rowI_add]
          rw [lp_all] at hown
          exact hown
        obtain ⟨g, cap, rfl, hrw⟩ := hsl.some (by rw [laid_len]; omega)
        have HX : Hid (Rw w3 g (laidL h (t : Int)) ∧ Below w.heap.size w w3) := ⟨hrw, hb3⟩
        clear hown hgrow hsl hrw hb3
        go_wp2
        go_ret
        exact ⟨g, cap, rfl, HX.out.1, HX.out.2⟩
end Go.Proofs.Ytioajagblphbnaa
