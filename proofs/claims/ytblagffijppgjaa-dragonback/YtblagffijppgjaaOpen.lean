/- creased, opened, Word. -/
import Derived.Test.YtblagffijppgjaaCrea
namespace Go.Proofs.Ytblagffijppgjaa
open Go.RowKit

theorem two_cells {w : World} {g : Nat} (u v : Value) (h : w.cell? ⟨g, 0, none⟩ = some u) (k : w.cell? ⟨g, 1, none⟩ = some v) : ∀ j x, [u, v][j]? = some x → w.cell? ((⟨g, 0, none⟩ : Addr).add j) = some x := by
  intro j x hx
  rw [add_at]
  match j, hx with
  | 0, hx => simp at hx; subst hx; exact h
  | 1, hx => simp at hx; subst hx; exact k
theorem cell_two (n m : Int) : ∀ u ∈ [Value.int .i64 n, Value.int .i64 m], u.oneCell' = true := by
  intro u hu
  simp at hu
  rcases hu with rfl | rfl <;> rfl
theorem take_one {l : List Int} {i : Nat} (h : i < l.length) : l.take (i + 1) = l.take i ++ [gt l i] := by
  rw [List.take_succ_eq_append_getElem h, gt_lt h]
theorem take_two {l : List Int} {i : Nat} (h : i + 1 < l.length) : l.take (i + 2) = l.take i ++ [gt l i, gt l (i + 1)] := by
  rw [take_one h, take_one (by omega), List.append_assoc]
  rfl
/-- The kind at round i. -/
def alt (k : Int) (i : Nat) : Int := if i % 2 = 1 then 3 - k else k
theorem alt_succ (k : Int) (i : Nat) : alt k (i + 1) = 3 - alt k i := by
  unfold alt
  by_cases c : i % 2 = 1
  · rw [if_pos c, if_neg (by omega)]; omega
  · rw [if_neg c, if_pos (by omega)]
theorem alt_kind {k : Int} (h : k = 1 ∨ k = 2) (i : Nat) : alt k i = 1 ∨ alt k i = 2 := by
  unfold alt
  split <;> omega
theorem other32 (k : Int) (hk : k = 1 ∨ k = 2) (w : World) : Calls Try.prog 32 #[.int .i64 k] w fun e w' => e = .returned (.int .i64 (3 - k)) ∧ Below w.heap.size w w' := by
  have h1 : 1 ≤ k := by omega
  have h2 : k ≤ 2 := by omega
  clear hk
  go_enter Try.func32, Try.ntmps32
  go_wp2
  go_ret
  exact ⟨rfl, bl_refl _⟩
set_option maxRecDepth 100000 in
set_option maxHeartbeats 1000000 in
theorem creased27 (v : Value) (l : List Int) (k : Int) (w : World) (hv : Sg w v l) (hl : l.length ≤ 2000) (hk : k = 1 ∨ k = 2) :
    Calls Try.prog 27 #[v, .int .i64 k] w fun e w' => ∃ u, e = .returned u ∧ w'.ownsRow w.heap.size 3 1 u (crd l k).length (rowI (crd l k)) ∧ Below w.heap.size w w' := by
  obtain ⟨a, c, rfl, hR⟩ := hv
  have HR : Hid (∀ i, i < l.length → ∃ g off, a = some ⟨g, off, none⟩ ∧ w.cell? ⟨g, off + i, none⟩ = some (.int .i64 (gt l i))) := hR
  obtain ⟨i3, hI⟩ := info_parts inf3
  have HI : Hid (Try.prog.info? 3 = some i3 ∧ i3.zero = some (.int .i64 0) ∧ i3.size = 1 ∧ i3.bytes = 8) := hI
  have HL : Hid ((crd l k).length = 2 * l.length + 1) := crd_len l k
  have HK : Hid (k = 1 ∨ k = 2) := hk
  obtain ⟨cr, hcr⟩ : ∃ x, x = crd l k := ⟨_, rfl⟩
  have HCR : Hid (cr = crd l k) := hcr
  rw [← hcr] at HL ⊢
  clear hR hI hcr hk
  have C32 : Hid (∀ (k : Int) (W : World), k = 1 ∨ k = 2 → Calls Try.prog 32 #[.int .i64 k] W fun e w' => e = .returned (.int .i64 (3 - k)) ∧ Below W.heap.size W w') := fun k W h => other32 k h W
  go_enter Try.func27, Try.ntmps27
  go_wp2_with (at_make; refine wpList_make_own _ rfl _ _ 22 rfl w.heap.size 3 i3 (.int .i64 0) 1 Try.underlying22 HI.out.1 HI.out.2.1 HI.out.2.2.1 _ _ _ (2 * l.length + 1) rfl rfl (by omega) (by rw [HI.out.2.2.2]; omega) (by unfold maxLen; omega) (Nat.le_refl _) ?mk)
  case mk =>
    intro w1 hown hgr
    have HO1 : Hid (w1.ownsRow w.heap.size 3 1 (.slice (some ⟨w.heap.size, 0, none⟩) 0 (2 * l.length + 1)) 0 [] ∧ Below w.heap.size w w1) := ⟨hown, bl_grown_none hgr⟩
    clear hown hgr
    go_wp2
    go_loopg [1, 5, 15] l.length (fun gk s1 s5 s15 wx => ∃ i : Nat, i ≤ l.length ∧ gk = l.length - i ∧ s15 = .int .i64 (i : Int) ∧ s1 = .int .i64 (alt k i) ∧ wx.ownsRow w.heap.size 3 1 s5 (2 * i) (rowI (cr.take (2 * i))) ∧ Below w.heap.size w wx)
    case atStart => exact ⟨0, by omega, rfl, rfl, rfl, by simpa [rowI] using HO1.out.1, HO1.out.2⟩
    case round =>
      obtain ⟨i, hi, rfl, rfl, rfl, hO, hB⟩ := hrel
      have HO : Hid (wr.ownsRow w.heap.size 3 1 u5 (2 * i) (rowI (cr.take (2 * i))) ∧ Below w.heap.size w wr) := ⟨hO, hB⟩
      clear hO hB
      obtain ⟨ka, hka⟩ : ∃ x, x = alt k i := ⟨_, rfl⟩
      have HKA : Hid (ka = alt k i) := hka
      have HKK : Hid (ka = 1 ∨ ka = 2) := by
        have := alt_kind HK.out i
        rw [← hka] at this
        exact this
      rw [← hka]
      clear hka
      by_cases h1 : i < l.length
      · have i1 : (i : Int) < (l.length : Int) := by omega
        have i0 : (0 : Int) ≤ (i : Int) := by omega
        obtain ⟨g, off, rfl, c0⟩ := HR.out i h1
        replace c0 := cl_kept HO.out.2 c0
        have zg : g < wr.heap.size := World.block_lt_of_cell? _ _ c0
        obtain ⟨vi, hvi⟩ : ∃ v, v = gt l i := ⟨_, rfl⟩
        rw [← hvi] at c0
        have HT : Hid (cr.take (2 * (i + 1)) = cr.take (2 * i) ++ [ka, vi]) := by
          have hle := HL.out
          have e1 : gt cr (2 * i) = ka := by
            rw [HCR.out, crd_even l k i (by omega), HKA.out]
            rfl
          have e2 : gt cr (2 * i + 1) = vi := by rw [HCR.out, crd_odd l k i h1, hvi]
          have := take_two (l := cr) (i := 2 * i) (by omega)
          rw [e1, e2] at this
          exact this
        clear hvi
        go_wp2_with (at_builtin; refine wpList_append_own _ rfl (.tmp 19) (.tmp 22) 22 rfl w.heap.size 3 i3 (.int .i64 0) 1 8 Try.underlying22 HI.out.1 HI.out.2.1 HI.out.2.2.1 HI.out.2.2.2 rfl (by decide) u5 (2 * i) (rowI (cr.take (2 * i))) rfl (own_below HO.out.1 (bl_alloc (bl_refl _))) ⟨wr.heap.size, 0, none⟩ 2 2 [.int .i64 ka, .int .i64 vi] rfl rfl (two_cells _ _ (by simp [go_sem]) (by simp [go_sem])) (cell_two _ _) (by unfold maxLen; omega) (by omega) (by have := HO.out.2.size; simp; omega) ?gA)
        case gA =>
          intro v' w3 hown hgrow _
          have HO3 : Hid (w3.ownsRow w.heap.size 3 1 v' (2 * (i + 1)) (rowI (cr.take (2 * (i + 1)))) ∧ Below w.heap.size w w3) := by
            refine ⟨?_, bl_own (bl_alloc HO.out.2) (own_below HO.out.1 (bl_alloc (bl_refl _))) (Nat.le_refl _) hgrow⟩
            rw [HT.out, rowI_add]
            exact hown
          clear hown hgrow
          go_wp2_with (go_at_call 32; refine (C32.out _ _ HKK.out).mono ?_; rintro e w4 ⟨rfl, hb4⟩)
          go_roundg (l.length - (i + 1))
          case measure => omega
          case rel => exact ⟨i + 1, by omega, rfl, by go_num, by rw [alt_succ, HKA.out], own_below HO3.out.1 hb4, bl_via HO3.out.2 hb4⟩
      · have i1 : ¬ (i : Int) < (l.length : Int) := by omega
        obtain rfl : i = l.length := by omega
        have HT : Hid (cr = cr.take (2 * l.length) ++ [ka]) := by
          have hle := HL.out
          have e1 : gt cr (2 * l.length) = ka := by
            rw [HCR.out, crd_even l k l.length (by omega), HKA.out]
            rfl
          have := take_one (l := cr) (i := 2 * l.length) (by omega)
          rw [e1, List.take_of_length_le (by omega)] at this
          exact this
        go_wp2_with (at_builtin; refine wpList_append_own _ rfl (.tmp 27) (.tmp 29) 22 rfl w.heap.size 3 i3 (.int .i64 0) 1 8 Try.underlying22 HI.out.1 HI.out.2.1 HI.out.2.2.1 HI.out.2.2.2 rfl (by decide) u5 (2 * l.length) (rowI (cr.take (2 * l.length))) rfl (own_below HO.out.1 (bl_alloc (bl_refl _))) ⟨wr.heap.size, 0, none⟩ 1 1 [.int .i64 ka] rfl rfl (cell_one _ (by simp [go_sem])) (one_cell _) (by unfold maxLen; omega) (by omega) (by have := HO.out.2.size; simp; omega) ?gB)
        case gB =>
          intro v' w3 hown hgrow _
          have HO3 : Hid (w3.ownsRow w.heap.size 3 1 v' cr.length (rowI cr) ∧ Below w.heap.size w w3) := by
            refine ⟨?_, bl_own (bl_alloc HO.out.2) (own_below HO.out.1 (bl_alloc (bl_refl _))) (Nat.le_refl _) hgrow⟩
            rw [HL.out, HT.out, rowI_add]
            exact hown
          clear hown hgrow
          go_wp2
          go_ret
          exact ⟨_, rfl, HO3.out.1, HO3.out.2⟩
end Go.Proofs.Ytblagffijppgjaa
