/- The reference's StampKinds. -/
import Derived.Test.YtdflindoemffaaaOgod
namespace Go.Proofs.Ytdflindoemffaaa
open Go.RowKit

def kdP (l : List Int) (i : Nat) : List Int := (List.range i).map (kdV l)
theorem kdP_succ (l : List Int) (i : Nat) : kdP l (i + 1) = kdP l i ++ [kdV l i] := by
  unfold kdP
  rw [List.range_succ, List.map_append]
  rfl
theorem kdP_len (l : List Int) (i : Nat) : (kdP l i).length = i := by simp [kdP]
set_option maxRecDepth 100000 in
set_option maxHeartbeats 1600000 in
theorem stampKinds_any (v : Value) (l : List Int) (w : World) (hv : Sg w v l) (hp : Prm l) (h1 : 1 ≤ l.length) (h8 : l.length ≤ 8) :
    Calls Try.prog 14 #[v] w fun e w' => ∃ u, e = .returned u ∧ Sl w' u (kdL l) ∧ Below w.heap.size w w' := by
  have CH : Hid (∀ (s : Int) (W : World), 1 ≤ s → s ≤ (l.length : Int) → Below w.heap.size w W → Calls Try.prog 26 #[v, .int .i64 s] W fun e w' => e = .returned (.int .i64 (hg l s)) ∧ Below W.heap.size W w') := heights_call hv hp h8
  have HNE : Hid (∀ k, k + 1 < l.length → hk l k ≠ hk l (k + 1)) := fun k hk1 e => by have := hk_inj hp (by omega) hk1 e; omega
  obtain ⟨i3, hI⟩ := info_parts inf3
  have HI : Hid (Try.prog.info? 3 = some i3 ∧ i3.zero = some (.int .i64 0) ∧ i3.size = 1 ∧ i3.bytes = 8) := hI
  obtain ⟨a, c, rfl, _⟩ := hv
  clear hp hI
  go_enter Try.func14, Try.ntmps14
  go_wp2
  go_loopg [3, 4] (l.length + 1) (fun gk s3 s4 wx => ∃ (i : Nat) (s : Int), i + 1 ≤ l.length ∧ gk = l.length + 1 - i ∧ s4 = .int .i64 s ∧ s = (i : Int) + 1 ∧ wx.ownsRow w.heap.size 3 1 s3 i (rowI (kdP l i)) ∧ Below w.heap.size w wx)
  case atStart => exact ⟨0, 1, by omega, rfl, rfl, by omega, ⟨by simp [rowI, kdP], Or.inl ⟨rfl, rfl⟩⟩, bl_refl _⟩
  case round =>
    obtain ⟨i, s, hi, rfl, rfl, hs, hO, hB⟩ := hrel
    have HO : Hid (wr.ownsRow w.heap.size 3 1 u3 i (rowI (kdP l i))) := hO
    have HB : Hid (Below w.heap.size w wr) := hB
    have HS : Hid (s = (i : Int) + 1) := hs
    have s1 : 1 ≤ s := by omega
    clear hB hO
    by_cases h2 : s < (l.length : Int)
    · have i2 : i + 1 < l.length := by omega
      have hA : hg l s = hk l i ∧ hg l (s + 1) = hk l (i + 1) := by
        refine ⟨by rw [HS.out]; rfl, ?_⟩
        rw [HS.out, hk, show (((i + 1 : Nat) : Int) + 1) = (i : Int) + 1 + 1 by omega]
      have hne := HNE.out i i2
      rw [← hA.1, ← hA.2] at hne
      have HK : Hid (kdV l i = if decide (i % 2 = 0) = decide (hg l s < hg l (s + 1)) then 2 else 1) := by
        have : kdV l i = if decide (i % 2 = 0) = decide (hg l s < hg l (s + 1)) then 2 else 1 := by rw [hA.1, hA.2]; rfl
        exact this
      have t0 : s.tmod 2 = ((i + 1 : Nat) % 2 : Nat) := by
        rw [HS.out, show (i : Int) + 1 = ((i + 1 : Nat) : Int) by omega]
        exact two_int (i + 1)
      clear hA hs
      by_cases q1 : i % 2 = 0
      · have t1 : s.tmod 2 = 1 := by rw [t0, show (i + 1) % 2 = 1 by omega]; rfl
        clear t0
        by_cases q2 : hg l s < hg l (s + 1)
        · have q3 : ¬ hg l (s + 1) < hg l s := by omega
          have HV : Hid (kdV l i = 2) := by
            have : kdV l i = 2 := by rw [HK.out, if_pos (by simp [q1, q2])]
            exact this
          go_wp2_with (first | (go_at_call 26; refine (CH.out _ _ (by omega) (by omega) HB.out).mono ?_; rintro e w1 ⟨rfl, hb⟩; replace HO := (show Hid (w1.ownsRow w.heap.size 3 1 u3 i (rowI (kdP l i))) from own_below HO.out hb); replace HB : Hid (Below w.heap.size w w1) := bl_via HB.out hb; clear hb) | (at_builtin; refine wpList_append_own _ rfl (.tmp 28) (.tmp 29) 22 rfl w.heap.size 3 i3 (.int .i64 0) 1 8 Try.underlying22 HI.out.1 HI.out.2.1 HI.out.2.2.1 HI.out.2.2.2 rfl (by decide) u3 i (rowI (kdP l i)) rfl (own_below HO.out (bl_alloc (bl_refl _))) ⟨w1.heap.size, 0, none⟩ 1 1 [.int .i64 2] rfl rfl (cell_one _ (by simp [go_sem])) (one_cell _) (by unfold maxLen; omega) (by omega) (by have := HB.out.size; simp; omega) ?gA))
          case gA =>
            intro v' w3 hown hgrow _
            have HO3 : Hid (w3.ownsRow w.heap.size 3 1 v' (i + 1) (rowI (kdP l (i + 1))) ∧ Below w.heap.size w w3) := by
              refine ⟨?_, bl_own (bl_alloc HB.out) (own_below HO.out (bl_alloc (bl_refl _))) (Nat.le_refl _) hgrow⟩
              rw [kdP_succ, rowI_add, HV.out]
              exact hown
            clear hown hgrow
            go_wp2
            go_roundg (l.length + 1 - (i + 1))
            case measure => omega
            case rel => exact ⟨i + 1, s + 1, by omega, rfl, by go_num, by have := HS.out; omega, HO3.out.1, HO3.out.2⟩
        · have q3 : hg l (s + 1) < hg l s := by omega
          have HV : Hid (kdV l i = 1) := by
            have : kdV l i = 1 := by rw [HK.out, if_neg (by simp [q1, q2])]
            exact this
          go_wp2_with (first | (go_at_call 26; refine (CH.out _ _ (by omega) (by omega) HB.out).mono ?_; rintro e w1 ⟨rfl, hb⟩; replace HO := (show Hid (w1.ownsRow w.heap.size 3 1 u3 i (rowI (kdP l i))) from own_below HO.out hb); replace HB : Hid (Below w.heap.size w w1) := bl_via HB.out hb; clear hb) | (at_builtin; refine wpList_append_own _ rfl (.tmp 31) (.tmp 32) 22 rfl w.heap.size 3 i3 (.int .i64 0) 1 8 Try.underlying22 HI.out.1 HI.out.2.1 HI.out.2.2.1 HI.out.2.2.2 rfl (by decide) u3 i (rowI (kdP l i)) rfl (own_below HO.out (bl_alloc (bl_refl _))) ⟨w1.heap.size, 0, none⟩ 1 1 [.int .i64 1] rfl rfl (cell_one _ (by simp [go_sem])) (one_cell _) (by unfold maxLen; omega) (by omega) (by have := HB.out.size; simp; omega) ?gB))
          case gB =>
            intro v' w3 hown hgrow _
            have HO3 : Hid (w3.ownsRow w.heap.size 3 1 v' (i + 1) (rowI (kdP l (i + 1))) ∧ Below w.heap.size w w3) := by
              refine ⟨?_, bl_own (bl_alloc HB.out) (own_below HO.out (bl_alloc (bl_refl _))) (Nat.le_refl _) hgrow⟩
              rw [kdP_succ, rowI_add, HV.out]
              exact hown
            clear hown hgrow
            go_wp2
            go_roundg (l.length + 1 - (i + 1))
            case measure => omega
            case rel => exact ⟨i + 1, s + 1, by omega, rfl, by go_num, by have := HS.out; omega, HO3.out.1, HO3.out.2⟩
      · have t1 : s.tmod 2 = 0 := by rw [t0, show (i + 1) % 2 = 0 by omega]; rfl
        clear t0
        by_cases q2 : hg l s < hg l (s + 1)
        · have q3 : ¬ hg l (s + 1) < hg l s := by omega
          have HV : Hid (kdV l i = 1) := by
            have : kdV l i = 1 := by rw [HK.out, if_neg (by simp [q1, q2])]
            exact this
          go_wp2_with (first | (go_at_call 26; refine (CH.out _ _ (by omega) (by omega) HB.out).mono ?_; rintro e w1 ⟨rfl, hb⟩; replace HO := (show Hid (w1.ownsRow w.heap.size 3 1 u3 i (rowI (kdP l i))) from own_below HO.out hb); replace HB : Hid (Below w.heap.size w w1) := bl_via HB.out hb; clear hb) | (at_builtin; refine wpList_append_own _ rfl (.tmp 31) (.tmp 32) 22 rfl w.heap.size 3 i3 (.int .i64 0) 1 8 Try.underlying22 HI.out.1 HI.out.2.1 HI.out.2.2.1 HI.out.2.2.2 rfl (by decide) u3 i (rowI (kdP l i)) rfl (own_below HO.out (bl_alloc (bl_refl _))) ⟨w1.heap.size, 0, none⟩ 1 1 [.int .i64 1] rfl rfl (cell_one _ (by simp [go_sem])) (one_cell _) (by unfold maxLen; omega) (by omega) (by have := HB.out.size; simp; omega) ?gC))
          case gC =>
            intro v' w3 hown hgrow _
            have HO3 : Hid (w3.ownsRow w.heap.size 3 1 v' (i + 1) (rowI (kdP l (i + 1))) ∧ Below w.heap.size w w3) := by
              refine ⟨?_, bl_own (bl_alloc HB.out) (own_below HO.out (bl_alloc (bl_refl _))) (Nat.le_refl _) hgrow⟩
              rw [kdP_succ, rowI_add, HV.out]
              exact hown
            clear hown hgrow
            go_wp2
            go_roundg (l.length + 1 - (i + 1))
            case measure => omega
            case rel => exact ⟨i + 1, s + 1, by omega, rfl, by go_num, by have := HS.out; omega, HO3.out.1, HO3.out.2⟩
        · have q3 : hg l (s + 1) < hg l s := by omega
          have HV : Hid (kdV l i = 2) := by
            have : kdV l i = 2 := by rw [HK.out, if_pos (by simp [q1, q2])]
            exact this
          go_wp2_with (first | (go_at_call 26; refine (CH.out _ _ (by omega) (by omega) HB.out).mono ?_; rintro e w1 ⟨rfl, hb⟩; replace HO := (show Hid (w1.ownsRow w.heap.size 3 1 u3 i (rowI (kdP l i))) from own_below HO.out hb); replace HB : Hid (Below w.heap.size w w1) := bl_via HB.out hb; clear hb) | (at_builtin; refine wpList_append_own _ rfl (.tmp 28) (.tmp 29) 22 rfl w.heap.size 3 i3 (.int .i64 0) 1 8 Try.underlying22 HI.out.1 HI.out.2.1 HI.out.2.2.1 HI.out.2.2.2 rfl (by decide) u3 i (rowI (kdP l i)) rfl (own_below HO.out (bl_alloc (bl_refl _))) ⟨w1.heap.size, 0, none⟩ 1 1 [.int .i64 2] rfl rfl (cell_one _ (by simp [go_sem])) (one_cell _) (by unfold maxLen; omega) (by omega) (by have := HB.out.size; simp; omega) ?gD))
          case gD =>
            intro v' w3 hown hgrow _
            have HO3 : Hid (w3.ownsRow w.heap.size 3 1 v' (i + 1) (rowI (kdP l (i + 1))) ∧ Below w.heap.size w w3) := by
              refine ⟨?_, bl_own (bl_alloc HB.out) (own_below HO.out (bl_alloc (bl_refl _))) (Nat.le_refl _) hgrow⟩
              rw [kdP_succ, rowI_add, HV.out]
              exact hown
            clear hown hgrow
            go_wp2
            go_roundg (l.length + 1 - (i + 1))
            case measure => omega
            case rel => exact ⟨i + 1, s + 1, by omega, rfl, by go_num, by have := HS.out; omega, HO3.out.1, HO3.out.2⟩
    · go_wp2
      go_ret
      refine ⟨u3, rfl, own_sl (n := i) (base := w.heap.size) (e := 3) ?_ (by rw [kdL_len]; have := HS.out; omega), HB.out⟩
      have : kdL l = kdP l i := by
        unfold kdL kdP
        rw [show l.length - 1 = i by have := HS.out; omega]
      rw [this]
      exact HO.out
end Go.Proofs.Ytdflindoemffaaa
