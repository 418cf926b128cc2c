/- begun. -/
import Derived.Test.YtblagffijppgjaaRevs
namespace Go.Proofs.Ytblagffijppgjaa
open Go.RowKit

theorem reverse_nil (w : World) : Calls Try.prog 30 #[.slice none 0 0] w fun e w' => (∃ v, e = .returned v) ∧ Below w.heap.size w w' := by
  go_enter Try.func30, Try.ntmps30
  go_wp2
  go_loopg [2, 3] 0 (fun gk s2 s3 wx => gk = 0 ∧ s2 = .int .i64 0 ∧ s3 = .int .i64 (-1) ∧ wx = w)
  case atStart => exact ⟨rfl, rfl, by go_num, rfl⟩
  case round =>
    obtain ⟨rfl, rfl, rfl, rfl⟩ := hrel
    go_wp2
    go_end0
    exact ⟨⟨_, rfl⟩, bl_refl _⟩
theorem own_hr {w : World} {base g n cap : Nat} {l : List Int} (h : w.ownsRow base 3 1 (.slice (some ⟨g, 0, none⟩) n cap) n (rowI l)) (hn : n = l.length) : HR w g n l := by
  subst hn
  refine ⟨rfl, fun i hi => ⟨own_rw h i hi, ?_⟩⟩
  rcases h.2 with ⟨h1, _⟩ | ⟨g', cap', cur, h1, _, h3, _⟩
  · cases h1
  · cases h1
    simp [World.frozen?, h3]
set_option maxRecDepth 100000 in
set_option maxHeartbeats 1000000 in
theorem begun22 (v : Value) (ws : List Int) (k : Nat) (w : World) (hv : Sg w v ws) (hk : k ≤ 10) (hw : ws.length + 1 = 2 ^ k) :
    Calls Try.prog 22 #[v] w fun e w' => ∃ u, e = .returned u ∧ Sl w' u (bgl ws k).reverse ∧ Below w.heap.size w w' := by
  obtain ⟨a, c, rfl, hR⟩ := hv
  have HRR : Hid (∀ i, i < ws.length → ∃ g off, a = some ⟨g, off, none⟩ ∧ w.cell? ⟨g, off + i, none⟩ = some (.int .i64 (gt ws i))) := hR
  obtain ⟨i3, hI⟩ := info_parts inf3
  have HI : Hid (Try.prog.info? 3 = some i3 ∧ i3.zero = some (.int .i64 0) ∧ i3.size = 1 ∧ i3.bytes = 8) := hI
  have HW : Hid (ws.length + 1 = 2 ^ k) := hw
  have h1024 : ws.length ≤ 1023 := by have := pow10 hk; omega
  have C30 : Hid (∀ (g cap : Nat) (l : List Int) (W : World), HR W g l.length l → l.length ≤ 100 → 0 < l.length → Calls Try.prog 30 #[.slice (some ⟨g, 0, none⟩) l.length cap] W fun e w' => (∃ v, e = .returned v) ∧ HR w' g l.length l.reverse ∧ W.grownBy w' (some g)) := fun g cap l W h1 h2 h3 => reverse30 g cap l W h1 h2 h3
  clear hR hI hw
  go_enter Try.func22, Try.ntmps22
  go_wp2
  go_loopg [3, 4] k (fun gk s3 s4 wx => ∃ j p : Nat, j ≤ k ∧ p ≤ 1023 ∧ gk = k - j ∧ s4 = .int .i64 ((p : Int) + 1) ∧ Hid (p + 1 = 2 ^ j) ∧ Hid (wx.ownsRow w.heap.size 3 1 s3 j (rowI (bgl ws j))) ∧ Hid (Below w.heap.size w wx) ∧ Hid (j = 0 → s3 = .slice none 0 0))
  case atStart => exact ⟨0, 0, by omega, by omega, rfl, rfl, rfl, ⟨by simp [rowI, bgl], Or.inl ⟨rfl, rfl⟩⟩, bl_refl _, fun _ => rfl⟩
  case round =>
    obtain ⟨j, p, hj, hp, rfl, rfl, HP, HO, HB, HZ⟩ := hrel
    by_cases q : j < k
    · have hlt : p < ws.length := by
        have h1 := HP.out
        have h2 := HW.out
        have h3 := pow_lt q
        omega
      have q1 : (p : Int) + 1 ≤ (ws.length : Int) := by omega
      have i0 : (0 : Int) ≤ (p : Int) := by omega
      have i1 : (p : Int) < (ws.length : Int) := by omega
      obtain ⟨g, off, rfl, c0⟩ := HRR.out p hlt
      replace c0 := cl_kept HB.out c0
      have zg : g < wr.heap.size := World.block_lt_of_cell? _ _ c0
      obtain ⟨vi, hvi⟩ : ∃ v, v = gt ws p := ⟨_, rfl⟩
      rw [← hvi] at c0
      have HT : Hid (bgl ws (j + 1) = bgl ws j ++ [vi]) := by
        have := bgl_succ ws j
        rw [← HP.out, Nat.add_sub_cancel, ← hvi] at this
        exact this
      have HP2 : Hid (2 * p + 1 + 1 = 2 ^ (j + 1) ∧ 2 * p + 1 ≤ 1023) := by
        have h1 := HP.out
        have h3 : 2 ^ (j + 1) = 2 * 2 ^ j := by rw [Nat.pow_succ]; omega
        have h4 := pow10 (n := j + 1) (by omega)
        refine ⟨by omega, by omega⟩
      clear hvi hlt
      go_wp2_with (at_builtin; refine wpList_append_own _ rfl (.tmp 11) (.tmp 17) 22 rfl w.heap.size 3 i3 (.int .i64 0) 1 8 Try.underlying22 HI.out.1 HI.out.2.1 HI.out.2.2.1 HI.out.2.2.2 rfl (by decide) u3 j (rowI (bgl ws j)) rfl (own_below HO.out (bl_alloc (bl_refl _))) ⟨wr.heap.size, 0, none⟩ 1 1 [.int .i64 vi] rfl rfl (cell_one _ (by simp [go_sem])) (one_cell _) (by unfold maxLen; omega) (by omega) (by have := HB.out.size; simp; omega) ?gA)
      case gA =>
        intro v' w3 hown hgrow _
        have HO3 : Hid (w3.ownsRow w.heap.size 3 1 v' (j + 1) (rowI (bgl ws (j + 1))) ∧ Below w.heap.size w w3) := by
          refine ⟨?_, bl_own (bl_alloc HB.out) (own_below HO.out (bl_alloc (bl_refl _))) (Nat.le_refl _) hgrow⟩
          rw [HT.out, rowI_add]
          exact hown
        clear hown hgrow
        go_wp2
        go_roundg (k - (j + 1))
        case measure => omega
        case rel => exact ⟨j + 1, 2 * p + 1, by omega, HP2.out.2, rfl, by go_num, HP2.out.1, HO3.out.1, HO3.out.2, fun h => by omega⟩
    · have hjk : j = k := by omega
      have q1 : ¬ (p : Int) + 1 ≤ (ws.length : Int) := by
        have h1 := HP.out
        have h2 := HW.out
        rw [hjk] at h1
        omega
      subst hjk
      by_cases h0 : j = 0
      · subst h0
        have hz := HZ.out rfl
        subst hz
        have CN : Hid (Calls Try.prog 30 #[.slice none 0 0] wr fun e w' => (∃ v, e = .returned v) ∧ Below wr.heap.size wr w') := reverse_nil wr
        clear C30
        go_wp2_with (go_at_call 30; refine CN.out.mono ?_; rintro e w5 ⟨⟨v5, rfl⟩, hb5⟩)
        go_ret
        exact ⟨_, rfl, Or.inl ⟨rfl, rfl⟩, bl_via HB.out hb5⟩
      · obtain ⟨g3, cap3, hu3, hge, hlt⟩ := HO.out.form (by omega)
        subst hu3
        have CR := C30.out g3 cap3 (bgl ws j) wr (by rw [bgl_len]; exact own_hr HO.out (by rw [bgl_len])) (by rw [bgl_len]; omega) (by rw [bgl_len]; omega)
        rw [bgl_len] at CR
        have CH : Hid (Calls Try.prog 30 #[.slice (some ⟨g3, 0, none⟩) j cap3] wr fun e w' => (∃ v, e = .returned v) ∧ HR w' g3 j (bgl ws j).reverse ∧ wr.grownBy w' (some g3)) := CR
        clear CR C30
        go_wp2_with (go_at_call 30; refine CH.out.mono ?_; rintro e w5 ⟨⟨v5, rfl⟩, hr5, hg5⟩; have H5 : Hid (HR w5 g3 j (bgl ws j).reverse ∧ wr.grownBy w5 (some g3)) := ⟨hr5, hg5⟩; clear hr5 hg5)
        go_ret
        refine ⟨_, rfl, Or.inr ⟨g3, cap3, ?_, H5.out.1.rw⟩, HB.out.grown H5.out.2 HB.out.size (fun k hk => by cases hk; exact hge)⟩
        rw [List.length_reverse, bgl_len]
        rfl
end Go.Proofs.Ytblagffijppgjaa
