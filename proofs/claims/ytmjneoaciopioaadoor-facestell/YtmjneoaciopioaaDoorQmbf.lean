/- A part of the proof of a law on sheets. -/
import Derived.Test.YtmjneoaciopioaaDoorQmbb
import Derived.Test.YtmjneoaciopioaaDoorQmbe
import Derived.Test.YtmjneoaciopioaaDoorQmba
namespace Go.Proofs.YtmjneoaciopioaaDoor
open Go.RowKit Go.ChangeMaps

theorem gix_cnt (l : List (Int × Int × Int)) (p q r s : Int) : ∀ n, n ≤ l.length → (gix (l.take n) (p, q, r, s)).length = cnt (l.take n) p q r s
  | 0, _ => by simp [gix, cnt]
  | n + 1, h => by
    have ih := gix_cnt l p q r s n (by omega)
    rw [cnt_next (by omega), List.take_succ_eq_append_getElem (by omega), gix_snoc, List.length_append, ih]
    congr 1
    unfold hasT
    split <;> rfl
theorem gix_count (l : List (Int × Int × Int)) (p q r s : Int) : (gix l (p, q, r, s)).length = cnt l p q r s := by
  have := gix_cnt l p q r s l.length (Nat.le_refl _)
  rwa [List.take_length] at this

set_option maxHeartbeats 1600000 in
theorem inner_any (w : World) (cc ra rk : Nat) (ad : Option Addr) (L : List (Int × Int × Int)) (p q r s : Int) (hPA : PA w ad ra L) :
    Calls Tryd.prog 76 #[.agg #[.slice ad L.length cc, .map (some ra), .map (some rk)], .agg #[.int .i64 p, .int .i64 q, .int .i64 r, .int .i64 s]] w fun e w' => e = .returned (.bool (decide (cnt L p q r s = 2))) ∧ Below w.heap.size w w' := by
  obtain ⟨a, cap, _, hl⟩ := hPA.2 (p, q, r, s)
  have hl2 : (Instr.lookup 60 (.map (some ra)) (.agg #[.int .i64 p, .int .i64 q, .int .i64 r, .int .i64 s]) false).run Tryd.prog ((w.alloc (.cells #[.slice ad L.length cc, .map (some ra), .map (some rk)] 63)).alloc (.cells #[.int .i64 p, .int .i64 q, .int .i64 r, .int .i64 s] 72)) = .ok (.slice a (gix L (p, q, r, s)).length cap) ((w.alloc (.cells #[.slice ad L.length cc, .map (some ra), .map (some rk)] 63)).alloc (.cells #[.int .i64 p, .int .i64 q, .int .i64 r, .int .i64 s] 72)) := hl _ (bl_alloc (bl_alloc (bl_refl _)))
  clear hl
  have HC : Hid ((gix L (p, q, r, s)).length = cnt L p q r s) := gix_count L p q r s
  go_enter Tryd.func76, Tryd.ntmps76
  go_wp2
  go_ret
  refine ⟨ret_bool ?_, bl_alloc (bl_alloc (bl_refl _))⟩
  rw [HC.out, Bool.eq_iff_iff]
  simp
  omega

set_option maxRecDepth 100000 in
set_option maxHeartbeats 6400000 in
theorem mayCreases_any (w : World) (cc ra rk n ccap : Nat) (ad cb : Option Addr) (L : List (Int × Int × Int)) (ks : List Int) (hPA : PA w ad ra L) (hk : Row w cb ks) (hn : ks.length = n * 5) (hn2 : n ≤ 3518437208883) :
    Calls Tryd.prog 52 #[.agg #[.slice ad L.length cc, .map (some ra), .map (some rk)], .slice cb n ccap] w fun e w' => ∃ bb : Bool, e = .returned (.bool bb) ∧ (bb = true ↔ ∀ i, i < n → CrOk L ks i) ∧ Below w.heap.size w w' := by
  have HCR : Hid (CRow w cb ks n) := row_crow hk hn
  have CIN : Hid (∀ (p q r s : Int) (wx : World), Below w.heap.size w wx → Calls Tryd.prog 76 #[.agg #[.slice ad L.length cc, .map (some ra), .map (some rk)], .agg #[.int .i64 p, .int .i64 q, .int .i64 r, .int .i64 s]] wx fun e w' => e = .returned (.bool (decide (cnt L p q r s = 2))) ∧ Below wx.heap.size wx w') := fun p q r s wx hb => inner_any wx cc ra rk ad L p q r s (hPA.kept hb)
  clear hPA hk hn
  go_enter Tryd.func52, Tryd.ntmps52
  go_wp2
  go_loopg [9] n (fun gk s9 wx => ∃ i : Nat, i ≤ n ∧ gk = n - i ∧ s9 = .int .i64 (i : Int) ∧ (∀ j, j < i → CrOk L ks j) ∧ (wx.cell? ⟨w.heap.size, 0, none⟩ = some (.slice ad L.length cc) ∧ wx.cell? ⟨w.heap.size, 1, none⟩ = some (.map (some ra)) ∧ wx.cell? ⟨w.heap.size, 2, none⟩ = some (.map (some rk))) ∧ Below w.heap.size w wx)
  case atStart => exact ⟨0, by omega, rfl, rfl, fun j h => by omega, by simp [go_sem], bl_alloc (bl_refl _)⟩
  case round =>
    obtain ⟨i, hi, rfl, rfl, hp, hP0, hB⟩ := hrel
    have HP : Hid (∀ j, j < i → CrOk L ks j) := hp
    have HP0 : Hid (wr.cell? ⟨w.heap.size, 0, none⟩ = some (.slice ad L.length cc) ∧ wr.cell? ⟨w.heap.size, 1, none⟩ = some (.map (some ra)) ∧ wr.cell? ⟨w.heap.size, 2, none⟩ = some (.map (some rk))) := hP0
    have HB : Hid (Below w.heap.size w wr) := hB
    obtain ⟨s0, s1, s2⟩ := hP0
    have zs0 : w.heap.size < wr.heap.size := World.block_lt_of_cell? _ _ s0
    clear hp hB
    by_cases h1 : i < n
    · have i1 : (i : Int) < (n : Int) := by omega
      have i0 : (0 : Int) ≤ (i : Int) := by omega
      obtain ⟨bb, bo, rfl, c0, c1, c2, c3, c4⟩ := (HCR.out.kept HB.out) i h1
      have zb : bb < wr.heap.size := World.block_lt_of_cell? _ _ c0
      by_cases k1 : (ck ks i 4) = 1
      · have k1b : ((ck ks i 4) != 1) = false := by simpa using k1
        have HK : Hid ((ck ks i 4) = 1) := k1
        clear k1
        cases g1 : decide (cnt L (ck ks i 0) (ck ks i 1) (ck ks i 2) (ck ks i 3) = 2)
        · go_wp2_with (go_at_call 76; refine (CIN.out _ _ _ _ _ (bl_alloc HB.out)).mono ?_; rintro e5 w5 ⟨rfl, hb5⟩; have hB5 : Below wr.heap.size wr w5 := bl_via (bl_alloc (bl_refl _)) hb5; have HB5 : Hid (Below wr.heap.size wr w5) := hB5; have t0 : w5.cell? ⟨wr.heap.size, 0, none⟩ = some (.int .i64 (ck ks i 0)) := cl_kept hb5 (by simp [go_sem]); have t1 : w5.cell? ⟨wr.heap.size, 1, none⟩ = some (.int .i64 (ck ks i 1)) := cl_kept hb5 (by simp [go_sem]); have t2 : w5.cell? ⟨wr.heap.size, 2, none⟩ = some (.int .i64 (ck ks i 2)) := cl_kept hb5 (by simp [go_sem]); have t3 : w5.cell? ⟨wr.heap.size, 3, none⟩ = some (.int .i64 (ck ks i 3)) := cl_kept hb5 (by simp [go_sem]); have z5 : wr.heap.size < w5.heap.size := World.block_lt_of_cell? _ _ t0; have z6 : bb < w5.heap.size := Nat.lt_of_lt_of_le zb hB5.size; have HCR5 : Hid (CRow w5 (some ⟨bb, bo, none⟩) ks n) := HCR.out.kept (bl_via HB.out hB5); clear hb5 hB5)
          go_ret
          first | exact ⟨false, rfl, ⟨fun h => Bool.noConfusion h, fun h => absurd (h i h1).2.2 (by simpa using g1)⟩, bl_via HB.out HB5.out⟩ | exact Or.inl ⟨rfl, fun h => absurd (h i h1).2.2 (by simpa using g1), bl_via HB.out HB5.out⟩
        · have HG1 : Hid (cnt L (ck ks i 0) (ck ks i 1) (ck ks i 2) (ck ks i 3) = 2) := by show _ = _; simpa using g1
          go_wp2_with (go_at_call 76; refine (CIN.out _ _ _ _ _ (bl_alloc HB.out)).mono ?_; rintro e5 w5 ⟨rfl, hb5⟩; have hB5 : Below wr.heap.size wr w5 := bl_via (bl_alloc (bl_refl _)) hb5; have HB5 : Hid (Below wr.heap.size wr w5) := hB5; have t0 : w5.cell? ⟨wr.heap.size, 0, none⟩ = some (.int .i64 (ck ks i 0)) := cl_kept hb5 (by simp [go_sem]); have t1 : w5.cell? ⟨wr.heap.size, 1, none⟩ = some (.int .i64 (ck ks i 1)) := cl_kept hb5 (by simp [go_sem]); have t2 : w5.cell? ⟨wr.heap.size, 2, none⟩ = some (.int .i64 (ck ks i 2)) := cl_kept hb5 (by simp [go_sem]); have t3 : w5.cell? ⟨wr.heap.size, 3, none⟩ = some (.int .i64 (ck ks i 3)) := cl_kept hb5 (by simp [go_sem]); have z5 : wr.heap.size < w5.heap.size := World.block_lt_of_cell? _ _ t0; have z6 : bb < w5.heap.size := Nat.lt_of_lt_of_le zb hB5.size; have HCR5 : Hid (CRow w5 (some ⟨bb, bo, none⟩) ks n) := HCR.out.kept (bl_via HB.out hB5); clear hb5 hB5)
          clear HCR
          have kc := Kin.cells w5
          have kn : Nonempty (Kin w5) := ⟨⟨w5, bl_refl _⟩⟩
          by_cases hi0 : i = 0
          · have q0 : ¬ (0 : Int) < (i : Int) := by omega
            have q1 : ¬ 0 < i := by omega
            have HI0 : Hid (i = 0) := hi0
            clear hi0
            refine wp_region_kin (by kernel_rfl) (by kernel_rfl) ?_
            repeat (go_big_quiet_step ((go_at_call 77; exact kin_of (compareEdges_any _ _ _ _ _ _ _ _ _))))
            refine wpQuiet_nil ?_
            intro wq hw'
            obtain ⟨nq, hw''⟩ := hw'
            have hq : Below w5.heap.size w5 wq := hw'' ▸ nq.h
            have HQ : Hid (Below w.heap.size w wq) := bl_via (bl_via HB.out HB5.out) hq
            have HQX : Hid (Below wr.heap.size wr wq) := bl_via HB5.out hq
            clear hw'' nq hq
            go_wp2
            go_roundg (n - (i + 1))
            case measure => omega
            case rel =>
              refine ⟨i + 1, by omega, rfl, by go_num, fun j hj => ?_, ⟨cl_kept HQX.out HP0.out.1, cl_kept HQX.out HP0.out.2.1, cl_kept HQX.out HP0.out.2.2⟩, HQ.out⟩
              by_cases ej : j = i
              · subst ej
                exact ⟨fun h => absurd h (by have := HI0.out; omega), Or.inl HK.out, HG1.out⟩
              · exact HP.out j (by omega)
          · have q0 : (0 : Int) < (i : Int) := by omega
            have q1 : 0 < i := by omega
            obtain ⟨m, hm⟩ : ∃ m, i = m + 1 := ⟨i - 1, by omega⟩
            have hmi : (i : Int) - 1 = (m : Int) := by omega
            have m1 : (m : Int) < (n : Int) := by omega
            have m0 : (0 : Int) ≤ (m : Int) := by omega
            obtain ⟨bb', bo', e', p0, p1, p2, p3, _⟩ := HCR5.out m (by omega)
            simp only [Option.some.injEq, Addr.mk.injEq, and_true] at e'
            obtain ⟨rfl, rfl⟩ := e'
            have HMM : Hid (i - 1 = m) := by show i - 1 = m; omega
            clear hi0 hm
            cases hless : lessE (ck ks m 0) (ck ks m 1) (ck ks m 2) (ck ks m 3) (ck ks i 0) (ck ks i 1) (ck ks i 2) (ck ks i 3)
            · have HL : Hid (¬ CrOk L ks i) := fun h => by
                have := h.1 q1
                rw [HMM.out, hless] at this
                exact Bool.noConfusion this
              have hc : (0 : Int) ≤ cmpE (ck ks m 0) (ck ks m 1) (ck ks m 2) (ck ks m 3) (ck ks i 0) (ck ks i 1) (ck ks i 2) (ck ks i 3) := by
                rcases Int.lt_or_le (cmpE (ck ks m 0) (ck ks m 1) (ck ks m 2) (ck ks m 3) (ck ks i 0) (ck ks i 1) (ck ks i 2) (ck ks i 3)) 0 with h | h
                · rw [cmpE_less, hless] at h
                  exact Bool.noConfusion h
                · exact h
              clear hless
              refine wp_region_kin (by kernel_rfl) (by kernel_rfl) ?_
              repeat (go_big_quiet_step ((go_at_call 77; exact kin_of (compareEdges_any _ _ _ _ _ _ _ _ _))))
              refine wpQuiet_nil ?_
              intro wq hw'
              obtain ⟨nq, hw''⟩ := hw'
              have hq : Below w5.heap.size w5 wq := hw'' ▸ nq.h
              have HQ : Hid (Below w.heap.size w wq) := bl_via (bl_via HB.out HB5.out) hq
              have HQX : Hid (Below wr.heap.size wr wq) := bl_via HB5.out hq
              clear hw'' nq hq
              go_wp2
              go_ret
              first | exact ⟨false, rfl, ⟨fun h => Bool.noConfusion h, fun h => absurd (h i h1) HL.out⟩, HQ.out⟩ | exact Or.inl ⟨rfl, fun h => absurd (h i h1) HL.out, HQ.out⟩
            · have HL : Hid (0 < i → lessE (ck ks (i - 1) 0) (ck ks (i - 1) 1) (ck ks (i - 1) 2) (ck ks (i - 1) 3) (ck ks i 0) (ck ks i 1) (ck ks i 2) (ck ks i 3) = true) := fun _ => by rw [HMM.out]; exact hless
              have hc : ¬ (0 : Int) ≤ cmpE (ck ks m 0) (ck ks m 1) (ck ks m 2) (ck ks m 3) (ck ks i 0) (ck ks i 1) (ck ks i 2) (ck ks i 3) := by
                have := (cmpE_less (ck ks m 0) (ck ks m 1) (ck ks m 2) (ck ks m 3) (ck ks i 0) (ck ks i 1) (ck ks i 2) (ck ks i 3)).2 hless
                omega
              clear hless
              refine wp_region_kin (by kernel_rfl) (by kernel_rfl) ?_
              repeat (go_big_quiet_step ((go_at_call 77; exact kin_of (compareEdges_any _ _ _ _ _ _ _ _ _))))
              refine wpQuiet_nil ?_
              intro wq hw'
              obtain ⟨nq, hw''⟩ := hw'
              have hq : Below w5.heap.size w5 wq := hw'' ▸ nq.h
              have HQ : Hid (Below w.heap.size w wq) := bl_via (bl_via HB.out HB5.out) hq
              have HQX : Hid (Below wr.heap.size wr wq) := bl_via HB5.out hq
              clear hw'' nq hq
              go_wp2
              go_roundg (n - (i + 1))
              case measure => omega
              case rel =>
                refine ⟨i + 1, by omega, rfl, by go_num, fun j hj => ?_, ⟨cl_kept HQX.out HP0.out.1, cl_kept HQX.out HP0.out.2.1, cl_kept HQX.out HP0.out.2.2⟩, HQ.out⟩
                by_cases ej : j = i
                · subst ej
                  exact ⟨HL.out, Or.inl HK.out, HG1.out⟩
                · exact HP.out j (by omega)

      · by_cases k2 : (ck ks i 4) = 2
        · have k1b : ((ck ks i 4) != 1) = true := by simpa using k1
          have k2b : ((ck ks i 4) != 2) = false := by simpa using k2
          have HK : Hid ((ck ks i 4) = 2) := k2
          clear k1 k2
          cases g1 : decide (cnt L (ck ks i 0) (ck ks i 1) (ck ks i 2) (ck ks i 3) = 2)
          · go_wp2_with (go_at_call 76; refine (CIN.out _ _ _ _ _ (bl_alloc HB.out)).mono ?_; rintro e5 w5 ⟨rfl, hb5⟩; have hB5 : Below wr.heap.size wr w5 := bl_via (bl_alloc (bl_refl _)) hb5; have HB5 : Hid (Below wr.heap.size wr w5) := hB5; have t0 : w5.cell? ⟨wr.heap.size, 0, none⟩ = some (.int .i64 (ck ks i 0)) := cl_kept hb5 (by simp [go_sem]); have t1 : w5.cell? ⟨wr.heap.size, 1, none⟩ = some (.int .i64 (ck ks i 1)) := cl_kept hb5 (by simp [go_sem]); have t2 : w5.cell? ⟨wr.heap.size, 2, none⟩ = some (.int .i64 (ck ks i 2)) := cl_kept hb5 (by simp [go_sem]); have t3 : w5.cell? ⟨wr.heap.size, 3, none⟩ = some (.int .i64 (ck ks i 3)) := cl_kept hb5 (by simp [go_sem]); have z5 : wr.heap.size < w5.heap.size := World.block_lt_of_cell? _ _ t0; have z6 : bb < w5.heap.size := Nat.lt_of_lt_of_le zb hB5.size; have HCR5 : Hid (CRow w5 (some ⟨bb, bo, none⟩) ks n) := HCR.out.kept (bl_via HB.out hB5); clear hb5 hB5)
            go_ret
            first | exact ⟨false, rfl, ⟨fun h => Bool.noConfusion h, fun h => absurd (h i h1).2.2 (by simpa using g1)⟩, bl_via HB.out HB5.out⟩ | exact Or.inl ⟨rfl, fun h => absurd (h i h1).2.2 (by simpa using g1), bl_via HB.out HB5.out⟩
          · have HG1 : Hid (cnt L (ck ks i 0) (ck ks i 1) (ck ks i 2) (ck ks i 3) = 2) := by show _ = _; simpa using g1
            go_wp2_with (go_at_call 76; refine (CIN.out _ _ _ _ _ (bl_alloc HB.out)).mono ?_; rintro e5 w5 ⟨rfl, hb5⟩; have hB5 : Below wr.heap.size wr w5 := bl_via (bl_alloc (bl_refl _)) hb5; have HB5 : Hid (Below wr.heap.size wr w5) := hB5; have t0 : w5.cell? ⟨wr.heap.size, 0, none⟩ = some (.int .i64 (ck ks i 0)) := cl_kept hb5 (by simp [go_sem]); have t1 : w5.cell? ⟨wr.heap.size, 1, none⟩ = some (.int .i64 (ck ks i 1)) := cl_kept hb5 (by simp [go_sem]); have t2 : w5.cell? ⟨wr.heap.size, 2, none⟩ = some (.int .i64 (ck ks i 2)) := cl_kept hb5 (by simp [go_sem]); have t3 : w5.cell? ⟨wr.heap.size, 3, none⟩ = some (.int .i64 (ck ks i 3)) := cl_kept hb5 (by simp [go_sem]); have z5 : wr.heap.size < w5.heap.size := World.block_lt_of_cell? _ _ t0; have z6 : bb < w5.heap.size := Nat.lt_of_lt_of_le zb hB5.size; have HCR5 : Hid (CRow w5 (some ⟨bb, bo, none⟩) ks n) := HCR.out.kept (bl_via HB.out hB5); clear hb5 hB5)
            clear HCR
            have kc := Kin.cells w5
            have kn : Nonempty (Kin w5) := ⟨⟨w5, bl_refl _⟩⟩
            by_cases hi0 : i = 0
            · have q0 : ¬ (0 : Int) < (i : Int) := by omega
              have q1 : ¬ 0 < i := by omega
              have HI0 : Hid (i = 0) := hi0
              clear hi0
              refine wp_region_kin (by kernel_rfl) (by kernel_rfl) ?_
              repeat (go_big_quiet_step ((go_at_call 77; exact kin_of (compareEdges_any _ _ _ _ _ _ _ _ _))))
              refine wpQuiet_nil ?_
              intro wq hw'
              obtain ⟨nq, hw''⟩ := hw'
              have hq : Below w5.heap.size w5 wq := hw'' ▸ nq.h
              have HQ : Hid (Below w.heap.size w wq) := bl_via (bl_via HB.out HB5.out) hq
              have HQX : Hid (Below wr.heap.size wr wq) := bl_via HB5.out hq
              clear hw'' nq hq
              go_wp2
              go_roundg (n - (i + 1))
              case measure => omega
              case rel =>
                refine ⟨i + 1, by omega, rfl, by go_num, fun j hj => ?_, ⟨cl_kept HQX.out HP0.out.1, cl_kept HQX.out HP0.out.2.1, cl_kept HQX.out HP0.out.2.2⟩, HQ.out⟩
                by_cases ej : j = i
                · subst ej
                  exact ⟨fun h => absurd h (by have := HI0.out; omega), Or.inr HK.out, HG1.out⟩
                · exact HP.out j (by omega)
            · have q0 : (0 : Int) < (i : Int) := by omega
              have q1 : 0 < i := by omega
              obtain ⟨m, hm⟩ : ∃ m, i = m + 1 := ⟨i - 1, by omega⟩
              have hmi : (i : Int) - 1 = (m : Int) := by omega
              have m1 : (m : Int) < (n : Int) := by omega
              have m0 : (0 : Int) ≤ (m : Int) := by omega
              obtain ⟨bb', bo', e', p0, p1, p2, p3, _⟩ := HCR5.out m (by omega)
              simp only [Option.some.injEq, Addr.mk.injEq, and_true] at e'
              obtain ⟨rfl, rfl⟩ := e'
              have HMM : Hid (i - 1 = m) := by show i - 1 = m; omega
              clear hi0 hm
              cases hless : lessE (ck ks m 0) (ck ks m 1) (ck ks m 2) (ck ks m 3) (ck ks i 0) (ck ks i 1) (ck ks i 2) (ck ks i 3)
              · have HL : Hid (¬ CrOk L ks i) := fun h => by
                  have := h.1 q1
                  rw [HMM.out, hless] at this
                  exact Bool.noConfusion this
                have hc : (0 : Int) ≤ cmpE (ck ks m 0) (ck ks m 1) (ck ks m 2) (ck ks m 3) (ck ks i 0) (ck ks i 1) (ck ks i 2) (ck ks i 3) := by
                  rcases Int.lt_or_le (cmpE (ck ks m 0) (ck ks m 1) (ck ks m 2) (ck ks m 3) (ck ks i 0) (ck ks i 1) (ck ks i 2) (ck ks i 3)) 0 with h | h
                  · rw [cmpE_less, hless] at h
                    exact Bool.noConfusion h
                  · exact h
                clear hless
                refine wp_region_kin (by kernel_rfl) (by kernel_rfl) ?_
                repeat (go_big_quiet_step ((go_at_call 77; exact kin_of (compareEdges_any _ _ _ _ _ _ _ _ _))))
                refine wpQuiet_nil ?_
                intro wq hw'
                obtain ⟨nq, hw''⟩ := hw'
                have hq : Below w5.heap.size w5 wq := hw'' ▸ nq.h
                have HQ : Hid (Below w.heap.size w wq) := bl_via (bl_via HB.out HB5.out) hq
                have HQX : Hid (Below wr.heap.size wr wq) := bl_via HB5.out hq
                clear hw'' nq hq
                go_wp2
                go_ret
                first | exact ⟨false, rfl, ⟨fun h => Bool.noConfusion h, fun h => absurd (h i h1) HL.out⟩, HQ.out⟩ | exact Or.inl ⟨rfl, fun h => absurd (h i h1) HL.out, HQ.out⟩
              · have HL : Hid (0 < i → lessE (ck ks (i - 1) 0) (ck ks (i - 1) 1) (ck ks (i - 1) 2) (ck ks (i - 1) 3) (ck ks i 0) (ck ks i 1) (ck ks i 2) (ck ks i 3) = true) := fun _ => by rw [HMM.out]; exact hless
                have hc : ¬ (0 : Int) ≤ cmpE (ck ks m 0) (ck ks m 1) (ck ks m 2) (ck ks m 3) (ck ks i 0) (ck ks i 1) (ck ks i 2) (ck ks i 3) := by
                  have := (cmpE_less (ck ks m 0) (ck ks m 1) (ck ks m 2) (ck ks m 3) (ck ks i 0) (ck ks i 1) (ck ks i 2) (ck ks i 3)).2 hless
                  omega
                clear hless
                refine wp_region_kin (by kernel_rfl) (by kernel_rfl) ?_
                repeat (go_big_quiet_step ((go_at_call 77; exact kin_of (compareEdges_any _ _ _ _ _ _ _ _ _))))
                refine wpQuiet_nil ?_
                intro wq hw'
                obtain ⟨nq, hw''⟩ := hw'
                have hq : Below w5.heap.size w5 wq := hw'' ▸ nq.h
                have HQ : Hid (Below w.heap.size w wq) := bl_via (bl_via HB.out HB5.out) hq
                have HQX : Hid (Below wr.heap.size wr wq) := bl_via HB5.out hq
                clear hw'' nq hq
                go_wp2
                go_roundg (n - (i + 1))
                case measure => omega
                case rel =>
                  refine ⟨i + 1, by omega, rfl, by go_num, fun j hj => ?_, ⟨cl_kept HQX.out HP0.out.1, cl_kept HQX.out HP0.out.2.1, cl_kept HQX.out HP0.out.2.2⟩, HQ.out⟩
                  by_cases ej : j = i
                  · subst ej
                    exact ⟨HL.out, Or.inr HK.out, HG1.out⟩
                  · exact HP.out j (by omega)

        · have k1b : ((ck ks i 4) != 1) = true := by simpa using k1
          have k2b : ((ck ks i 4) != 2) = true := by simpa using k2
          have HK : Hid (¬ ((ck ks i 4) = 1 ∨ (ck ks i 4) = 2)) := by rintro (h | h) <;> contradiction
          clear k1 k2
          go_wp2
          go_ret
          first | exact ⟨false, rfl, ⟨fun h => Bool.noConfusion h, fun h => absurd (h i h1).2.1 HK.out⟩, bl_alloc HB.out⟩ | exact Or.inl ⟨rfl, fun h => absurd (h i h1).2.1 HK.out, bl_alloc HB.out⟩
    · have i1 : ¬ (i : Int) < (n : Int) := by omega
      go_wp2
      go_ret
      first | exact ⟨true, rfl, ⟨fun _ j hj => HP.out j (by omega), fun _ => rfl⟩, HB.out⟩ | exact Or.inr ⟨rfl, fun j hj => HP.out j (by omega), HB.out⟩

/-- A paper that is laid out: its triangles, of each edge which have it, of each creased edge its kind; all of it newer than w0. -/
def PK (w0 w : World) (base ra rk : Nat) (vt : Value) (L : List (Int × Int × Int)) (G : Int × Int × Int × Int → List Int) (kd : Int × Int × Int × Int → Option Value) : Prop :=
  w.ownsRow base 80 3 vt L.length (flatV L) ∧ GP w base ra vt G ∧ (∃ ls c, EM w rk ls c ∧ Good ls c ∧ ∀ e, lk ls e = kd e) ∧ (w0.heap.size ≤ ra ∧ ra < base ∧ w0.heap.size ≤ rk ∧ rk < base ∧ ra ≠ rk ∧ base ≤ w.heap.size ∧ w0.heap.size ≤ base) ∧ Below w0.heap.size w0 w
theorem PP.pk {w0 w : World} {base pb ra rk : Nat} {vt : Value} {L : List (Int × Int × Int)} {G : Int × Int × Int × Int → List Int} (h : PP w0 w base pb ra rk vt L G) : PK w0 w base ra rk vt L G (fun _ => none) := by
  obtain ⟨h1, h2, h3, ⟨c, h4, h4g⟩, ⟨a1, a2, a3, a4, a5, a6, a7, a8⟩, h6⟩ := h
  exact ⟨h2, h3, ⟨[], c, h4, h4g, fun e => rfl⟩, ⟨a3, a4, a5, a6, a7, a8, by omega⟩, h6⟩
theorem PK.kept {w0 w w' : World} {base ra rk : Nat} {vt : Value} {L : List (Int × Int × Int)} {G : Int × Int × Int × Int → List Int} {kd : Int × Int × Int × Int → Option Value} (h : PK w0 w base ra rk vt L G kd) (hb : Below w.heap.size w w') : PK w0 w' base ra rk vt L G kd := by
  obtain ⟨h2, h3, ⟨ls, c, h4, h4g, h4k⟩, ⟨a1, a2, a3, a4, a5, a6, a7⟩, h6⟩ := h
  exact ⟨own_below h2 hb, h3.kept hb, ⟨ls, c, h4.grown (bl_grown hb) (by simp), h4g, h4k⟩, ⟨a1, a2, a3, a4, a5, Nat.le_trans a6 hb.size, a7⟩, bl_via h6 hb⟩
theorem PK.base {wf w0 w : World} {base ra rk : Nat} {vt : Value} {L : List (Int × Int × Int)} {G : Int × Int × Int × Int → List Int} {kd : Int × Int × Int × Int → Option Value} (h : PK w0 w base ra rk vt L G kd) (hf : Below wf.heap.size wf w0) : PK wf w base ra rk vt L G kd := by
  obtain ⟨h2, h3, h4, ⟨a1, a2, a3, a4, a5, a6, a7⟩, h6⟩ := h
  have := hf.size
  exact ⟨h2, h3, h4, ⟨by omega, a2, by omega, a4, a5, a6, by omega⟩, bl_via hf h6⟩
theorem PK.pa {w0 w : World} {base ra rk cc : Nat} {ad : Option Addr} {L : List (Int × Int × Int)} {kd : Int × Int × Int × Int → Option Value} (h : PK w0 w base ra rk (.slice ad L.length cc) L (gix L) kd) : PA w ad ra L := by
  obtain ⟨h2, ⟨ls, c, b1, b2, b3, b4, b5⟩, h4⟩ := h
  refine ⟨?_, fun e => ?_⟩
  · obtain ⟨a, cap, e, hT⟩ := own_tris h2
    simp only [Value.slice.injEq] at e
    rw [e.1]
    exact hT
  · cases hl : lk ls e with
    | none =>
      refine ⟨none, 0, by rw [b3 e hl]; intro i hi; simp at hi, fun wx hb => ?_⟩
      have := lookup27 Tryd.underlying60 zero70 (b1.grown (bl_grown hb) (by simp)) b2 e
      rw [hl] at this
      rw [b3 e hl]
      exact this
    | some v =>
      obtain ⟨d1, d2, d3⟩ := b4 e v hl
      obtain ⟨b, off, cap, hv, hr⟩ : ∃ b off cap, v = .slice (some ⟨b, off, none⟩) (gix L e).length cap ∧ Row w (some ⟨b, off, none⟩) (gix L e) := by
        rcases d1.2 with ⟨rfl, h0⟩ | ⟨g, cap, cur, rfl, _⟩
        · exact absurd (List.length_eq_zero_iff.1 h0) d2
        · refine ⟨g, 0, cap, rfl, fun i hi => ⟨g, 0, rfl, ?_⟩⟩
          have := d1.cellAt i (by omega)
          rw [Nat.zero_add, this]
          simp [hi]
      refine ⟨some ⟨b, off, none⟩, cap, hr, fun wx hb => ?_⟩
      have := lookup27 Tryd.underlying60 zero70 (b1.grown (bl_grown hb) (by simp)) b2 e
      rw [hl, hv] at this
      exact this
/-- A block that is not the paper's is written. -/
theorem PK.grown {w0 w w' : World} {base ra rk r : Nat} {vt : Value} {L : List (Int × Int × Int)} {G : Int × Int × Int × Int → List Int} {kd : Int × Int × Int × Int → Option Value} (h : PK w0 w base ra rk vt L G kd) (hg : w.grownBy w' (some r)) (hr : w0.heap.size ≤ r) (h1 : r ≠ ra) (h2 : r ≠ rk) (h3 : r < base) : PK w0 w' base ra rk vt L G kd := by
  obtain ⟨q2, ⟨ls, cl, b1, b2, b3, b4, b5⟩, ⟨lsk, c, q4, q4g, q4k⟩, ⟨a1, a2, a3, a4, a5, a6, a7⟩, q6⟩ := h
  have hn : ∀ {v : Value} {n : Nat} {e : TypeId} {s : Nat} {xs : List Value}, w.ownsRow base e s v n xs → v.ownBlock = none ∨ v.ownBlock ≠ some r := fun {v n e s xs} ho => by
    cases hu : v.ownBlock with
    | none => exact Or.inl rfl
    | some g =>
      refine Or.inr (fun e1 => ?_)
      have := (ho.lt g hu).1
      simp at e1
      omega
  refine ⟨q2.kept hg (hn q2), ⟨ls, cl, b1.grown hg (fun e => h1 (by simpa using e.symm)), b2, b3, fun e v he => ?_, b5⟩, ⟨lsk, c, q4.grown hg (fun e => h2 (by simpa using e.symm)), q4g, q4k⟩, ⟨a1, a2, a3, a4, a5, Nat.le_trans a6 hg.size, a7⟩, q6.grown hg q6.size (fun k hk => by simp at hk; omega)⟩
  obtain ⟨d1, d2, d3⟩ := b4 e v he
  exact ⟨d1.kept hg (hn d1), d2, d3⟩
/-- A crease's kind is put down. -/
theorem PK.update {w0 w : World} {base ra rk : Nat} {vt : Value} {L : List (Int × Int × Int)} {G : Int × Int × Int × Int → List Int} {kd : Int × Int × Int × Int → Option Value} (h : PK w0 w base ra rk vt L G kd) (e : Int × Int × Int × Int) (v : Value) :
    ∃ W', (Instr.mapUpdate 61 (.map (some rk)) (ek e) v).run Tryd.prog w = .ok () W' ∧ w.grownBy W' (some rk) ∧ PK w0 W' base ra rk vt L G (fun j => if j = e then some v else kd j) := by
  obtain ⟨q2, ⟨ls, cl, b1, b2, b3, b4, b5⟩, ⟨lsk, c, q4, q4g, q4k⟩, ⟨a1, a2, a3, a4, a5, a6, a7⟩, q6⟩ := h
  obtain ⟨ls', c', r1, r2, r3, _⟩ := update27 Tryd.underlying61 q4 q4g e v
  have hb := q4
  unfold EM at hb
  have hg := grown_set hb (.map (ls'.map toE).toArray c')
  have hn : ∀ {v : Value} {n : Nat} {e : TypeId} {s : Nat} {xs : List Value}, w.ownsRow base e s v n xs → v.ownBlock = none ∨ v.ownBlock ≠ some rk := fun {v n e s xs} ho => by
    cases hu : v.ownBlock with
    | none => exact Or.inl rfl
    | some g =>
      refine Or.inr (fun e1 => ?_)
      have := (ho.lt g hu).1
      simp at e1
      omega
  refine ⟨_, r1, hg, q2.kept hg (hn q2), ⟨ls, cl, b1.grown hg (fun e => a5 (by simpa using e)), b2, b3, fun e v he => ?_, b5⟩, ⟨ls', c', heap_setBlock_same hb _, r2, fun j => by rw [r3 j, q4k j]⟩, ⟨a1, a2, a3, a4, a5, Nat.le_trans a6 hg.size, a7⟩, q6.grown hg q6.size (fun k hk => by simp at hk; omega)⟩
  obtain ⟨d1, d2, d3⟩ := b4 e v he
  exact ⟨d1.kept hg (hn d1), d2, d3⟩

/-- The kinds of the first n creases, by their edges. -/
def kf (ks : List Int) : Nat → Int × Int × Int × Int → Option Value
  | 0, _ => none
  | i + 1, e => if e = (ck ks i 0, ck ks i 1, ck ks i 2, ck ks i 3) then some (.int .i64 (ck ks i 4)) else kf ks i e

set_option maxRecDepth 100000 in
set_option maxHeartbeats 6400000 in
theorem lay_nojoin (W H b off cap n ccap : Nat) (cb : Option Addr) (zs ks : List Int) (w : World) (hr : Row w (some ⟨b, off, none⟩) zs) (hW : 1 ≤ W ∧ W ≤ 8) (hH : 1 ≤ H ∧ H ≤ 8) (hl : zs.length = W * H) (hm : maskB zs = true) (hk : Row w cb ks) (hn : ks.length = n * 5) (hn2 : n ≤ 3518437208883) (hs : Steps w) (hJ : ¬ Joined (ty zs W H)) :
    Calls Tryd.prog 21 #[.agg #[.int .i64 (W : Int), .int .i64 (H : Int), .slice (some ⟨b, off, none⟩) zs.length cap, .slice cb n ccap]] w fun e w' => e = .returned (.tuple #[.agg #[.slice none 0 0, .map none, .map none], .bool false]) ∧ Below w.heap.size w w' := by
  have hcb : cellsB (W : Int) (H : Int) zs = true := by
    have e1 : sideB (W : Int) = true := by simp [sideB]; omega
    have e2 : sideB (H : Int) = true := by simp [sideB]; omega
    have e3 : (zs.length : Int) = (W : Int) * (H : Int) := by rw [hl]; simp
    simp only [cellsB, e1, e2, decide_eq_true e3, hm]
    rfl
  have hsW : sideB (W : Int) = true := by simp [sideB]; omega
  have hsH : sideB (H : Int) = true := by simp [sideB]; omega
  have hlW : (zs.length : Int) = (W : Int) * (H : Int) := by rw [hl]; simp
  have C93 : Hid (∀ W' : World, Below w.heap.size w W' → Calls Tryd.prog 49 #[.agg #[.int .i64 (W : Int), .int .i64 (H : Int), .slice (some ⟨b, off, none⟩) zs.length cap, .slice cb n ccap]] W' fun e w' => e = .returned (.bool true) ∧ ∃ o, w' = W'.alloc o) := fun W' hW' => hm ▸ mayMask_any W H _ cap zs _ W' hsW hsH (hr.kept hW') hlW
  have C92 : Hid (∀ W' : World, Calls Tryd.prog 48 #[.int .i64 (W : Int)] W' fun e w' => e = .returned (.bool true) ∧ w' = W') := fun W' => hsW ▸ maySide_any (W : Int) W'
  have C92' : Hid (∀ W' : World, Calls Tryd.prog 48 #[.int .i64 (H : Int)] W' fun e w' => e = .returned (.bool true) ∧ w' = W') := fun W' => hsH ▸ maySide_any (H : Int) W'
  have C94 : Hid (∀ W' : World, Below w.heap.size w W' → Calls Tryd.prog 50 #[.int .i64 (W : Int), .int .i64 (H : Int), .slice (some ⟨b, off, none⟩) zs.length cap] W' fun e w' => ∃ ad cc base pb ra rk, e = .returned (.agg #[.slice ad (ty zs W H).length cc, .map (some ra), .map (some rk)]) ∧ PP W' w' base pb ra rk (.slice ad (ty zs W H).length cc) (ty zs W H) (gix (ty zs W H))) := fun W' hW' => of_any W H b off cap zs W' (hs.kept hW') (hr.kept hW') hW hH hl hm
  have hlen : (ty zs W H).length ≤ 300 := by have := ty_len zs W H hW.2; omega
  have C95 : Hid (∀ (W' : World) (ad : Option Addr) (cc ra rk : Nat), Below w.heap.size w W' → PA W' ad ra (ty zs W H) → Calls Tryd.prog 51 #[.agg #[.slice ad (ty zs W H).length cc, .map (some ra), .map (some rk)]] W' fun e w' => ∃ bb : Bool, e = .returned (.bool bb) ∧ (bb = true ↔ Joined (ty zs W H)) ∧ Below W'.heap.size W' w') := fun W' ad cc ra rk hW' hp => joined_any W' cc ra rk ad _ (hs.kept hW') hp hlen (ty_nodup zs W H) (ty_bd hW.2 hH.2)
  have C96 : Hid (∀ (W' : World) (ad : Option Addr) (cc ra rk : Nat), Below w.heap.size w W' → PA W' ad ra (ty zs W H) → Calls Tryd.prog 52 #[.agg #[.slice ad (ty zs W H).length cc, .map (some ra), .map (some rk)], .slice cb n ccap] W' fun e w' => ∃ bb : Bool, e = .returned (.bool bb) ∧ (bb = true ↔ ∀ i, i < n → CrOk (ty zs W H) ks i) ∧ Below W'.heap.size W' w') := fun W' ad cc ra rk hW' hp => mayCreases_any W' cc ra rk n ccap ad cb _ ks hp (hk.kept hW') hn hn2
  have HCR : Hid (CRow w cb ks n) := row_crow hk hn
  clear hr hl hm hW hH hk hn hs hcb hsW hsH hlW
  obtain ⟨L, hL⟩ : ∃ L, L = ty zs W H := ⟨_, rfl⟩
  rw [← hL] at C94 C95 C96 hlen
  rw [← hL] at hJ
  clear hL
  go_enter Tryd.func21, Tryd.ntmps21
  go_wp2_with (first
    | (go_at_call 48; first | (refine (C92.out _).mono ?_; rintro e w9 ⟨rfl, hw9⟩; have hw9b := hw9.symm; clear hw9; subst hw9b) | (refine (C92'.out _).mono ?_; rintro e w9 ⟨rfl, hw9⟩; have hw9b := hw9.symm; clear hw9; subst hw9b))
    | (go_at_call 49; refine (C93.out _ (by with_reducible exact bl_alloc (bl_alloc (bl_refl _)))).mono ?_; rintro e w9 ⟨rfl, o9, rfl⟩)
    | (go_at_call 50; refine (C94.out _ (by with_reducible exact bl_alloc (bl_alloc (bl_alloc (bl_refl _))))).mono ?_; rintro e w3 ⟨ad, cc, base, pb, ra, rk, rfl, hPP⟩; have HK3 : Hid (PK ((w.alloc (.cells #[.int .i64 (W : Int), .int .i64 (H : Int), .slice (some ⟨b, off, none⟩) zs.length cap, .slice cb n ccap] 25)).alloc (.cells #[.slice none 0 0, .map none, .map none] 63)) w3 base ra rk (.slice ad L.length cc) L (gix L) (fun _ => none)) := hPP.pk.base (bl_alloc (bl_refl _)); have s0 : w3.cell? ⟨w.heap.size, 0, none⟩ = some (.int .i64 (W : Int)) := cl_kept HK3.out.2.2.2.2 (by simp [go_sem]); have s1 : w3.cell? ⟨w.heap.size, 1, none⟩ = some (.int .i64 (H : Int)) := cl_kept HK3.out.2.2.2.2 (by simp [go_sem]); have s2 : w3.cell? ⟨w.heap.size, 2, none⟩ = some (.slice (some ⟨b, off, none⟩) zs.length cap) := cl_kept HK3.out.2.2.2.2 (by simp [go_sem]); have s3 : w3.cell? ⟨w.heap.size, 3, none⟩ = some (.slice cb n ccap) := cl_kept HK3.out.2.2.2.2 (by simp [go_sem]); have z3 : w.heap.size < w3.heap.size := World.block_lt_of_cell? _ _ s0; have z3b : w.heap.size + 1 < w3.heap.size := Nat.lt_of_lt_of_le (by simp) HK3.out.2.2.2.2.size; clear hPP)
    | (go_at_call 51; refine (C95.out _ _ cc ra rk (bl_alloc (bl_via (bl_alloc (bl_alloc (bl_refl _))) HK3.out.2.2.2.2)) (HK3.out.pa.kept (bl_alloc (bl_refl _)))).mono ?_; rintro e w4 ⟨bb4, rfl, hb4, hbl4⟩; obtain rfl : bb4 = false := (by cases bb4 with | false => rfl | true => exact absurd (hb4.1 rfl) hJ); have HK4 : Hid (PK ((w.alloc (.cells #[.int .i64 (W : Int), .int .i64 (H : Int), .slice (some ⟨b, off, none⟩) zs.length cap, .slice cb n ccap] 25)).alloc (.cells #[.slice none 0 0, .map none, .map none] 63)) w4 base ra rk (.slice ad L.length cc) L (gix L) (fun _ => none) ∧ Below w3.heap.size w3 w4) := ⟨HK3.out.kept (bl_via (bl_alloc (bl_refl _)) hbl4), bl_via (bl_alloc (bl_refl _)) hbl4⟩; have r0 : w4.cell? ⟨w.heap.size, 0, none⟩ = some (.int .i64 (W : Int)) := cl_kept HK4.out.2 s0; have r1 : w4.cell? ⟨w.heap.size, 1, none⟩ = some (.int .i64 (H : Int)) := cl_kept HK4.out.2 s1; have r2 : w4.cell? ⟨w.heap.size, 2, none⟩ = some (.slice (some ⟨b, off, none⟩) zs.length cap) := cl_kept HK4.out.2 s2; have r3 : w4.cell? ⟨w.heap.size, 3, none⟩ = some (.slice cb n ccap) := cl_kept HK4.out.2 s3; have u0p : w4.cell? ⟨w3.heap.size, 0, none⟩ = some (.slice ad L.length cc) := cl_kept hbl4 (by simp [go_sem]); have u1p : w4.cell? ⟨w3.heap.size, 1, none⟩ = some (.map (some ra)) := cl_kept hbl4 (by simp [go_sem]); have u2p : w4.cell? ⟨w3.heap.size, 2, none⟩ = some (.map (some rk)) := cl_kept hbl4 (by simp [go_sem]); have z4 : w.heap.size < w4.heap.size := World.block_lt_of_cell? _ _ r0; have z4b : w3.heap.size < w4.heap.size := World.block_lt_of_cell? _ _ u0p; have c0r : w4.cell? ⟨w.heap.size + 1, 0, none⟩ = some (.slice none 0 0) := cl_kept HK4.out.1.2.2.2.2 (by simp [go_sem]); have c1r : w4.cell? ⟨w.heap.size + 1, 1, none⟩ = some (.map none) := cl_kept HK4.out.1.2.2.2.2 (by simp [go_sem]); have c2r : w4.cell? ⟨w.heap.size + 1, 2, none⟩ = some (.map none) := cl_kept HK4.out.1.2.2.2.2 (by simp [go_sem]); have f0r : w4.frozen? ⟨w.heap.size + 1, 0, none⟩ = false := (HK4.out.1.2.2.2.2.frozen (p := ⟨w.heap.size + 1, 0, none⟩) (by simp)).trans (by simp [go_sem]); have f1r : w4.frozen? ⟨w.heap.size + 1, 1, none⟩ = false := (HK4.out.1.2.2.2.2.frozen (p := ⟨w.heap.size + 1, 1, none⟩) (by simp)).trans (by simp [go_sem]); have f2r : w4.frozen? ⟨w.heap.size + 1, 2, none⟩ = false := (HK4.out.1.2.2.2.2.frozen (p := ⟨w.heap.size + 1, 2, none⟩) (by simp)).trans (by simp [go_sem]); clear hb4 hbl4))
  refine bodyPost_ret (v := .tuple #[.agg #[.slice none 0 0, .map none, .map none], .bool false]) ?_ rfl ⟨rfl, ?_⟩
  · simp [results, Tryd.results21, go_sem, c0r, c1r, c2r]
  · have hq := bl_via (bl_alloc (bl_alloc (bl_refl w))) HK4.out.1.2.2.2.2
    exact ((hq.setCell (p := ⟨w.heap.size + 1, 0, none⟩) (by simp) _).setCell (p := ⟨w.heap.size + 1, 1, none⟩) (by simp) _).setCell (p := ⟨w.heap.size + 1, 2, none⟩) (by simp) _

set_option maxRecDepth 100000 in
set_option maxHeartbeats 6400000 in
theorem lay_nocrease (W H b off cap n ccap : Nat) (cb : Option Addr) (zs ks : List Int) (w : World) (hr : Row w (some ⟨b, off, none⟩) zs) (hW : 1 ≤ W ∧ W ≤ 8) (hH : 1 ≤ H ∧ H ≤ 8) (hl : zs.length = W * H) (hm : maskB zs = true) (hk : Row w cb ks) (hn : ks.length = n * 5) (hn2 : n ≤ 3518437208883) (hs : Steps w) (hJ : Joined (ty zs W H)) (hC : ¬ ∀ i, i < n → CrOk (ty zs W H) ks i) :
    Calls Tryd.prog 21 #[.agg #[.int .i64 (W : Int), .int .i64 (H : Int), .slice (some ⟨b, off, none⟩) zs.length cap, .slice cb n ccap]] w fun e w' => e = .returned (.tuple #[.agg #[.slice none 0 0, .map none, .map none], .bool false]) ∧ Below w.heap.size w w' := by
  have hcb : cellsB (W : Int) (H : Int) zs = true := by
    have e1 : sideB (W : Int) = true := by simp [sideB]; omega
    have e2 : sideB (H : Int) = true := by simp [sideB]; omega
    have e3 : (zs.length : Int) = (W : Int) * (H : Int) := by rw [hl]; simp
    simp only [cellsB, e1, e2, decide_eq_true e3, hm]
    rfl
  have hsW : sideB (W : Int) = true := by simp [sideB]; omega
  have hsH : sideB (H : Int) = true := by simp [sideB]; omega
  have hlW : (zs.length : Int) = (W : Int) * (H : Int) := by rw [hl]; simp
  have C93 : Hid (∀ W' : World, Below w.heap.size w W' → Calls Tryd.prog 49 #[.agg #[.int .i64 (W : Int), .int .i64 (H : Int), .slice (some ⟨b, off, none⟩) zs.length cap, .slice cb n ccap]] W' fun e w' => e = .returned (.bool true) ∧ ∃ o, w' = W'.alloc o) := fun W' hW' => hm ▸ mayMask_any W H _ cap zs _ W' hsW hsH (hr.kept hW') hlW
  have C92 : Hid (∀ W' : World, Calls Tryd.prog 48 #[.int .i64 (W : Int)] W' fun e w' => e = .returned (.bool true) ∧ w' = W') := fun W' => hsW ▸ maySide_any (W : Int) W'
  have C92' : Hid (∀ W' : World, Calls Tryd.prog 48 #[.int .i64 (H : Int)] W' fun e w' => e = .returned (.bool true) ∧ w' = W') := fun W' => hsH ▸ maySide_any (H : Int) W'
  have C94 : Hid (∀ W' : World, Below w.heap.size w W' → Calls Tryd.prog 50 #[.int .i64 (W : Int), .int .i64 (H : Int), .slice (some ⟨b, off, none⟩) zs.length cap] W' fun e w' => ∃ ad cc base pb ra rk, e = .returned (.agg #[.slice ad (ty zs W H).length cc, .map (some ra), .map (some rk)]) ∧ PP W' w' base pb ra rk (.slice ad (ty zs W H).length cc) (ty zs W H) (gix (ty zs W H))) := fun W' hW' => of_any W H b off cap zs W' (hs.kept hW') (hr.kept hW') hW hH hl hm
  have hlen : (ty zs W H).length ≤ 300 := by have := ty_len zs W H hW.2; omega
  have C95 : Hid (∀ (W' : World) (ad : Option Addr) (cc ra rk : Nat), Below w.heap.size w W' → PA W' ad ra (ty zs W H) → Calls Tryd.prog 51 #[.agg #[.slice ad (ty zs W H).length cc, .map (some ra), .map (some rk)]] W' fun e w' => ∃ bb : Bool, e = .returned (.bool bb) ∧ (bb = true ↔ Joined (ty zs W H)) ∧ Below W'.heap.size W' w') := fun W' ad cc ra rk hW' hp => joined_any W' cc ra rk ad _ (hs.kept hW') hp hlen (ty_nodup zs W H) (ty_bd hW.2 hH.2)
  have C96 : Hid (∀ (W' : World) (ad : Option Addr) (cc ra rk : Nat), Below w.heap.size w W' → PA W' ad ra (ty zs W H) → Calls Tryd.prog 52 #[.agg #[.slice ad (ty zs W H).length cc, .map (some ra), .map (some rk)], .slice cb n ccap] W' fun e w' => ∃ bb : Bool, e = .returned (.bool bb) ∧ (bb = true ↔ ∀ i, i < n → CrOk (ty zs W H) ks i) ∧ Below W'.heap.size W' w') := fun W' ad cc ra rk hW' hp => mayCreases_any W' cc ra rk n ccap ad cb _ ks hp (hk.kept hW') hn hn2
  have HCR : Hid (CRow w cb ks n) := row_crow hk hn
  clear hr hl hm hW hH hk hn hs hcb hsW hsH hlW
  obtain ⟨L, hL⟩ : ∃ L, L = ty zs W H := ⟨_, rfl⟩
  rw [← hL] at C94 C95 C96 hlen
  rw [← hL] at hJ hC
  have HJ : Hid (Joined L) := hJ
  have HC : Hid (¬ ∀ i, i < n → CrOk L ks i) := hC
  clear hL hJ hC
  go_enter Tryd.func21, Tryd.ntmps21
  go_wp2_with (first
    | (go_at_call 48; first | (refine (C92.out _).mono ?_; rintro e w9 ⟨rfl, hw9⟩; have hw9b := hw9.symm; clear hw9; subst hw9b) | (refine (C92'.out _).mono ?_; rintro e w9 ⟨rfl, hw9⟩; have hw9b := hw9.symm; clear hw9; subst hw9b))
    | (go_at_call 49; refine (C93.out _ (by with_reducible exact bl_alloc (bl_alloc (bl_refl _)))).mono ?_; rintro e w9 ⟨rfl, o9, rfl⟩)
    | (go_at_call 50; refine (C94.out _ (by with_reducible exact bl_alloc (bl_alloc (bl_alloc (bl_refl _))))).mono ?_; rintro e w3 ⟨ad, cc, base, pb, ra, rk, rfl, hPP⟩; have HK3 : Hid (PK ((w.alloc (.cells #[.int .i64 (W : Int), .int .i64 (H : Int), .slice (some ⟨b, off, none⟩) zs.length cap, .slice cb n ccap] 25)).alloc (.cells #[.slice none 0 0, .map none, .map none] 63)) w3 base ra rk (.slice ad L.length cc) L (gix L) (fun _ => none)) := hPP.pk.base (bl_alloc (bl_refl _)); have s0 : w3.cell? ⟨w.heap.size, 0, none⟩ = some (.int .i64 (W : Int)) := cl_kept HK3.out.2.2.2.2 (by simp [go_sem]); have s1 : w3.cell? ⟨w.heap.size, 1, none⟩ = some (.int .i64 (H : Int)) := cl_kept HK3.out.2.2.2.2 (by simp [go_sem]); have s2 : w3.cell? ⟨w.heap.size, 2, none⟩ = some (.slice (some ⟨b, off, none⟩) zs.length cap) := cl_kept HK3.out.2.2.2.2 (by simp [go_sem]); have s3 : w3.cell? ⟨w.heap.size, 3, none⟩ = some (.slice cb n ccap) := cl_kept HK3.out.2.2.2.2 (by simp [go_sem]); have z3 : w.heap.size < w3.heap.size := World.block_lt_of_cell? _ _ s0; have z3b : w.heap.size + 1 < w3.heap.size := Nat.lt_of_lt_of_le (by simp) HK3.out.2.2.2.2.size; clear hPP)
    | (go_at_call 51; refine (C95.out _ _ cc ra rk (bl_alloc (bl_via (bl_alloc (bl_alloc (bl_refl _))) HK3.out.2.2.2.2)) (HK3.out.pa.kept (bl_alloc (bl_refl _)))).mono ?_; rintro e w4 ⟨bb4, rfl, hb4, hbl4⟩; obtain rfl : bb4 = true := hb4.2 HJ.out; have HK4 : Hid (PK ((w.alloc (.cells #[.int .i64 (W : Int), .int .i64 (H : Int), .slice (some ⟨b, off, none⟩) zs.length cap, .slice cb n ccap] 25)).alloc (.cells #[.slice none 0 0, .map none, .map none] 63)) w4 base ra rk (.slice ad L.length cc) L (gix L) (fun _ => none) ∧ Below w3.heap.size w3 w4) := ⟨HK3.out.kept (bl_via (bl_alloc (bl_refl _)) hbl4), bl_via (bl_alloc (bl_refl _)) hbl4⟩; have r0 : w4.cell? ⟨w.heap.size, 0, none⟩ = some (.int .i64 (W : Int)) := cl_kept HK4.out.2 s0; have r1 : w4.cell? ⟨w.heap.size, 1, none⟩ = some (.int .i64 (H : Int)) := cl_kept HK4.out.2 s1; have r2 : w4.cell? ⟨w.heap.size, 2, none⟩ = some (.slice (some ⟨b, off, none⟩) zs.length cap) := cl_kept HK4.out.2 s2; have r3 : w4.cell? ⟨w.heap.size, 3, none⟩ = some (.slice cb n ccap) := cl_kept HK4.out.2 s3; have u0p : w4.cell? ⟨w3.heap.size, 0, none⟩ = some (.slice ad L.length cc) := cl_kept hbl4 (by simp [go_sem]); have u1p : w4.cell? ⟨w3.heap.size, 1, none⟩ = some (.map (some ra)) := cl_kept hbl4 (by simp [go_sem]); have u2p : w4.cell? ⟨w3.heap.size, 2, none⟩ = some (.map (some rk)) := cl_kept hbl4 (by simp [go_sem]); have z4 : w.heap.size < w4.heap.size := World.block_lt_of_cell? _ _ r0; have z4b : w3.heap.size < w4.heap.size := World.block_lt_of_cell? _ _ u0p; clear hb4 hbl4)
    | (go_at_call 52; refine (C96.out _ _ cc ra rk (bl_via (bl_alloc (bl_alloc (bl_refl _))) HK4.out.1.2.2.2.2) HK4.out.1.pa).mono ?_; rintro e w5 ⟨bb5, rfl, hb5, hbl5⟩; obtain rfl : bb5 = false := (by cases bb5 with | false => rfl | true => exact absurd (hb5.1 rfl) HC.out); have HK5 : Hid (PK ((w.alloc (.cells #[.int .i64 (W : Int), .int .i64 (H : Int), .slice (some ⟨b, off, none⟩) zs.length cap, .slice cb n ccap] 25)).alloc (.cells #[.slice none 0 0, .map none, .map none] 63)) w5 base ra rk (.slice ad L.length cc) L (gix L) (fun _ => none)) := HK4.out.1.kept hbl5; have v0 : w5.cell? ⟨w.heap.size, 0, none⟩ = some (.int .i64 (W : Int)) := cl_kept hbl5 r0; have v1 : w5.cell? ⟨w.heap.size, 1, none⟩ = some (.int .i64 (H : Int)) := cl_kept hbl5 r1; have v2 : w5.cell? ⟨w.heap.size, 2, none⟩ = some (.slice (some ⟨b, off, none⟩) zs.length cap) := cl_kept hbl5 r2; have v3 : w5.cell? ⟨w.heap.size, 3, none⟩ = some (.slice cb n ccap) := cl_kept hbl5 r3; have x0p : w5.cell? ⟨w3.heap.size, 0, none⟩ = some (.slice ad L.length cc) := cl_kept hbl5 u0p; have x1p : w5.cell? ⟨w3.heap.size, 1, none⟩ = some (.map (some ra)) := cl_kept hbl5 u1p; have x2p : w5.cell? ⟨w3.heap.size, 2, none⟩ = some (.map (some rk)) := cl_kept hbl5 u2p; have z5 : w.heap.size < w5.heap.size := World.block_lt_of_cell? _ _ v0; have c0r : w5.cell? ⟨w.heap.size + 1, 0, none⟩ = some (.slice none 0 0) := cl_kept HK5.out.2.2.2.2 (by simp [go_sem]); have c1r : w5.cell? ⟨w.heap.size + 1, 1, none⟩ = some (.map none) := cl_kept HK5.out.2.2.2.2 (by simp [go_sem]); have c2r : w5.cell? ⟨w.heap.size + 1, 2, none⟩ = some (.map none) := cl_kept HK5.out.2.2.2.2 (by simp [go_sem]); have f0r : w5.frozen? ⟨w.heap.size + 1, 0, none⟩ = false := (HK5.out.2.2.2.2.frozen (p := ⟨w.heap.size + 1, 0, none⟩) (by simp)).trans (by simp [go_sem]); have f1r : w5.frozen? ⟨w.heap.size + 1, 1, none⟩ = false := (HK5.out.2.2.2.2.frozen (p := ⟨w.heap.size + 1, 1, none⟩) (by simp)).trans (by simp [go_sem]); have f2r : w5.frozen? ⟨w.heap.size + 1, 2, none⟩ = false := (HK5.out.2.2.2.2.frozen (p := ⟨w.heap.size + 1, 2, none⟩) (by simp)).trans (by simp [go_sem]); clear hb5 hbl5))
  refine bodyPost_ret (v := .tuple #[.agg #[.slice none 0 0, .map none, .map none], .bool false]) ?_ rfl ⟨rfl, ?_⟩
  · simp [results, Tryd.results21, go_sem, c0r, c1r, c2r]
  · have hq := bl_via (bl_alloc (bl_alloc (bl_refl w))) HK5.out.2.2.2.2
    exact ((hq.setCell (p := ⟨w.heap.size + 1, 0, none⟩) (by simp) _).setCell (p := ⟨w.heap.size + 1, 1, none⟩) (by simp) _).setCell (p := ⟨w.heap.size + 1, 2, none⟩) (by simp) _

/-- The kinds of the first n creases, by their edges; 0: none. -/
def kdn (ks : List Int) : Nat → Int × Int × Int × Int → Int
  | 0, _ => 0
  | i + 1, e => if e = (ck ks i 0, ck ks i 1, ck ks i 2, ck ks i 3) then ck ks i 4 else kdn ks i e
theorem kf_kdn (ks : List Int) (e : Int × Int × Int × Int) : ∀ n, (kf ks n e).getD (.int .i64 0) = .int .i64 (kdn ks n e)
  | 0 => rfl
  | i + 1 => by
    unfold kf kdn
    split
    · rfl
    · exact kf_kdn ks e i
/-- What is asked of the map of kinds. -/
def KL (w : World) (rk : Nat) (kd : Int × Int × Int × Int → Int) : Prop := ∀ (e : Int × Int × Int × Int) (wx : World), Below w.heap.size w wx → (Instr.lookup 61 (.map (some rk)) (ek e) false).run Tryd.prog wx = .ok (.int .i64 (kd e)) wx
theorem KL.kept {w w' : World} {rk : Nat} {kd : Int × Int × Int × Int → Int} (h : KL w rk kd) (hb : Below w.heap.size w w') : KL w' rk kd := fun e wx hx => h e wx (bl_via hb hx)
theorem zero3 (w : World) : (zeroValue 3).run Tryd.prog w = .ok (.int .i64 0) w := by kernel_rfl
theorem PK.kl {w0 w : World} {base ra rk n : Nat} {vt : Value} {L : List (Int × Int × Int)} {G : Int × Int × Int × Int → List Int} {ks : List Int} (h : PK w0 w base ra rk vt L G (kf ks n)) : KL w rk (kdn ks n) := fun e wx hx => by
  obtain ⟨ls, c, h4, h4g, h4k⟩ := h.2.2.1
  have := lookup27 Tryd.underlying61 zero3 (h4.grown (bl_grown hx) (by simp)) h4g e
  rw [h4k e, kf_kdn] at this
  exact this

theorem kind_any (w : World) (ad : Option Addr) (n cc ra rk : Nat) (kd : Int × Int × Int × Int → Int) (p q r s : Int) (hK : KL w rk kd) :
    Calls Tryd.prog 55 #[.agg #[.slice ad n cc, .map (some ra), .map (some rk)], .agg #[.int .i64 p, .int .i64 q, .int .i64 r, .int .i64 s]] w fun e w' => e = .returned (.int .i64 (kd (p, q, r, s))) ∧ Below w.heap.size w w' := by
  have hl := hK (p, q, r, s) ((w.alloc (.cells #[.slice ad n cc, .map (some ra), .map (some rk)] 63)).alloc (.cells #[.int .i64 p, .int .i64 q, .int .i64 r, .int .i64 s] 72)) (bl_alloc (bl_alloc (bl_refl _)))
  simp only [ek] at hl
  clear hK
  go_enter Tryd.func55, Tryd.ntmps55
  go_wp2
  go_ret
  exact ⟨rfl, bl_alloc (bl_alloc (bl_refl _))⟩

theorem ret_agg2 {a b a' b' : Int} (h1 : a = a') (h2 : b = b') : Ending.returned (.agg #[.int .i64 a, .int .i64 b]) = .returned (.agg #[.int .i64 a', .int .i64 b']) := by subst h1 h2; rfl
set_option maxHeartbeats 1600000 in
theorem paperLine_any (p q r s : Int) (w : World) (h1 : 0 ≤ p ∧ p ≤ 100) (h2 : 0 ≤ q ∧ q ≤ 100) :
    Calls Tryd.prog 91 #[.agg #[.int .i64 p, .int .i64 q, .int .i64 r, .int .i64 s]] w fun e w' => e = .returned (.agg #[.int .i64 (lnW (p, q, r, s)), .int .i64 (lnC (p, q, r, s))]) ∧ Below w.heap.size w w' := by
  obtain ⟨a1, a2⟩ := h1
  obtain ⟨b1, b2⟩ := h2
  by_cases c1 : p = r
  · subst c1
    go_enter Tryd.func91, Tryd.ntmps91
    go_wp2
    refine bodyPost_ret (v := .agg #[_, _]) (by simp [results, Tryd.results91, go_sem]; exact ⟨rfl, rfl⟩) rfl ⟨?_, ?_⟩
    · exact ret_agg2 (by simp [lnW]) (by simp [lnC])
    · with_reducible repeat (first | exact bl_refl _ | refine bl_alloc ?_ | refine bl_set ?_ ?_)
      all_goals (simp)
  · by_cases c2 : q = s
    · subst c2
      go_enter Tryd.func91, Tryd.ntmps91
      go_wp2
      refine bodyPost_ret (v := .agg #[_, _]) (by simp [results, Tryd.results91, go_sem]; exact ⟨rfl, rfl⟩) rfl ⟨?_, ?_⟩
      · exact ret_agg2 (by simp [lnW, c1]) (by simp [lnC, c1])
      · with_reducible repeat (first | exact bl_refl _ | refine bl_alloc ?_ | refine bl_set ?_ ?_)
        all_goals (simp)
    · by_cases c3 : s < q
      · go_enter Tryd.func91, Tryd.ntmps91
        go_wp2
        refine bodyPost_ret (v := .agg #[_, _]) (by simp [results, Tryd.results91, go_sem]; exact ⟨rfl, rfl⟩) rfl ⟨?_, ?_⟩
        · exact ret_agg2 (by simp [lnW, c1, c2, c3]) (by simp [lnC, c1, c2, c3])
        · with_reducible repeat (first | exact bl_refl _ | refine bl_alloc ?_ | refine bl_set ?_ ?_)
          all_goals (simp)
      · go_enter Tryd.func91, Tryd.ntmps91
        go_wp2
        refine bodyPost_ret (v := .agg #[_, _]) (by simp [results, Tryd.results91, go_sem]; exact ⟨rfl, rfl⟩) rfl ⟨?_, ?_⟩
        · exact ret_agg2 (by simp only [lnW, if_neg c1, if_neg c2, if_neg (show ¬ s < q by omega)]) (by simp only [lnC, if_neg c1, if_neg c2, if_neg (show ¬ s < q by omega)])
        · with_reducible repeat (first | exact bl_refl _ | refine bl_alloc ?_ | refine bl_set ?_ ?_)
          all_goals (simp)

/-- A map as the code has it. -/
def mv (m : M6) : Value := .agg #[.int .i64 m.1, .int .i64 m.2.1, .int .i64 m.2.2.1, .int .i64 m.2.2.2.1, .int .i64 m.2.2.2.2.1, .int .i64 m.2.2.2.2.2]
theorem six_cases {o : Nat} (h : o < 6) : o = 0 ∨ o = 1 ∨ o = 2 ∨ o = 3 ∨ o = 4 ∨ o = 5 := by omega
set_option maxRecDepth 100000 in
set_option maxHeartbeats 3200000 in
theorem beyond_any (w : World) (ad : Option Addr) (n cc ra rk : Nat) (kd : Int × Int × Int × Int → Int) (p q r s A B C D E F : Int) (hK : KL w rk kd) (h1 : 0 ≤ p ∧ p ≤ 100) (h2 : 0 ≤ q ∧ q ≤ 100) (hl : lineB (lnW (p, q, r, s)) (lnC (p, q, r, s)) = true ∧ -40 ≤ lnC (p, q, r, s) ∧ lnC (p, q, r, s) ≤ 40) (hm : GoodM (A, B, C, D, E, F) 800000) :
    Calls Tryd.prog 70 #[.agg #[.slice ad n cc, .map (some ra), .map (some rk)], .agg #[.int .i64 p, .int .i64 q, .int .i64 r, .int .i64 s], .agg #[.int .i64 A, .int .i64 B, .int .i64 C, .int .i64 D, .int .i64 E, .int .i64 F]] w fun e w' => e = .returned (mv (farM kd (p, q, r, s) (A, B, C, D, E, F))) ∧ Below w.heap.size w w' := by
  have hmir := mir_may hl.1 hl.2
  have haft := aft_good hmir hm (by omega)
  by_cases hz : kd (p, q, r, s) = 0
  · have CK : Hid (∀ W' : World, Below w.heap.size w W' → Calls Tryd.prog 55 #[.agg #[.slice ad n cc, .map (some ra), .map (some rk)], .agg #[.int .i64 p, .int .i64 q, .int .i64 r, .int .i64 s]] W' fun e w' => e = .returned (.int .i64 0) ∧ Below W'.heap.size W' w') := fun W' hW' => hz ▸ kind_any W' ad n cc ra rk kd p q r s (hK.kept hW')
    have HF : Hid (farM kd (p, q, r, s) (A, B, C, D, E, F) = (A, B, C, D, E, F)) := by
      have : farM kd (p, q, r, s) (A, B, C, D, E, F) = (A, B, C, D, E, F) := by simp [farM, hz]
      exact this
    clear hK hl hm hmir haft h1 h2 hz
    go_enter Tryd.func70, Tryd.ntmps70
    go_wp2_with (go_at_call 55; refine (CK.out _ (by with_reducible exact bl_alloc (bl_alloc (bl_alloc (bl_alloc (bl_refl _)))))).mono ?_; rintro e w2 ⟨rfl, hb⟩; have HB : Hid (Below w.heap.size w w2) := bl_via (bl_alloc (bl_alloc (bl_alloc (bl_alloc (bl_refl _))))) hb; have m0 : w2.cell? ⟨w.heap.size + 1 + 1, 0, none⟩ = some (.int .i64 A) := cl_kept hb (by simp [go_sem]); have m1 : w2.cell? ⟨w.heap.size + 1 + 1, 1, none⟩ = some (.int .i64 B) := cl_kept hb (by simp [go_sem]); have m2 : w2.cell? ⟨w.heap.size + 1 + 1, 2, none⟩ = some (.int .i64 C) := cl_kept hb (by simp [go_sem]); have m3 : w2.cell? ⟨w.heap.size + 1 + 1, 3, none⟩ = some (.int .i64 D) := cl_kept hb (by simp [go_sem]); have m4 : w2.cell? ⟨w.heap.size + 1 + 1, 4, none⟩ = some (.int .i64 E) := cl_kept hb (by simp [go_sem]); have m5 : w2.cell? ⟨w.heap.size + 1 + 1, 5, none⟩ = some (.int .i64 F) := cl_kept hb (by simp [go_sem]); have r0 : w2.cell? ⟨w.heap.size + 1 + 1 + 1, 0, none⟩ = some (.int .i64 0) := cl_kept hb (by simp [go_sem]); have r1 : w2.cell? ⟨w.heap.size + 1 + 1 + 1, 1, none⟩ = some (.int .i64 0) := cl_kept hb (by simp [go_sem]); have r2 : w2.cell? ⟨w.heap.size + 1 + 1 + 1, 2, none⟩ = some (.int .i64 0) := cl_kept hb (by simp [go_sem]); have r3 : w2.cell? ⟨w.heap.size + 1 + 1 + 1, 3, none⟩ = some (.int .i64 0) := cl_kept hb (by simp [go_sem]); have r4 : w2.cell? ⟨w.heap.size + 1 + 1 + 1, 4, none⟩ = some (.int .i64 0) := cl_kept hb (by simp [go_sem]); have r5 : w2.cell? ⟨w.heap.size + 1 + 1 + 1, 5, none⟩ = some (.int .i64 0) := cl_kept hb (by simp [go_sem]); have fz : ∀ o, o < 6 → w2.frozen? ⟨w.heap.size + 1 + 1 + 1, o, none⟩ = false := fun o ho => (hb.frozen (p := ⟨w.heap.size + 1 + 1 + 1, o, none⟩) (by simp)).trans (by simp [go_sem]); have f0 := fz 0 (by omega); have f1 := fz 1 (by omega); have f2 := fz 2 (by omega); have f3 := fz 3 (by omega); have f4 := fz 4 (by omega); have f5 := fz 5 (by omega); have zw : w.heap.size + 1 + 1 + 1 < w2.heap.size := World.block_lt_of_cell? _ _ r0; clear fz hb)
    refine bodyPost_ret (v := .agg #[.int .i64 A, .int .i64 B, .int .i64 C, .int .i64 D, .int .i64 E, .int .i64 F]) (by simp [results, Tryd.results70, go_sem, r0, r1, r2, r3, r4, r5]) rfl ⟨by rw [HF.out]; rfl, ?_⟩
    with_reducible repeat (first | exact HB.out | refine bl_set ?_ ?_)
    all_goals (dsimp only; omega)
  · obtain ⟨z, hzz⟩ : ∃ z, z = kd (p, q, r, s) := ⟨_, rfl⟩
    have CK : Hid (∀ W' : World, Below w.heap.size w W' → Calls Tryd.prog 55 #[.agg #[.slice ad n cc, .map (some ra), .map (some rk)], .agg #[.int .i64 p, .int .i64 q, .int .i64 r, .int .i64 s]] W' fun e w' => e = .returned (.int .i64 z) ∧ Below W'.heap.size W' w') := fun W' hW' => hzz ▸ kind_any W' ad n cc ra rk kd p q r s (hK.kept hW')
    have HF : Hid (farM kd (p, q, r, s) (A, B, C, D, E, F) = aft (mir (lnW (p, q, r, s)) (lnC (p, q, r, s))) (A, B, C, D, E, F)) := by
      have : farM kd (p, q, r, s) (A, B, C, D, E, F) = aft (mir (lnW (p, q, r, s)) (lnC (p, q, r, s))) (A, B, C, D, E, F) := by simp [farM, hz]
      exact this
    rw [← hzz] at hz
    obtain ⟨v, hv⟩ : ∃ v, v = lnW (p, q, r, s) := ⟨_, rfl⟩
    obtain ⟨c, hc⟩ : ∃ c, c = lnC (p, q, r, s) := ⟨_, rfl⟩
    have CL : Hid (∀ W' : World, Calls Tryd.prog 91 #[.agg #[.int .i64 p, .int .i64 q, .int .i64 r, .int .i64 s]] W' fun e w' => e = .returned (.agg #[.int .i64 v, .int .i64 c]) ∧ Below W'.heap.size W' w') := fun W' => by
      rw [hv, hc]
      exact paperLine_any p q r s W' h1 h2
    rw [← hv, ← hc] at hl hmir haft HF
    obtain ⟨a, b, c', d, e, f, hmv⟩ : ∃ a b c' d e f, mir v c = (a, b, c', d, e, f) := ⟨_, _, _, _, _, _, rfl⟩
    have CM : Hid (∀ W' : World, Calls Tryd.prog 90 #[.agg #[.int .i64 v, .int .i64 c]] W' fun e' w' => e' = .returned (.tuple #[.agg #[.int .i64 a, .int .i64 b, .int .i64 c', .int .i64 d, .int .i64 e, .int .i64 f], .int .i64 0]) ∧ Below W'.heap.size W' w') := fun W' => by
      have h := Mirror_yes v c W' hl.1 hmir.1
      simp only [mir, Prod.mk.injEq] at hmv
      obtain ⟨rfl, rfl, rfl, rfl, rfl, rfl⟩ := hmv
      exact h
    rw [hmv] at hmir haft HF
    have CA : Hid (∀ W' : World, Calls Tryd.prog 92 #[.agg #[.int .i64 a, .int .i64 b, .int .i64 c', .int .i64 d, .int .i64 e, .int .i64 f], .agg #[.int .i64 A, .int .i64 B, .int .i64 C, .int .i64 D, .int .i64 E, .int .i64 F]] W' fun r w' => r = .returned (.tuple #[.agg #[.int .i64 (dot A B a c'), .int .i64 (dot A B b d), .int .i64 (dot C D a c'), .int .i64 (dot C D b d), .int .i64 (dot A B e f + E), .int .i64 (dot C D e f + F)], .int .i64 0]) ∧ Below W'.heap.size W' w') := fun W' => After_yes a b c' d e f A B C D E F W' hmir.1 hm.1 haft.1
    clear hK hl hm hmir haft h1 h2 hzz hv hc hmv
    go_enter Tryd.func70, Tryd.ntmps70
    go_wp2_with (first
      | (go_at_call 55; refine (CK.out _ (by with_reducible exact bl_alloc (bl_alloc (bl_alloc (bl_alloc (bl_refl _)))))).mono ?_; rintro e w2 ⟨rfl, hb⟩; have HB : Hid (Below w.heap.size w w2) := bl_via (bl_alloc (bl_alloc (bl_alloc (bl_alloc (bl_refl _))))) hb; have e0 : w2.cell? ⟨w.heap.size + 1, 0, none⟩ = some (.int .i64 p) := cl_kept hb (by simp [go_sem]); have e1 : w2.cell? ⟨w.heap.size + 1, 1, none⟩ = some (.int .i64 q) := cl_kept hb (by simp [go_sem]); have e2 : w2.cell? ⟨w.heap.size + 1, 2, none⟩ = some (.int .i64 r) := cl_kept hb (by simp [go_sem]); have e3 : w2.cell? ⟨w.heap.size + 1, 3, none⟩ = some (.int .i64 s) := cl_kept hb (by simp [go_sem]); have m0 : w2.cell? ⟨w.heap.size + 1 + 1, 0, none⟩ = some (.int .i64 A) := cl_kept hb (by simp [go_sem]); have m1 : w2.cell? ⟨w.heap.size + 1 + 1, 1, none⟩ = some (.int .i64 B) := cl_kept hb (by simp [go_sem]); have m2 : w2.cell? ⟨w.heap.size + 1 + 1, 2, none⟩ = some (.int .i64 C) := cl_kept hb (by simp [go_sem]); have m3 : w2.cell? ⟨w.heap.size + 1 + 1, 3, none⟩ = some (.int .i64 D) := cl_kept hb (by simp [go_sem]); have m4 : w2.cell? ⟨w.heap.size + 1 + 1, 4, none⟩ = some (.int .i64 E) := cl_kept hb (by simp [go_sem]); have m5 : w2.cell? ⟨w.heap.size + 1 + 1, 5, none⟩ = some (.int .i64 F) := cl_kept hb (by simp [go_sem]); have r0 : w2.cell? ⟨w.heap.size + 1 + 1 + 1, 0, none⟩ = some (.int .i64 0) := cl_kept hb (by simp [go_sem]); have HZ : Hid (∀ o, o < 6 → w2.cell? ⟨w.heap.size + 1 + 1 + 1, o, none⟩ = some (.int .i64 0) ∧ w2.frozen? ⟨w.heap.size + 1 + 1 + 1, o, none⟩ = false) := fun o ho => ⟨cl_kept hb (by rcases six_cases ho with rfl | rfl | rfl | rfl | rfl | rfl <;> simp [go_sem]), (hb.frozen (p := ⟨w.heap.size + 1 + 1 + 1, o, none⟩) (by simp)).trans (by simp [go_sem])⟩; have zw : w.heap.size + 1 + 1 + 1 < w2.heap.size := World.block_lt_of_cell? _ _ r0; clear hb)
      | (go_at_call 91; refine (CL.out _).mono ?_; rintro e w3 ⟨rfl, hb⟩; have HB3 : Hid (Below w2.heap.size w2 w3) := hb; clear hb)
      | (go_at_call 90; refine (CM.out _).mono ?_; rintro e w4 ⟨rfl, hb⟩; have HB4 : Hid (Below w2.heap.size w2 w4) := bl_via HB3.out hb; have n0 := cl_kept HB4.out m0; have n1 := cl_kept HB4.out m1; have n2 := cl_kept HB4.out m2; have n3 := cl_kept HB4.out m3; have n4 := cl_kept HB4.out m4; have n5 := cl_kept HB4.out m5; have z4 : w.heap.size + 1 + 1 < w4.heap.size := World.block_lt_of_cell? _ _ n0; clear hb)
      | (go_at_call 92; refine (CA.out _).mono ?_; rintro e w5 ⟨rfl, hb⟩; have HB5 : Hid (Below w2.heap.size w2 w5) := bl_via (bl_alloc HB4.out) hb; have s0 := cl_kept HB5.out (HZ.out 0 (by omega)).1; have f0 := (HB5.out.frozen (p := ⟨w.heap.size + 1 + 1 + 1, 0, none⟩) zw).trans (HZ.out 0 (by omega)).2; have s1 := cl_kept HB5.out (HZ.out 1 (by omega)).1; have f1 := (HB5.out.frozen (p := ⟨w.heap.size + 1 + 1 + 1, 1, none⟩) zw).trans (HZ.out 1 (by omega)).2; have s2 := cl_kept HB5.out (HZ.out 2 (by omega)).1; have f2 := (HB5.out.frozen (p := ⟨w.heap.size + 1 + 1 + 1, 2, none⟩) zw).trans (HZ.out 2 (by omega)).2; have s3 := cl_kept HB5.out (HZ.out 3 (by omega)).1; have f3 := (HB5.out.frozen (p := ⟨w.heap.size + 1 + 1 + 1, 3, none⟩) zw).trans (HZ.out 3 (by omega)).2; have s4 := cl_kept HB5.out (HZ.out 4 (by omega)).1; have f4 := (HB5.out.frozen (p := ⟨w.heap.size + 1 + 1 + 1, 4, none⟩) zw).trans (HZ.out 4 (by omega)).2; have s5 := cl_kept HB5.out (HZ.out 5 (by omega)).1; have f5 := (HB5.out.frozen (p := ⟨w.heap.size + 1 + 1 + 1, 5, none⟩) zw).trans (HZ.out 5 (by omega)).2; have z5 : w.heap.size + 1 + 1 + 1 < w5.heap.size := World.block_lt_of_cell? _ _ s0; clear hb))
    refine bodyPost_ret (v := .agg #[.int .i64 (dot A B a c'), .int .i64 (dot A B b d), .int .i64 (dot C D a c'), .int .i64 (dot C D b d), .int .i64 (dot A B e f + E), .int .i64 (dot C D e f + F)]) ?_ rfl ⟨by rw [HF.out]; rfl, ?_⟩
    · simp [results, Tryd.results70, go_sem, s0, s1, s2, s3, s4, s5, World.cell?_alloc_past, z5]
    · with_reducible repeat (first | exact bl_via HB.out HB5.out | refine bl_set ?_ ?_ | refine bl_alloc ?_)
      all_goals (dsimp only; omega)
end Go.Proofs.YtmjneoaciopioaaDoor
