/- May a paper's creases be? -/
import Derived.Test.YtehmoacggikfmaaDoorQlbf
import Derived.Test.YtehmoacggikfmaaDoorQlbs
namespace Go.Proofs.YtehmoacggikfmaaDoor
open Go.RowKit Go.ChangeMaps

theorem gix_cnt (l : List (Int × Int × Int)) (p q r s : Int) : ∀ n, n ≤ l.length → (gix (l.take n) (p, q, r, s)).length = cnt (l.take n) p q r s
  | 0, _ => by simp [gix, cnt]
  | n + 1, h => by
    have ih := gix_cnt l p q r s n (by omega)
    rw [cnt_next (by omega), List.take_succ_eq_append_getElem (by omega), gix_snoc, List.length_append, ih]
    congr 1
    unfold hasT
    split <;> rfl
theorem gix_count (l : List (Int × Int × Int)) (p q r s : Int) : (gix l (p, q, r, s)).length = cnt l p q r s := by
  have := gix_cnt l p q r s l.length (Nat.le_refl _)
  rwa [List.take_length] at this

set_option maxHeartbeats 1600000 in
theorem inner_any (w : World) (cc ra rk : Nat) (ad : Option Addr) (L : List (Int × Int × Int)) (p q r s : Int) (hPA : PA w ad ra L) :
    Calls Tryd.prog 38 #[.agg #[.slice ad L.length cc, .map (some ra), .map (some rk)], .agg #[.int .i64 p, .int .i64 q, .int .i64 r, .int .i64 s]] w fun e w' => e = .returned (.bool (decide (cnt L p q r s = 2))) ∧ Below w.heap.size w w' := by
  obtain ⟨a, cap, _, hl⟩ := hPA.2 (p, q, r, s)
  have hl2 : (Instr.lookup 37 (.map (some ra)) (.agg #[.int .i64 p, .int .i64 q, .int .i64 r, .int .i64 s]) false).run Tryd.prog ((w.alloc (.cells #[.slice ad L.length cc, .map (some ra), .map (some rk)] 40)).alloc (.cells #[.int .i64 p, .int .i64 q, .int .i64 r, .int .i64 s] 46)) = .ok (.slice a (gix L (p, q, r, s)).length cap) ((w.alloc (.cells #[.slice ad L.length cc, .map (some ra), .map (some rk)] 40)).alloc (.cells #[.int .i64 p, .int .i64 q, .int .i64 r, .int .i64 s] 46)) := hl _ (bl_alloc (bl_alloc (bl_refl _)))
  clear hl
  have HC : Hid ((gix L (p, q, r, s)).length = cnt L p q r s) := gix_count L p q r s
  go_enter Tryd.func38, Tryd.ntmps38
  go_wp2
  go_ret
  refine ⟨ret_bool ?_, bl_alloc (bl_alloc (bl_refl _))⟩
  rw [HC.out, Bool.eq_iff_iff]
  simp
  omega

set_option maxRecDepth 100000 in
set_option maxHeartbeats 6400000 in
theorem mayCreases_any (w : World) (cc ra rk n ccap : Nat) (ad cb : Option Addr) (L : List (Int × Int × Int)) (ks : List Int) (hPA : PA w ad ra L) (hk : Row w cb ks) (hn : ks.length = n * 5) (hn2 : n ≤ 3518437208883) :
    Calls Tryd.prog 24 #[.agg #[.slice ad L.length cc, .map (some ra), .map (some rk)], .slice cb n ccap] w fun e w' => ∃ bb : Bool, e = .returned (.bool bb) ∧ (bb = true ↔ ∀ i, i < n → CrOk L ks i) ∧ Below w.heap.size w w' := by
  have HCR : Hid (CRow w cb ks n) := row_crow hk hn
  have CIN : Hid (∀ (p q r s : Int) (wx : World), Below w.heap.size w wx → Calls Tryd.prog 38 #[.agg #[.slice ad L.length cc, .map (some ra), .map (some rk)], .agg #[.int .i64 p, .int .i64 q, .int .i64 r, .int .i64 s]] wx fun e w' => e = .returned (.bool (decide (cnt L p q r s = 2))) ∧ Below wx.heap.size wx w') := fun p q r s wx hb => inner_any wx cc ra rk ad L p q r s (hPA.kept hb)
  clear hPA hk hn
  go_enter Tryd.func24, Tryd.ntmps24
  go_wp2
  go_loopg [9] n (fun gk s9 wx => ∃ i : Nat, i ≤ n ∧ gk = n - i ∧ s9 = .int .i64 (i : Int) ∧ (∀ j, j < i → CrOk L ks j) ∧ (wx.cell? ⟨w.heap.size, 0, none⟩ = some (.slice ad L.length cc) ∧ wx.cell? ⟨w.heap.size, 1, none⟩ = some (.map (some ra)) ∧ wx.cell? ⟨w.heap.size, 2, none⟩ = some (.map (some rk))) ∧ Below w.heap.size w wx)
  case atStart => exact ⟨0, by omega, rfl, rfl, fun j h => by omega, by simp [go_sem], bl_alloc (bl_refl _)⟩
  case round =>
    obtain ⟨i, hi, rfl, rfl, hp, hP0, hB⟩ := hrel
    have HP : Hid (∀ j, j < i → CrOk L ks j) := hp
    have HP0 : Hid (wr.cell? ⟨w.heap.size, 0, none⟩ = some (.slice ad L.length cc) ∧ wr.cell? ⟨w.heap.size, 1, none⟩ = some (.map (some ra)) ∧ wr.cell? ⟨w.heap.size, 2, none⟩ = some (.map (some rk))) := hP0
    have HB : Hid (Below w.heap.size w wr) := hB
    obtain ⟨s0, s1, s2⟩ := hP0
    have zs0 : w.heap.size < wr.heap.size := World.block_lt_of_cell? _ _ s0
    clear hp hB
    by_cases h1 : i < n
    · have i1 : (i : Int) < (n : Int) := by omega
      have i0 : (0 : Int) ≤ (i : Int) := by omega
      obtain ⟨bb, bo, rfl, c0, c1, c2, c3, c4⟩ := (HCR.out.kept HB.out) i h1
      have zb : bb < wr.heap.size := World.block_lt_of_cell? _ _ c0
      by_cases k1 : (ck ks i 4) = 1
      · have k1b : ((ck ks i 4) != 1) = false := by simpa using k1
        have HK : Hid ((ck ks i 4) = 1) := k1
        clear k1
        cases g1 : decide (cnt L (ck ks i 0) (ck ks i 1) (ck ks i 2) (ck ks i 3) = 2)
        · go_wp2_with (go_at_call 38; refine (CIN.out _ _ _ _ _ (bl_alloc HB.out)).mono ?_; rintro e5 w5 ⟨rfl, hb5⟩; have hB5 : Below wr.heap.size wr w5 := bl_via (bl_alloc (bl_refl _)) hb5; have HB5 : Hid (Below wr.heap.size wr w5) := hB5; have t0 : w5.cell? ⟨wr.heap.size, 0, none⟩ = some (.int .i64 (ck ks i 0)) := cl_kept hb5 (by simp [go_sem]); have t1 : w5.cell? ⟨wr.heap.size, 1, none⟩ = some (.int .i64 (ck ks i 1)) := cl_kept hb5 (by simp [go_sem]); have t2 : w5.cell? ⟨wr.heap.size, 2, none⟩ = some (.int .i64 (ck ks i 2)) := cl_kept hb5 (by simp [go_sem]); have t3 : w5.cell? ⟨wr.heap.size, 3, none⟩ = some (.int .i64 (ck ks i 3)) := cl_kept hb5 (by simp [go_sem]); have z5 : wr.heap.size < w5.heap.size := World.block_lt_of_cell? _ _ t0; have z6 : bb < w5.heap.size := Nat.lt_of_lt_of_le zb hB5.size; have HCR5 : Hid (CRow w5 (some ⟨bb, bo, none⟩) ks n) := HCR.out.kept (bl_via HB.out hB5); clear hb5 hB5)
          go_ret
          first | exact ⟨false, rfl, ⟨fun h => Bool.noConfusion h, fun h => absurd (h i h1).2.2 (by simpa using g1)⟩, bl_via HB.out HB5.out⟩ | exact Or.inl ⟨rfl, fun h => absurd (h i h1).2.2 (by simpa using g1), bl_via HB.out HB5.out⟩
        · have HG1 : Hid (cnt L (ck ks i 0) (ck ks i 1) (ck ks i 2) (ck ks i 3) = 2) := by show _ = _; simpa using g1
          go_wp2_with (go_at_call 38; refine (CIN.out _ _ _ _ _ (bl_alloc HB.out)).mono ?_; rintro e5 w5 ⟨rfl, hb5⟩; have hB5 : Below wr.heap.size wr w5 := bl_via (bl_alloc (bl_refl _)) hb5; have HB5 : Hid (Below wr.heap.size wr w5) := hB5; have t0 : w5.cell? ⟨wr.heap.size, 0, none⟩ = some (.int .i64 (ck ks i 0)) := cl_kept hb5 (by simp [go_sem]); have t1 : w5.cell? ⟨wr.heap.size, 1, none⟩ = some (.int .i64 (ck ks i 1)) := cl_kept hb5 (by simp [go_sem]); have t2 : w5.cell? ⟨wr.heap.size, 2, none⟩ = some (.int .i64 (ck ks i 2)) := cl_kept hb5 (by simp [go_sem]); have t3 : w5.cell? ⟨wr.heap.size, 3, none⟩ = some (.int .i64 (ck ks i 3)) := cl_kept hb5 (by simp [go_sem]); have z5 : wr.heap.size < w5.heap.size := World.block_lt_of_cell? _ _ t0; have z6 : bb < w5.heap.size := Nat.lt_of_lt_of_le zb hB5.size; have HCR5 : Hid (CRow w5 (some ⟨bb, bo, none⟩) ks n) := HCR.out.kept (bl_via HB.out hB5); clear hb5 hB5)
          clear HCR
          have kc := Kin.cells w5
          have kn : Nonempty (Kin w5) := ⟨⟨w5, bl_refl _⟩⟩
          by_cases hi0 : i = 0
          · have q0 : ¬ (0 : Int) < (i : Int) := by omega
            have q1 : ¬ 0 < i := by omega
            have HI0 : Hid (i = 0) := hi0
            clear hi0
            refine wp_region_kin (by kernel_rfl) (by kernel_rfl) ?_
            repeat (go_big_quiet_step ((go_at_call 39; exact kin_of (compareEdges_any _ _ _ _ _ _ _ _ _))))
            refine wpQuiet_nil ?_
            intro wq hw'
            obtain ⟨nq, hw''⟩ := hw'
            have hq : Below w5.heap.size w5 wq := hw'' ▸ nq.h
            have HQ : Hid (Below w.heap.size w wq) := bl_via (bl_via HB.out HB5.out) hq
            have HQX : Hid (Below wr.heap.size wr wq) := bl_via HB5.out hq
            clear hw'' nq hq
            go_wp2
            go_roundg (n - (i + 1))
            case measure => omega
            case rel =>
              refine ⟨i + 1, by omega, rfl, by go_num, fun j hj => ?_, ⟨cl_kept HQX.out HP0.out.1, cl_kept HQX.out HP0.out.2.1, cl_kept HQX.out HP0.out.2.2⟩, HQ.out⟩
              by_cases ej : j = i
              · subst ej
                exact ⟨fun h => absurd h (by have := HI0.out; omega), Or.inl HK.out, HG1.out⟩
              · exact HP.out j (by omega)
          · have q0 : (0 : Int) < (i : Int) := by omega
            have q1 : 0 < i := by omega
            obtain ⟨m, hm⟩ : ∃ m, i = m + 1 := ⟨i - 1, by omega⟩
            have hmi : (i : Int) - 1 = (m : Int) := by omega
            have m1 : (m : Int) < (n : Int) := by omega
            have m0 : (0 : Int) ≤ (m : Int) := by omega
            obtain ⟨bb', bo', e', p0, p1, p2, p3, _⟩ := HCR5.out m (by omega)
            simp only [Option.some.injEq, Addr.mk.injEq, and_true] at e'
            obtain ⟨rfl, rfl⟩ := e'
            have HMM : Hid (i - 1 = m) := by show i - 1 = m; omega
            clear hi0 hm
            cases hless : lessE (ck ks m 0) (ck ks m 1) (ck ks m 2) (ck ks m 3) (ck ks i 0) (ck ks i 1) (ck ks i 2) (ck ks i 3)
            · have HL : Hid (¬ CrOk L ks i) := fun h => by
                have := h.1 q1
                rw [HMM.out, hless] at this
                exact Bool.noConfusion this
              have hc : (0 : Int) ≤ cmpE (ck ks m 0) (ck ks m 1) (ck ks m 2) (ck ks m 3) (ck ks i 0) (ck ks i 1) (ck ks i 2) (ck ks i 3) := by
                rcases Int.lt_or_le (cmpE (ck ks m 0) (ck ks m 1) (ck ks m 2) (ck ks m 3) (ck ks i 0) (ck ks i 1) (ck ks i 2) (ck ks i 3)) 0 with h | h
                · rw [cmpE_less, hless] at h
                  exact Bool.noConfusion h
                · exact h
              clear hless
              refine wp_region_kin (by kernel_rfl) (by kernel_rfl) ?_
              repeat (go_big_quiet_step ((go_at_call 39; exact kin_of (compareEdges_any _ _ _ _ _ _ _ _ _))))
              refine wpQuiet_nil ?_
              intro wq hw'
              obtain ⟨nq, hw''⟩ := hw'
              have hq : Below w5.heap.size w5 wq := hw'' ▸ nq.h
              have HQ : Hid (Below w.heap.size w wq) := bl_via (bl_via HB.out HB5.out) hq
              have HQX : Hid (Below wr.heap.size wr wq) := bl_via HB5.out hq
              clear hw'' nq hq
              go_wp2
              go_ret
              first | exact ⟨false, rfl, ⟨fun h => Bool.noConfusion h, fun h => absurd (h i h1) HL.out⟩, HQ.out⟩ | exact Or.inl ⟨rfl, fun h => absurd (h i h1) HL.out, HQ.out⟩
            · have HL : Hid (0 < i → lessE (ck ks (i - 1) 0) (ck ks (i - 1) 1) (ck ks (i - 1) 2) (ck ks (i - 1) 3) (ck ks i 0) (ck ks i 1) (ck ks i 2) (ck ks i 3) = true) := fun _ => by rw [HMM.out]; exact hless
              have hc : ¬ (0 : Int) ≤ cmpE (ck ks m 0) (ck ks m 1) (ck ks m 2) (ck ks m 3) (ck ks i 0) (ck ks i 1) (ck ks i 2) (ck ks i 3) := by
                have := (cmpE_less (ck ks m 0) (ck ks m 1) (ck ks m 2) (ck ks m 3) (ck ks i 0) (ck ks i 1) (ck ks i 2) (ck ks i 3)).2 hless
                omega
              clear hless
              refine wp_region_kin (by kernel_rfl) (by kernel_rfl) ?_
              repeat (go_big_quiet_step ((go_at_call 39; exact kin_of (compareEdges_any _ _ _ _ _ _ _ _ _))))
              refine wpQuiet_nil ?_
              intro wq hw'
              obtain ⟨nq, hw''⟩ := hw'
              have hq : Below w5.heap.size w5 wq := hw'' ▸ nq.h
              have HQ : Hid (Below w.heap.size w wq) := bl_via (bl_via HB.out HB5.out) hq
              have HQX : Hid (Below wr.heap.size wr wq) := bl_via HB5.out hq
              clear hw'' nq hq
              go_wp2
              go_roundg (n - (i + 1))
              case measure => omega
              case rel =>
                refine ⟨i + 1, by omega, rfl, by go_num, fun j hj => ?_, ⟨cl_kept HQX.out HP0.out.1, cl_kept HQX.out HP0.out.2.1, cl_kept HQX.out HP0.out.2.2⟩, HQ.out⟩
                by_cases ej : j = i
                · subst ej
                  exact ⟨HL.out, Or.inl HK.out, HG1.out⟩
                · exact HP.out j (by omega)

      · by_cases k2 : (ck ks i 4) = 2
        · have k1b : ((ck ks i 4) != 1) = true := by simpa using k1
          have k2b : ((ck ks i 4) != 2) = false := by simpa using k2
          have HK : Hid ((ck ks i 4) = 2) := k2
          clear k1 k2
          cases g1 : decide (cnt L (ck ks i 0) (ck ks i 1) (ck ks i 2) (ck ks i 3) = 2)
          · go_wp2_with (go_at_call 38; refine (CIN.out _ _ _ _ _ (bl_alloc HB.out)).mono ?_; rintro e5 w5 ⟨rfl, hb5⟩; have hB5 : Below wr.heap.size wr w5 := bl_via (bl_alloc (bl_refl _)) hb5; have HB5 : Hid (Below wr.heap.size wr w5) := hB5; have t0 : w5.cell? ⟨wr.heap.size, 0, none⟩ = some (.int .i64 (ck ks i 0)) := cl_kept hb5 (by simp [go_sem]); have t1 : w5.cell? ⟨wr.heap.size, 1, none⟩ = some (.int .i64 (ck ks i 1)) := cl_kept hb5 (by simp [go_sem]); have t2 : w5.cell? ⟨wr.heap.size, 2, none⟩ = some (.int .i64 (ck ks i 2)) := cl_kept hb5 (by simp [go_sem]); have t3 : w5.cell? ⟨wr.heap.size, 3, none⟩ = some (.int .i64 (ck ks i 3)) := cl_kept hb5 (by simp [go_sem]); have z5 : wr.heap.size < w5.heap.size := World.block_lt_of_cell? _ _ t0; have z6 : bb < w5.heap.size := Nat.lt_of_lt_of_le zb hB5.size; have HCR5 : Hid (CRow w5 (some ⟨bb, bo, none⟩) ks n) := HCR.out.kept (bl_via HB.out hB5); clear hb5 hB5)
            go_ret
            first | exact ⟨false, rfl, ⟨fun h => Bool.noConfusion h, fun h => absurd (h i h1).2.2 (by simpa using g1)⟩, bl_via HB.out HB5.out⟩ | exact Or.inl ⟨rfl, fun h => absurd (h i h1).2.2 (by simpa using g1), bl_via HB.out HB5.out⟩
          · have HG1 : Hid (cnt L (ck ks i 0) (ck ks i 1) (ck ks i 2) (ck ks i 3) = 2) := by show _ = _; simpa using g1
            go_wp2_with (go_at_call 38; refine (CIN.out _ _ _ _ _ (bl_alloc HB.out)).mono ?_; rintro e5 w5 ⟨rfl, hb5⟩; have hB5 : Below wr.heap.size wr w5 := bl_via (bl_alloc (bl_refl _)) hb5; have HB5 : Hid (Below wr.heap.size wr w5) := hB5; have t0 : w5.cell? ⟨wr.heap.size, 0, none⟩ = some (.int .i64 (ck ks i 0)) := cl_kept hb5 (by simp [go_sem]); have t1 : w5.cell? ⟨wr.heap.size, 1, none⟩ = some (.int .i64 (ck ks i 1)) := cl_kept hb5 (by simp [go_sem]); have t2 : w5.cell? ⟨wr.heap.size, 2, none⟩ = some (.int .i64 (ck ks i 2)) := cl_kept hb5 (by simp [go_sem]); have t3 : w5.cell? ⟨wr.heap.size, 3, none⟩ = some (.int .i64 (ck ks i 3)) := cl_kept hb5 (by simp [go_sem]); have z5 : wr.heap.size < w5.heap.size := World.block_lt_of_cell? _ _ t0; have z6 : bb < w5.heap.size := Nat.lt_of_lt_of_le zb hB5.size; have HCR5 : Hid (CRow w5 (some ⟨bb, bo, none⟩) ks n) := HCR.out.kept (bl_via HB.out hB5); clear hb5 hB5)
            clear HCR
            have kc := Kin.cells w5
            have kn : Nonempty (Kin w5) := ⟨⟨w5, bl_refl _⟩⟩
            by_cases hi0 : i = 0
            · have q0 : ¬ (0 : Int) < (i : Int) := by omega
              have q1 : ¬ 0 < i := by omega
              have HI0 : Hid (i = 0) := hi0
              clear hi0
              refine wp_region_kin (by kernel_rfl) (by kernel_rfl) ?_
              repeat (go_big_quiet_step ((go_at_call 39; exact kin_of (compareEdges_any _ _ _ _ _ _ _ _ _))))
              refine wpQuiet_nil ?_
              intro wq hw'
              obtain ⟨nq, hw''⟩ := hw'
              have hq : Below w5.heap.size w5 wq := hw'' ▸ nq.h
              have HQ : Hid (Below w.heap.size w wq) := bl_via (bl_via HB.out HB5.out) hq
              have HQX : Hid (Below wr.heap.size wr wq) := bl_via HB5.out hq
              clear hw'' nq hq
              go_wp2
              go_roundg (n - (i + 1))
              case measure => omega
              case rel =>
                refine ⟨i + 1, by omega, rfl, by go_num, fun j hj => ?_, ⟨cl_kept HQX.out HP0.out.1, cl_kept HQX.out HP0.out.2.1, cl_kept HQX.out HP0.out.2.2⟩, HQ.out⟩
                by_cases ej : j = i
                · subst ej
                  exact ⟨fun h => absurd h (by have := HI0.out; omega), Or.inr HK.out, HG1.out⟩
                · exact HP.out j (by omega)
            · have q0 : (0 : Int) < (i : Int) := by omega
              have q1 : 0 < i := by omega
              obtain ⟨m, hm⟩ : ∃ m, i = m + 1 := ⟨i - 1, by omega⟩
              have hmi : (i : Int) - 1 = (m : Int) := by omega
              have m1 : (m : Int) < (n : Int) := by omega
              have m0 : (0 : Int) ≤ (m : Int) := by omega
              obtain ⟨bb', bo', e', p0, p1, p2, p3, _⟩ := HCR5.out m (by omega)
              simp only [Option.some.injEq, Addr.mk.injEq, and_true] at e'
              obtain ⟨rfl, rfl⟩ := e'
              have HMM : Hid (i - 1 = m) := by show i - 1 = m; omega
              clear hi0 hm
              cases hless : lessE (ck ks m 0) (ck ks m 1) (ck ks m 2) (ck ks m 3) (ck ks i 0) (ck ks i 1) (ck ks i 2) (ck ks i 3)
              · have HL : Hid (¬ CrOk L ks i) := fun h => by
                  have := h.1 q1
                  rw [HMM.out, hless] at this
                  exact Bool.noConfusion this
                have hc : (0 : Int) ≤ cmpE (ck ks m 0) (ck ks m 1) (ck ks m 2) (ck ks m 3) (ck ks i 0) (ck ks i 1) (ck ks i 2) (ck ks i 3) := by
                  rcases Int.lt_or_le (cmpE (ck ks m 0) (ck ks m 1) (ck ks m 2) (ck ks m 3) (ck ks i 0) (ck ks i 1) (ck ks i 2) (ck ks i 3)) 0 with h | h
                  · rw [cmpE_less, hless] at h
                    exact Bool.noConfusion h
                  · exact h
                clear hless
                refine wp_region_kin (by kernel_rfl) (by kernel_rfl) ?_
                repeat (go_big_quiet_step ((go_at_call 39; exact kin_of (compareEdges_any _ _ _ _ _ _ _ _ _))))
                refine wpQuiet_nil ?_
                intro wq hw'
                obtain ⟨nq, hw''⟩ := hw'
                have hq : Below w5.heap.size w5 wq := hw'' ▸ nq.h
                have HQ : Hid (Below w.heap.size w wq) := bl_via (bl_via HB.out HB5.out) hq
                have HQX : Hid (Below wr.heap.size wr wq) := bl_via HB5.out hq
                clear hw'' nq hq
                go_wp2
                go_ret
                first | exact ⟨false, rfl, ⟨fun h => Bool.noConfusion h, fun h => absurd (h i h1) HL.out⟩, HQ.out⟩ | exact Or.inl ⟨rfl, fun h => absurd (h i h1) HL.out, HQ.out⟩
              · have HL : Hid (0 < i → lessE (ck ks (i - 1) 0) (ck ks (i - 1) 1) (ck ks (i - 1) 2) (ck ks (i - 1) 3) (ck ks i 0) (ck ks i 1) (ck ks i 2) (ck ks i 3) = true) := fun _ => by rw [HMM.out]; exact hless
                have hc : ¬ (0 : Int) ≤ cmpE (ck ks m 0) (ck ks m 1) (ck ks m 2) (ck ks m 3) (ck ks i 0) (ck ks i 1) (ck ks i 2) (ck ks i 3) := by
                  have := (cmpE_less (ck ks m 0) (ck ks m 1) (ck ks m 2) (ck ks m 3) (ck ks i 0) (ck ks i 1) (ck ks i 2) (ck ks i 3)).2 hless
                  omega
                clear hless
                refine wp_region_kin (by kernel_rfl) (by kernel_rfl) ?_
                repeat (go_big_quiet_step ((go_at_call 39; exact kin_of (compareEdges_any _ _ _ _ _ _ _ _ _))))
                refine wpQuiet_nil ?_
                intro wq hw'
                obtain ⟨nq, hw''⟩ := hw'
                have hq : Below w5.heap.size w5 wq := hw'' ▸ nq.h
                have HQ : Hid (Below w.heap.size w wq) := bl_via (bl_via HB.out HB5.out) hq
                have HQX : Hid (Below wr.heap.size wr wq) := bl_via HB5.out hq
                clear hw'' nq hq
                go_wp2
                go_roundg (n - (i + 1))
                case measure => omega
                case rel =>
                  refine ⟨i + 1, by omega, rfl, by go_num, fun j hj => ?_, ⟨cl_kept HQX.out HP0.out.1, cl_kept HQX.out HP0.out.2.1, cl_kept HQX.out HP0.out.2.2⟩, HQ.out⟩
                  by_cases ej : j = i
                  · subst ej
                    exact ⟨HL.out, Or.inr HK.out, HG1.out⟩
                  · exact HP.out j (by omega)

        · have k1b : ((ck ks i 4) != 1) = true := by simpa using k1
          have k2b : ((ck ks i 4) != 2) = true := by simpa using k2
          have HK : Hid (¬ ((ck ks i 4) = 1 ∨ (ck ks i 4) = 2)) := by rintro (h | h) <;> contradiction
          clear k1 k2
          go_wp2
          go_ret
          first | exact ⟨false, rfl, ⟨fun h => Bool.noConfusion h, fun h => absurd (h i h1).2.1 HK.out⟩, bl_alloc HB.out⟩ | exact Or.inl ⟨rfl, fun h => absurd (h i h1).2.1 HK.out, bl_alloc HB.out⟩
    · have i1 : ¬ (i : Int) < (n : Int) := by omega
      go_wp2
      go_ret
      first | exact ⟨true, rfl, ⟨fun _ j hj => HP.out j (by omega), fun _ => rfl⟩, HB.out⟩ | exact Or.inr ⟨rfl, fun j hj => HP.out j (by omega), HB.out⟩
end Go.Proofs.YtehmoacggikfmaaDoor
