import Derived.Test.YthkhiedpkmpifaaDoorPkaj
import Derived.Test.YthkhiedpkmpifaaDoorPkan
/- May a paper's creases be? -/
namespace Go.Proofs.YthkhiedpkmpifaaDoor
open Go.RowKit Go.ChangeMaps

theorem gix_cnt (l : List (Int × Int × Int)) (p q r s : Int) : ∀ n, n ≤ l.length → (gix (l.take n) (p, q, r, s)).length = cnt (l.take n) p q r s
  | 0, _ => by simp [gix, cnt]
  | n + 1, h => by
    have ih := gix_cnt l p q r s n (by omega)
    rw [cnt_next (by omega), List.take_succ_eq_append_getElem (by omega), gix_snoc, List.length_append, ih]
    congr 1
    unfold hasT
    split <;> rfl
theorem gix_count (l : List (Int × Int × Int)) (p q r s : Int) : (gix l (p, q, r, s)).length = cnt l p q r s := by
  have := gix_cnt l p q r s l.length (Nat.le_refl _)
  rwa [List.take_length] at this

set_option maxHeartbeats 1600000 in
theorem inner_any (w : World) (cc ra rk : Nat) (ad : Option Addr) (L : List (Int × Int × Int)) (p q r s : Int) (hPA : PA w ad ra L) :
    Calls Tryd.prog 107 #[.agg #[.slice ad L.length cc, .map (some ra), .map (some rk)], .agg #[.int .i64 p, .int .i64 q, .int .i64 r, .int .i64 s]] w fun e w' => e = .returned (.bool (decide (cnt L p q r s = 2))) ∧ Below w.heap.size w w' := by
  obtain ⟨a, cap, _, hl⟩ := hPA.2 (p, q, r, s)
  have hl2 : (Instr.lookup 103 (.map (some ra)) (.agg #[.int .i64 p, .int .i64 q, .int .i64 r, .int .i64 s]) false).run Tryd.prog ((w.alloc (.cells #[.slice ad L.length cc, .map (some ra), .map (some rk)] 106)).alloc (.cells #[.int .i64 p, .int .i64 q, .int .i64 r, .int .i64 s] 27)) = .ok (.slice a (gix L (p, q, r, s)).length cap) ((w.alloc (.cells #[.slice ad L.length cc, .map (some ra), .map (some rk)] 106)).alloc (.cells #[.int .i64 p, .int .i64 q, .int .i64 r, .int .i64 s] 27)) := hl _ (bl_alloc (bl_alloc (bl_refl _)))
  clear hl
  have HC : Hid ((gix L (p, q, r, s)).length = cnt L p q r s) := gix_count L p q r s
  go_enter Tryd.func107, Tryd.ntmps107
  go_wp2
  go_ret
  refine ⟨ret_bool ?_, bl_alloc (bl_alloc (bl_refl _))⟩
  rw [HC.out, Bool.eq_iff_iff]
  simp
  omega

set_option maxRecDepth 100000 in
set_option maxHeartbeats 6400000 in
theorem mayCreases_any (w : World) (cc ra rk n ccap : Nat) (ad cb : Option Addr) (L : List (Int × Int × Int)) (ks : List Int) (hPA : PA w ad ra L) (hk : Row w cb ks) (hn : ks.length = n * 5) (hn2 : n ≤ 3518437208883) :
    Calls Tryd.prog 96 #[.agg #[.slice ad L.length cc, .map (some ra), .map (some rk)], .slice cb n ccap] w fun e w' => ∃ bb : Bool, e = .returned (.bool bb) ∧ (bb = true ↔ ∀ i, i < n → CrOk L ks i) ∧ Below w.heap.size w w' := by
  have HCR : Hid (CRow w cb ks n) := row_crow hk hn
  have CIN : Hid (∀ (p q r s : Int) (wx : World), Below w.heap.size w wx → Calls Tryd.prog 107 #[.agg #[.slice ad L.length cc, .map (some ra), .map (some rk)], .agg #[.int .i64 p, .int .i64 q, .int .i64 r, .int .i64 s]] wx fun e w' => e = .returned (.bool (decide (cnt L p q r s = 2))) ∧ Below wx.heap.size wx w') := fun p q r s wx hb => inner_any wx cc ra rk ad L p q r s (hPA.kept hb)
  clear hPA hk hn
  go_enter Tryd.func96, Tryd.ntmps96
  go_wp2
  go_loopg [9] n (fun gk s9 wx => ∃ i : Nat, i ≤ n ∧ gk = n - i ∧ s9 = .int .i64 (i : Int) ∧ (∀ j, j < i → CrOk L ks j) ∧ (wx.cell? ⟨w.heap.size, 0, none⟩ = some (.slice ad L.length cc) ∧ wx.cell? ⟨w.heap.size, 1, none⟩ = some (.map (some ra)) ∧ wx.cell? ⟨w.heap.size, 2, none⟩ = some (.map (some rk))) ∧ Below w.heap.size w wx)
  case atStart => exact ⟨0, by omega, rfl, rfl, fun j h => by omega, by simp [go_sem], bl_alloc (bl_refl _)⟩
  case round =>
    obtain ⟨i, hi, rfl, rfl, hp, hP0, hB⟩ := hrel
    have HP : Hid (∀ j, j < i → CrOk L ks j) := hp
    have HP0 : Hid (wr.cell? ⟨w.heap.size, 0, none⟩ = some (.slice ad L.length cc) ∧ wr.cell? ⟨w.heap.size, 1, none⟩ = some (.map (some ra)) ∧ wr.cell? ⟨w.heap.size, 2, none⟩ = some (.map (some rk))) := hP0
    have HB : Hid (Below w.heap.size w wr) := hB
    obtain ⟨s0, s1, s2⟩ := hP0
    have zs0 : w.heap.size < wr.heap.size := World.block_lt_of_cell? _ _ s0
    clear hp hB
    by_cases h1 : i < n
    · have i1 : (i : Int) < (n : Int) := by omega
      have i0 : (0 : Int) ≤ (i : Int) := by omega
      obtain ⟨bb, bo, rfl, c0, c1, c2, c3, c4⟩ := (HCR.out.kept HB.out) i h1
      have zb : bb < wr.heap.size := World.block_lt_of_cell? _ _ c0
      by_cases k1 : (ck ks i 4) = 1
      · have k1b : ((ck ks i 4) != 1) = false := by simpa using k1
        have HK : Hid ((ck ks i 4) = 1) := k1
        clear k1
        cases g1 : decide (cnt L (ck ks i 0) (ck ks i 1) (ck ks i 2) (ck ks i 3) = 2)
        · go_wp2_with (go_at_call 107; refine (CIN.out _ _ _ _ _ (bl_alloc HB.out)).mono ?_; rintro e5 w5 ⟨rfl, hb5⟩; have hB5 : Below wr.heap.size wr w5 := bl_via (bl_alloc (bl_refl _)) hb5; have HB5 : Hid (Below wr.heap.size wr w5) := hB5; have t0 : w5.cell? ⟨wr.heap.size, 0, none⟩ = some (.int .i64 (ck ks i 0)) := cl_kept hb5 (by simp [go_sem]); have t1 : w5.cell? ⟨wr.heap.size, 1, none⟩ = some (.int .i64 (ck ks i 1)) := cl_kept hb5 (by simp [go_sem]); have t2 : w5.cell? ⟨wr.heap.size, 2, none⟩ = some (.int .i64 (ck ks i 2)) := cl_kept hb5 (by simp [go_sem]); have t3 : w5.cell? ⟨wr.heap.size, 3, none⟩ = some (.int .i64 (ck ks i 3)) := cl_kept hb5 (by simp [go_sem]); have z5 : wr.heap.size < w5.heap.size := World.block_lt_of_cell? _ _ t0; have z6 : bb < w5.heap.size := Nat.lt_of_lt_of_le zb hB5.size; have HCR5 : Hid (CRow w5 (some ⟨bb, bo, none⟩) ks n) := HCR.out.kept (bl_via HB.out hB5); clear hb5 hB5)
          go_ret
          first | exact ⟨false, rfl, ⟨fun h => Bool.noConfusion h, fun h => absurd (h i h1).2.2 (by simpa using g1)⟩, bl_via HB.out HB5.out⟩ | exact Or.inl ⟨rfl, fun h => absurd (h i h1).2.2 (by simpa using g1), bl_via HB.out HB5.out⟩
        · have HG1 : Hid (cnt L (ck ks i 0) (ck ks i 1) (ck ks i 2) (ck ks i 3) = 2) := by show _ = _; simpa using g1
          go_wp2_with (go_at_call 107; refine (CIN.out _ _ _ _ _ (bl_alloc HB.out)).mono ?_; rintro e5 w5 ⟨rfl, hb5⟩; have hB5 : Below wr.heap.size wr w5 := bl_via (bl_alloc (bl_refl _)) hb5; have HB5 : Hid (Below wr.heap.size wr w5) := hB5; have t0 : w5.cell? ⟨wr.heap.size, 0, none⟩ = some (.int .i64 (ck ks i 0)) := cl_kept hb5 (by simp [go_sem]); have t1 : w5.cell? ⟨wr.heap.size, 1, none⟩ = some (.int .i64 (ck ks i 1)) := cl_kept hb5 (by simp [go_sem]); have t2 : w5.cell? ⟨wr.heap.size, 2, none⟩ = some (.int .i64 (ck ks i 2)) := cl_kept hb5 (by simp [go_sem]); have t3 : w5.cell? ⟨wr.heap.size, 3, none⟩ = some (.int .i64 (ck ks i 3)) := cl_kept hb5 (by simp [go_sem]); have z5 : wr.heap.size < w5.heap.size := World.block_lt_of_cell? _ _ t0; have z6 : bb < w5.heap.size := Nat.lt_of_lt_of_le zb hB5.size; have HCR5 : Hid (CRow w5 (some ⟨bb, bo, none⟩) ks n) := HCR.out.kept (bl_via HB.out hB5); clear hb5 hB5)
          clear HCR
          have kc := Kin.cells w5
          have kn : Nonempty (Kin w5) := ⟨⟨w5, bl_refl _⟩⟩
          by_cases hi0 : i = 0
          · have q0 : ¬ (0 : Int) < (i : Int) := by omega
            have q1 : ¬ 0 < i := by omega
            have HI0 : Hid (i = 0) := hi0
            clear hi0
            refine wp_region_kin (by kernel_rfl) (by kernel_rfl) ?_
            repeat (go_big_quiet_step ((go_at_call 108; exact kin_of (compareEdges_any _ _ _ _ _ _ _ _ _))))
            refine wpQuiet_nil ?_
            intro wq hw'
            obtain ⟨nq, hw''⟩ := hw'
            have hq : Below w5.heap.size w5 wq := hw'' ▸ nq.h
            have HQ : Hid (Below w.heap.size w wq) := bl_via (bl_via HB.out HB5.out) hq
            have HQX : Hid (Below wr.heap.size wr wq) := bl_via HB5.out hq
            clear hw'' nq hq
            go_wp2
            go_roundg (n - (i + 1))
            case measure => omega
            case rel =>
              refine ⟨i + 1, by omega, rfl, by go_num, fun j hj => ?_, ⟨cl_kept HQX.out HP0.out.1, cl_kept HQX.out HP0.out.2.1, cl_kept HQX.out HP0.out.2.2⟩, HQ.out⟩
              by_cases ej : j = i
              · subst ej
                exact ⟨fun h => absurd h (by have := HI0.out; omega), Or.inl HK.out, HG1.out⟩
              · exact HP.out j (by omega)
          · have q0 : (0 : Int) < (i : Int) := by omega
            have q1 : 0 < i := by omega
            obtain ⟨m, hm⟩ : ∃ m, i = m + 1 := ⟨i - 1, by omega⟩
            have hmi : (i : Int) - 1 = (m : Int) := by omega
            have m1 : (m : Int) < (n : Int) := by omega
            have m0 : (0 : Int) ≤ (m : Int) := by omega
            obtain ⟨bb', bo', e', p0, p1, p2, p3, _⟩ := HCR5.out m (by omega)
            simp only [Option.some.injEq, Addr.mk.injEq, and_true] at e'
            obtain ⟨rfl, rfl⟩ := e'
            have HMM : Hid (i - 1 = m) := by show i - 1 = m; omega
            clear hi0 hm
            cases hless : lessE (ck ks m 0) (ck ks m 1) (ck ks m 2) (ck ks m 3) (ck ks i 0) (ck ks i 1) (ck ks i 2) (ck ks i 3)
            · have HL : Hid (¬ CrOk L ks i) := fun h => by
                have := h.1 q1
                rw [HMM.out, hless] at this
                exact Bool.noConfusion this
              have hc : (0 : Int) ≤ cmpE (ck ks m 0) (ck ks m 1) (ck ks m 2) (ck ks m 3) (ck ks i 0) (ck ks i 1) (ck ks i 2) (ck ks i 3) := by
                rcases Int.lt_or_le (cmpE (ck ks m 0) (ck ks m 1) (ck ks m 2) (ck ks m 3) (ck ks i 0) (ck ks i 1) (ck ks i 2) (ck ks i 3)) 0 with h | h
                · rw [cmpE_less, hless] at h
                  exact Bool.noConfusion h
                · exact h
              clear hless
              refine wp_region_kin (by kernel_rfl) (by kernel_rfl) ?_
              repeat (go_big_quiet_step ((go_at_call 108; exact kin_of (compareEdges_any _ _ _ _ _ _ _ _ _))))
              refine wpQuiet_nil ?_
              intro wq hw'
              obtain ⟨nq, hw''⟩ := hw'
              have hq : Below w5.heap.size w5 wq := hw'' ▸ nq.h
              have HQ : Hid (Below w.heap.size w wq) := bl_via (bl_via HB.out HB5.out) hq
              have HQX : Hid (Below wr.heap.size wr wq) := bl_via HB5.out hq
              clear hw'' nq hq
              go_wp2
              go_ret
              first | exact ⟨false, rfl, ⟨fun h => Bool.noConfusion h, fun h => absurd (h i h1) HL.out⟩, HQ.out⟩ | exact Or.inl ⟨rfl, fun h => absurd (h i h1) HL.out, HQ.out⟩
            · have HL : Hid (0 < i → lessE (ck ks (i - 1) 0) (ck ks (i - 1) 1) (ck ks (i - 1) 2) (ck ks (i - 1) 3) (ck ks i 0) (ck ks i 1) (ck ks i 2) (ck ks i 3) = true) := fun _ => by rw [HMM.out]; exact hless
              have hc : ¬ (0 : Int) ≤ cmpE (ck ks m 0) (ck ks m 1) (ck ks m 2) (ck ks m 3) (ck ks i 0) (ck ks i 1) (ck ks i 2) (ck ks i 3) := by
                have := (cmpE_less (ck ks m 0) (ck ks m 1) (ck ks m 2) (ck ks m 3) (ck ks i 0) (ck ks i 1) (ck ks i 2) (ck ks i 3)).2 hless
                omega
              clear hless
              refine wp_region_kin (by kernel_rfl) (by kernel_rfl) ?_
              repeat (go_big_quiet_step ((go_at_call 108; exact kin_of (compareEdges_any _ _ _ _ _ _ _ _ _))))
              refine wpQuiet_nil ?_
              intro wq hw'
              obtain ⟨nq, hw''⟩ := hw'
              have hq : Below w5.heap.size w5 wq := hw'' ▸ nq.h
              have HQ : Hid (Below w.heap.size w wq) := bl_via (bl_via HB.out HB5.out) hq
              have HQX : Hid (Below wr.heap.size wr wq) := bl_via HB5.out hq
              clear hw'' nq hq
              go_wp2
              go_roundg (n - (i + 1))
              case measure => omega
              case rel =>
                refine ⟨i + 1, by omega, rfl, by go_num, fun j hj => ?_, ⟨cl_kept HQX.out HP0.out.1, cl_kept HQX.out HP0.out.2.1, cl_kept HQX.out HP0.out.2.2⟩, HQ.out⟩
                by_cases ej : j = i
                · subst ej
                  exact ⟨HL.out, Or.inl HK.out, HG1.out⟩
                · exact HP.out j (by omega)

      · by_cases k2 : (ck ks i 4) = 2
        · have k1b : ((ck ks i 4) != 1) = true := by simpa using k1
          have k2b : ((ck ks i 4) != 2) = false := by simpa using k2
          have HK : Hid ((ck ks i 4) = 2) := k2
          clear k1 k2
          cases g1 : decide (cnt L (ck ks i 0) (ck ks i 1) (ck ks i 2) (ck ks i 3) = 2)
          · go_wp2_with (go_at_call 107; refine (CIN.out _ _ _ _ _ (bl_alloc HB.out)).mono ?_; rintro e5 w5 ⟨rfl, hb5⟩; have hB5 : Below wr.heap.size wr w5 := bl_via (bl_alloc (bl_refl _)) hb5; have HB5 : Hid (Below wr.heap.size wr w5) := hB5; have t0 : w5.cell? ⟨wr.heap.size, 0, none⟩ = some (.int .i64 (ck ks i 0)) := cl_kept hb5 (by simp [go_sem]); have t1 : w5.cell? ⟨wr.heap.size, 1, none⟩ = some (.int .i64 (ck ks i 1)) := cl_kept hb5 (by simp [go_sem]); have t2 : w5.cell? ⟨wr.heap.size, 2, none⟩ = some (.int .i64 (ck ks i 2)) := cl_kept hb5 (by simp [go_sem]); have t3 : w5.cell? ⟨wr.heap.size, 3, none⟩ = some (.int .i64 (ck ks i 3)) := cl_kept hb5 (by simp [go_sem]); have z5 : wr.heap.size < w5.heap.size := World.block_lt_of_cell? _ _ t0; have z6 : bb < w5.heap.size := Nat.lt_of_lt_of_le zb hB5.size; have HCR5 : Hid (CRow w5 (some ⟨bb, bo, none⟩) ks n) := HCR.out.kept (bl_via HB.out hB5); clear hb5 hB5)
            go_ret
            first | exact ⟨false, rfl, ⟨fun h => Bool.noConfusion h, fun h => absurd (h i h1).2.2 (by simpa using g1)⟩, bl_via HB.out HB5.out⟩ | exact Or.inl ⟨rfl, fun h => absurd (h i h1).2.2 (by simpa using g1), bl_via HB.out HB5.out⟩
          · have HG1 : Hid (cnt L (ck ks i 0) (ck ks i 1) (ck ks i 2) (ck ks i 3) = 2) := by show _ = _; simpa using g1
            go_wp2_with (go_at_call 107; refine (CIN.out _ _ _ _ _ (bl_alloc HB.out)).mono ?_; rintro e5 w5 ⟨rfl, hb5⟩; have hB5 : Below wr.heap.size wr w5 := bl_via (bl_alloc (bl_refl _)) hb5; have HB5 : Hid (Below wr.heap.size wr w5) := hB5; have t0 : w5.cell? ⟨wr.heap.size, 0, none⟩ = some (.int .i64 (ck ks i 0)) := cl_kept hb5 (by simp [go_sem]); have t1 : w5.cell? ⟨wr.heap.size, 1, none⟩ = some (.int .i64 (ck ks i 1)) := cl_kept hb5 (by simp [go_sem]); have t2 : w5.cell? ⟨wr.heap.size, 2, none⟩ = some (.int .i64 (ck ks i 2)) := cl_kept hb5 (by simp [go_sem]); have t3 : w5.cell? ⟨wr.heap.size, 3, none⟩ = some (.int .i64 (ck ks i 3)) := cl_kept hb5 (by simp [go_sem]); have z5 : wr.heap.size < w5.heap.size := World.block_lt_of_cell? _ _ t0; have z6 : bb < w5.heap.size := Nat.lt_of_lt_of_le zb hB5.size; have HCR5 : Hid (CRow w5 (some ⟨bb, bo, none⟩) ks n) := HCR.out.kept (bl_via HB.out hB5); clear hb5 hB5)
            clear HCR
            have kc := Kin.cells w5
            have kn : Nonempty (Kin w5) := ⟨⟨w5, bl_refl _⟩⟩
            by_cases hi0 : i = 0
            · have q0 : ¬ (0 : Int) < (i : Int) := by omega
              have q1 : ¬ 0 < i := by omega
              have HI0 : Hid (i = 0) := hi0
              clear hi0
              refine wp_region_kin (by kernel_rfl) (by kernel_rfl) ?_
              repeat (go_big_quiet_step ((go_at_call 108; exact kin_of (compareEdges_any _ _ _ _ _ _ _ _ _))))
              refine wpQuiet_nil ?_
              intro wq hw'
              obtain ⟨nq, hw''⟩ := hw'
              have hq : Below w5.heap.size w5 wq := hw'' ▸ nq.h
              have HQ : Hid (Below w.heap.size w wq) := bl_via (bl_via HB.out HB5.out) hq
              have HQX : Hid (Below wr.heap.size wr wq) := bl_via HB5.out hq
              clear hw'' nq hq
              go_wp2
              go_roundg (n - (i + 1))
              case measure => omega
              case rel =>
                refine ⟨i + 1, by omega, rfl, by go_num, fun j hj => ?_, ⟨cl_kept HQX.out HP0.out.1, cl_kept HQX.out HP0.out.2.1, cl_kept HQX.out HP0.out.2.2⟩, HQ.out⟩
                by_cases ej : j = i
                · subst ej
                  exact ⟨fun h => absurd h (by have := HI0.out; omega), Or.inr HK.out, HG1.out⟩
                · exact HP.out j (by omega)
            · have q0 : (0 : Int) < (i : Int) := by omega
              have q1 : 0 < i := by omega
              obtain ⟨m, hm⟩ : ∃ m, i = m + 1 := ⟨i - 1, by omega⟩
              have hmi : (i : Int) - 1 = (m : Int) := by omega
              have m1 : (m : Int) < (n : Int) := by omega
              have m0 : (0 : Int) ≤ (m : Int) := by omega
              obtain ⟨bb', bo', e', p0, p1, p2, p3, _⟩ := HCR5.out m (by omega)
              simp only [Option.some.injEq, Addr.mk.injEq, and_true] at e'
              obtain ⟨rfl, rfl⟩ := e'
              have HMM : Hid (i - 1 = m) := by show i - 1 = m; omega
              clear hi0 hm
              cases hless : lessE (ck ks m 0) (ck ks m 1) (ck ks m 2) (ck ks m 3) (ck ks i 0) (ck ks i 1) (ck ks i 2) (ck ks i 3)
              · have HL : Hid (¬ CrOk L ks i) := fun h => by
                  have := h.1 q1
                  rw [HMM.out, hless] at this
                  exact Bool.noConfusion this
                have hc : (0 : Int) ≤ cmpE (ck ks m 0) (ck ks m 1) (ck ks m 2) (ck ks m 3) (ck ks i 0) (ck ks i 1) (ck ks i 2) (ck ks i 3) := by
                  rcases Int.lt_or_le (cmpE (ck ks m 0) (ck ks m 1) (ck ks m 2) (ck ks m 3) (ck ks i 0) (ck ks i 1) (ck ks i 2) (ck ks i 3)) 0 with h | h
                  · rw [cmpE_less, hless] at h
                    exact Bool.noConfusion h
                  · exact h
                clear hless
                refine wp_region_kin (by kernel_rfl) (by kernel_rfl) ?_
                repeat (go_big_quiet_step ((go_at_call 108; exact kin_of (compareEdges_any _ _ _ _ _ _ _ _ _))))
                refine wpQuiet_nil ?_
                intro wq hw'
                obtain ⟨nq, hw''⟩ := hw'
                have hq : Below w5.heap.size w5 wq := hw'' ▸ nq.h
                have HQ : Hid (Below w.heap.size w wq) := bl_via (bl_via HB.out HB5.out) hq
                have HQX : Hid (Below wr.heap.size wr wq) := bl_via HB5.out hq
                clear hw'' nq hq
                go_wp2
                go_ret
                first | exact ⟨false, rfl, ⟨fun h => Bool.noConfusion h, fun h => absurd (h i h1) HL.out⟩, HQ.out⟩ | exact Or.inl ⟨rfl, fun h => absurd (h i h1) HL.out, HQ.out⟩
              · have HL : Hid (0 < i → lessE (ck ks (i - 1) 0) (ck ks (i - 1) 1) (ck ks (i - 1) 2) (ck ks (i - 1) 3) (ck ks i 0) (ck ks i 1) (ck ks i 2) (ck ks i 3) = true) := fun _ => by rw [HMM.out]; exact hless
                have hc : ¬ (0 : Int) ≤ cmpE (ck ks m 0) (ck ks m 1) (ck ks m 2) (ck ks m 3) (ck ks i 0) (ck ks i 1) (ck ks i 2) (ck ks i 3) := by
                  have := (cmpE_less (ck ks m 0) (ck ks m 1) (ck ks m 2) (ck ks m 3) (ck ks i 0) (ck ks i 1) (ck ks i 2) (ck ks i 3)).2 hless
                  omega
                clear hless
                refine wp_region_kin (by kernel_rfl) (by kernel_rfl) ?_
                repeat (go_big_quiet_step ((go_at_call 108; exact kin_of (compareEdges_any _ _ _ _ _ _ _ _ _))))
                refine wpQuiet_nil ?_
                intro wq hw'
                obtain ⟨nq, hw''⟩ := hw'
                have hq : Below w5.heap.size w5 wq := hw'' ▸ nq.h
                have HQ : Hid (Below w.heap.size w wq) := bl_via (bl_via HB.out HB5.out) hq
                have HQX : Hid (Below wr.heap.size wr wq) := bl_via HB5.out hq
                clear hw'' nq hq
                go_wp2
                go_roundg (n - (i + 1))
                case measure => omega
                case rel =>
                  refine ⟨i + 1, by omega, rfl, by go_num, fun j hj => ?_, ⟨cl_kept HQX.out HP0.out.1, cl_kept HQX.out HP0.out.2.1, cl_kept HQX.out HP0.out.2.2⟩, HQ.out⟩
                  by_cases ej : j = i
                  · subst ej
                    exact ⟨HL.out, Or.inr HK.out, HG1.out⟩
                  · exact HP.out j (by omega)

        · have k1b : ((ck ks i 4) != 1) = true := by simpa using k1
          have k2b : ((ck ks i 4) != 2) = true := by simpa using k2
          have HK : Hid (¬ ((ck ks i 4) = 1 ∨ (ck ks i 4) = 2)) := by rintro (h | h) <;> contradiction
          clear k1 k2
          go_wp2
          go_ret
          first | exact ⟨false, rfl, ⟨fun h => Bool.noConfusion h, fun h => absurd (h i h1).2.1 HK.out⟩, bl_alloc HB.out⟩ | exact Or.inl ⟨rfl, fun h => absurd (h i h1).2.1 HK.out, bl_alloc HB.out⟩
    · have i1 : ¬ (i : Int) < (n : Int) := by omega
      go_wp2
      go_ret
      first | exact ⟨true, rfl, ⟨fun _ j hj => HP.out j (by omega), fun _ => rfl⟩, HB.out⟩ | exact Or.inr ⟨rfl, fun j hj => HP.out j (by omega), HB.out⟩
end Go.Proofs.YthkhiedpkmpifaaDoor

/- A sheet that may be is laid out; one that may not be is not. -/
namespace Go.Proofs.YthkhiedpkmpifaaDoor
open Go.RowKit Go.ChangeMaps

/-- A paper that is laid out: its triangles, of each edge which have it, of each creased edge its kind; all of it newer than w0. -/
def PK (w0 w : World) (base ra rk : Nat) (vt : Value) (L : List (Int × Int × Int)) (G : Int × Int × Int × Int → List Int) (kd : Int × Int × Int × Int → Option Value) : Prop :=
  w.ownsRow base 23 3 vt L.length (flatV L) ∧ GP w base ra vt G ∧ (∃ ls c, EM w rk ls c ∧ Good ls c ∧ ∀ e, lk ls e = kd e) ∧ (w0.heap.size ≤ ra ∧ ra < base ∧ w0.heap.size ≤ rk ∧ rk < base ∧ ra ≠ rk ∧ base ≤ w.heap.size ∧ w0.heap.size ≤ base) ∧ Below w0.heap.size w0 w
theorem PP.pk {w0 w : World} {base pb ra rk : Nat} {vt : Value} {L : List (Int × Int × Int)} {G : Int × Int × Int × Int → List Int} (h : PP w0 w base pb ra rk vt L G) : PK w0 w base ra rk vt L G (fun _ => none) := by
  obtain ⟨h1, h2, h3, ⟨c, h4, h4g⟩, ⟨a1, a2, a3, a4, a5, a6, a7, a8⟩, h6⟩ := h
  exact ⟨h2, h3, ⟨[], c, h4, h4g, fun e => rfl⟩, ⟨a3, a4, a5, a6, a7, a8, by omega⟩, h6⟩
theorem PK.kept {w0 w w' : World} {base ra rk : Nat} {vt : Value} {L : List (Int × Int × Int)} {G : Int × Int × Int × Int → List Int} {kd : Int × Int × Int × Int → Option Value} (h : PK w0 w base ra rk vt L G kd) (hb : Below w.heap.size w w') : PK w0 w' base ra rk vt L G kd := by
  obtain ⟨h2, h3, ⟨ls, c, h4, h4g, h4k⟩, ⟨a1, a2, a3, a4, a5, a6, a7⟩, h6⟩ := h
  exact ⟨own_below h2 hb, h3.kept hb, ⟨ls, c, h4.grown (bl_grown hb) (by simp), h4g, h4k⟩, ⟨a1, a2, a3, a4, a5, Nat.le_trans a6 hb.size, a7⟩, bl_via h6 hb⟩
theorem PK.base {wf w0 w : World} {base ra rk : Nat} {vt : Value} {L : List (Int × Int × Int)} {G : Int × Int × Int × Int → List Int} {kd : Int × Int × Int × Int → Option Value} (h : PK w0 w base ra rk vt L G kd) (hf : Below wf.heap.size wf w0) : PK wf w base ra rk vt L G kd := by
  obtain ⟨h2, h3, h4, ⟨a1, a2, a3, a4, a5, a6, a7⟩, h6⟩ := h
  have := hf.size
  exact ⟨h2, h3, h4, ⟨by omega, a2, by omega, a4, a5, a6, by omega⟩, bl_via hf h6⟩
theorem PK.pa {w0 w : World} {base ra rk cc : Nat} {ad : Option Addr} {L : List (Int × Int × Int)} {kd : Int × Int × Int × Int → Option Value} (h : PK w0 w base ra rk (.slice ad L.length cc) L (gix L) kd) : PA w ad ra L := by
  obtain ⟨h2, ⟨ls, c, b1, b2, b3, b4, b5⟩, h4⟩ := h
  refine ⟨?_, fun e => ?_⟩
  · obtain ⟨a, cap, e, hT⟩ := own_tris h2
    simp only [Value.slice.injEq] at e
    rw [e.1]
    exact hT
  · cases hl : lk ls e with
    | none =>
      refine ⟨none, 0, by rw [b3 e hl]; intro i hi; simp at hi, fun wx hb => ?_⟩
      have := lookup27 Tryd.underlying103 zero70 (b1.grown (bl_grown hb) (by simp)) b2 e
      rw [hl] at this
      rw [b3 e hl]
      exact this
    | some v =>
      obtain ⟨d1, d2, d3⟩ := b4 e v hl
      obtain ⟨b, off, cap, hv, hr⟩ : ∃ b off cap, v = .slice (some ⟨b, off, none⟩) (gix L e).length cap ∧ Row w (some ⟨b, off, none⟩) (gix L e) := by
        rcases d1.2 with ⟨rfl, h0⟩ | ⟨g, cap, cur, rfl, _⟩
        · exact absurd (List.length_eq_zero_iff.1 h0) d2
        · refine ⟨g, 0, cap, rfl, fun i hi => ⟨g, 0, rfl, ?_⟩⟩
          have := d1.cellAt i (by omega)
          rw [Nat.zero_add, this]
          simp [hi]
      refine ⟨some ⟨b, off, none⟩, cap, hr, fun wx hb => ?_⟩
      have := lookup27 Tryd.underlying103 zero70 (b1.grown (bl_grown hb) (by simp)) b2 e
      rw [hl, hv] at this
      exact this
/-- A block that is not the paper's is written. -/
theorem PK.grown {w0 w w' : World} {base ra rk r : Nat} {vt : Value} {L : List (Int × Int × Int)} {G : Int × Int × Int × Int → List Int} {kd : Int × Int × Int × Int → Option Value} (h : PK w0 w base ra rk vt L G kd) (hg : w.grownBy w' (some r)) (hr : w0.heap.size ≤ r) (h1 : r ≠ ra) (h2 : r ≠ rk) (h3 : r < base) : PK w0 w' base ra rk vt L G kd := by
  obtain ⟨q2, ⟨ls, cl, b1, b2, b3, b4, b5⟩, ⟨lsk, c, q4, q4g, q4k⟩, ⟨a1, a2, a3, a4, a5, a6, a7⟩, q6⟩ := h
  have hn : ∀ {v : Value} {n : Nat} {e : TypeId} {s : Nat} {xs : List Value}, w.ownsRow base e s v n xs → v.ownBlock = none ∨ v.ownBlock ≠ some r := fun {v n e s xs} ho => by
    cases hu : v.ownBlock with
    | none => exact Or.inl rfl
    | some g =>
      refine Or.inr (fun e1 => ?_)
      have := (ho.lt g hu).1
      simp at e1
      omega
  refine ⟨q2.kept hg (hn q2), ⟨ls, cl, b1.grown hg (fun e => h1 (by simpa using e.symm)), b2, b3, fun e v he => ?_, b5⟩, ⟨lsk, c, q4.grown hg (fun e => h2 (by simpa using e.symm)), q4g, q4k⟩, ⟨a1, a2, a3, a4, a5, Nat.le_trans a6 hg.size, a7⟩, q6.grown hg q6.size (fun k hk => by simp at hk; omega)⟩
  obtain ⟨d1, d2, d3⟩ := b4 e v he
  exact ⟨d1.kept hg (hn d1), d2, d3⟩
/-- A crease's kind is put down. -/
theorem PK.update {w0 w : World} {base ra rk : Nat} {vt : Value} {L : List (Int × Int × Int)} {G : Int × Int × Int × Int → List Int} {kd : Int × Int × Int × Int → Option Value} (h : PK w0 w base ra rk vt L G kd) (e : Int × Int × Int × Int) (v : Value) :
    ∃ W', (Instr.mapUpdate 104 (.map (some rk)) (ek e) v).run Tryd.prog w = .ok () W' ∧ w.grownBy W' (some rk) ∧ PK w0 W' base ra rk vt L G (fun j => if j = e then some v else kd j) := by
  obtain ⟨q2, ⟨ls, cl, b1, b2, b3, b4, b5⟩, ⟨lsk, c, q4, q4g, q4k⟩, ⟨a1, a2, a3, a4, a5, a6, a7⟩, q6⟩ := h
  obtain ⟨ls', c', r1, r2, r3, _⟩ := update27 Tryd.underlying104 q4 q4g e v
  have hb := q4
  unfold EM at hb
  have hg := grown_set hb (.map (ls'.map toE).toArray c')
  have hn : ∀ {v : Value} {n : Nat} {e : TypeId} {s : Nat} {xs : List Value}, w.ownsRow base e s v n xs → v.ownBlock = none ∨ v.ownBlock ≠ some rk := fun {v n e s xs} ho => by
    cases hu : v.ownBlock with
    | none => exact Or.inl rfl
    | some g =>
      refine Or.inr (fun e1 => ?_)
      have := (ho.lt g hu).1
      simp at e1
      omega
  refine ⟨_, r1, hg, q2.kept hg (hn q2), ⟨ls, cl, b1.grown hg (fun e => a5 (by simpa using e)), b2, b3, fun e v he => ?_, b5⟩, ⟨ls', c', heap_setBlock_same hb _, r2, fun j => by rw [r3 j, q4k j]⟩, ⟨a1, a2, a3, a4, a5, Nat.le_trans a6 hg.size, a7⟩, q6.grown hg q6.size (fun k hk => by simp at hk; omega)⟩
  obtain ⟨d1, d2, d3⟩ := b4 e v he
  exact ⟨d1.kept hg (hn d1), d2, d3⟩

/-- The kinds of the first n creases, by their edges. -/
def kf (ks : List Int) : Nat → Int × Int × Int × Int → Option Value
  | 0, _ => none
  | i + 1, e => if e = (ck ks i 0, ck ks i 1, ck ks i 2, ck ks i 3) then some (.int .i64 (ck ks i 4)) else kf ks i e

set_option maxRecDepth 100000 in
set_option maxHeartbeats 6400000 in
theorem lay_nojoin (W H b off cap n ccap : Nat) (cb : Option Addr) (zs ks : List Int) (w : World) (hr : Row w (some ⟨b, off, none⟩) zs) (hW : 1 ≤ W ∧ W ≤ 8) (hH : 1 ≤ H ∧ H ≤ 8) (hl : zs.length = W * H) (hm : maskB zs = true) (hk : Row w cb ks) (hn : ks.length = n * 5) (hn2 : n ≤ 3518437208883) (hs : Steps w) (hJ : ¬ Joined (ty zs W H)) :
    Calls Tryd.prog 72 #[.agg #[.int .i64 (W : Int), .int .i64 (H : Int), .slice (some ⟨b, off, none⟩) zs.length cap, .slice cb n ccap]] w fun e w' => e = .returned (.tuple #[.agg #[.slice none 0 0, .map none, .map none], .bool false]) ∧ Below w.heap.size w w' := by
  have hcb : cellsB (W : Int) (H : Int) zs = true := by
    have e1 : sideB (W : Int) = true := by simp [sideB]; omega
    have e2 : sideB (H : Int) = true := by simp [sideB]; omega
    have e3 : (zs.length : Int) = (W : Int) * (H : Int) := by rw [hl]; simp
    simp only [cellsB, e1, e2, decide_eq_true e3, hm]
    rfl
  have hsW : sideB (W : Int) = true := by simp [sideB]; omega
  have hsH : sideB (H : Int) = true := by simp [sideB]; omega
  have hlW : (zs.length : Int) = (W : Int) * (H : Int) := by rw [hl]; simp
  have C93 : Hid (∀ W' : World, Below w.heap.size w W' → Calls Tryd.prog 93 #[.agg #[.int .i64 (W : Int), .int .i64 (H : Int), .slice (some ⟨b, off, none⟩) zs.length cap, .slice cb n ccap]] W' fun e w' => e = .returned (.bool true) ∧ ∃ o, w' = W'.alloc o) := fun W' hW' => hm ▸ mayMask_any W H _ cap zs _ W' hsW hsH (hr.kept hW') hlW
  have C92 : Hid (∀ W' : World, Calls Tryd.prog 92 #[.int .i64 (W : Int)] W' fun e w' => e = .returned (.bool true) ∧ w' = W') := fun W' => hsW ▸ maySide_any (W : Int) W'
  have C92' : Hid (∀ W' : World, Calls Tryd.prog 92 #[.int .i64 (H : Int)] W' fun e w' => e = .returned (.bool true) ∧ w' = W') := fun W' => hsH ▸ maySide_any (H : Int) W'
  have C94 : Hid (∀ W' : World, Below w.heap.size w W' → Calls Tryd.prog 94 #[.int .i64 (W : Int), .int .i64 (H : Int), .slice (some ⟨b, off, none⟩) zs.length cap] W' fun e w' => ∃ ad cc base pb ra rk, e = .returned (.agg #[.slice ad (ty zs W H).length cc, .map (some ra), .map (some rk)]) ∧ PP W' w' base pb ra rk (.slice ad (ty zs W H).length cc) (ty zs W H) (gix (ty zs W H))) := fun W' hW' => of_any W H b off cap zs W' (hs.kept hW') (hr.kept hW') hW hH hl hm
  have hlen : (ty zs W H).length ≤ 300 := by have := ty_len zs W H hW.2; omega
  have C95 : Hid (∀ (W' : World) (ad : Option Addr) (cc ra rk : Nat), Below w.heap.size w W' → PA W' ad ra (ty zs W H) → Calls Tryd.prog 95 #[.agg #[.slice ad (ty zs W H).length cc, .map (some ra), .map (some rk)]] W' fun e w' => ∃ bb : Bool, e = .returned (.bool bb) ∧ (bb = true ↔ Joined (ty zs W H)) ∧ Below W'.heap.size W' w') := fun W' ad cc ra rk hW' hp => joined_any W' cc ra rk ad _ (hs.kept hW') hp hlen (ty_nodup zs W H) (ty_bd hW.2 hH.2)
  have C96 : Hid (∀ (W' : World) (ad : Option Addr) (cc ra rk : Nat), Below w.heap.size w W' → PA W' ad ra (ty zs W H) → Calls Tryd.prog 96 #[.agg #[.slice ad (ty zs W H).length cc, .map (some ra), .map (some rk)], .slice cb n ccap] W' fun e w' => ∃ bb : Bool, e = .returned (.bool bb) ∧ (bb = true ↔ ∀ i, i < n → CrOk (ty zs W H) ks i) ∧ Below W'.heap.size W' w') := fun W' ad cc ra rk hW' hp => mayCreases_any W' cc ra rk n ccap ad cb _ ks hp (hk.kept hW') hn hn2
  have HCR : Hid (CRow w cb ks n) := row_crow hk hn
  clear hr hl hm hW hH hk hn hs hcb hsW hsH hlW
  obtain ⟨L, hL⟩ : ∃ L, L = ty zs W H := ⟨_, rfl⟩
  rw [← hL] at C94 C95 C96 hlen
  rw [← hL] at hJ
  clear hL
  go_enter Tryd.func72, Tryd.ntmps72
  go_wp2_with (first
    | (go_at_call 92; first | (refine (C92.out _).mono ?_; rintro e w9 ⟨rfl, hw9⟩; have hw9b := hw9.symm; clear hw9; subst hw9b) | (refine (C92'.out _).mono ?_; rintro e w9 ⟨rfl, hw9⟩; have hw9b := hw9.symm; clear hw9; subst hw9b))
    | (go_at_call 93; refine (C93.out _ (by with_reducible exact bl_alloc (bl_alloc (bl_refl _)))).mono ?_; rintro e w9 ⟨rfl, o9, rfl⟩)
    | (go_at_call 94; refine (C94.out _ (by with_reducible exact bl_alloc (bl_alloc (bl_alloc (bl_refl _))))).mono ?_; rintro e w3 ⟨ad, cc, base, pb, ra, rk, rfl, hPP⟩; have HK3 : Hid (PK ((w.alloc (.cells #[.int .i64 (W : Int), .int .i64 (H : Int), .slice (some ⟨b, off, none⟩) zs.length cap, .slice cb n ccap] 74)).alloc (.cells #[.slice none 0 0, .map none, .map none] 106)) w3 base ra rk (.slice ad L.length cc) L (gix L) (fun _ => none)) := hPP.pk.base (bl_alloc (bl_refl _)); have s0 : w3.cell? ⟨w.heap.size, 0, none⟩ = some (.int .i64 (W : Int)) := cl_kept HK3.out.2.2.2.2 (by simp [go_sem]); have s1 : w3.cell? ⟨w.heap.size, 1, none⟩ = some (.int .i64 (H : Int)) := cl_kept HK3.out.2.2.2.2 (by simp [go_sem]); have s2 : w3.cell? ⟨w.heap.size, 2, none⟩ = some (.slice (some ⟨b, off, none⟩) zs.length cap) := cl_kept HK3.out.2.2.2.2 (by simp [go_sem]); have s3 : w3.cell? ⟨w.heap.size, 3, none⟩ = some (.slice cb n ccap) := cl_kept HK3.out.2.2.2.2 (by simp [go_sem]); have z3 : w.heap.size < w3.heap.size := World.block_lt_of_cell? _ _ s0; have z3b : w.heap.size + 1 < w3.heap.size := Nat.lt_of_lt_of_le (by simp) HK3.out.2.2.2.2.size; clear hPP)
    | (go_at_call 95; refine (C95.out _ _ cc ra rk (bl_alloc (bl_via (bl_alloc (bl_alloc (bl_refl _))) HK3.out.2.2.2.2)) (HK3.out.pa.kept (bl_alloc (bl_refl _)))).mono ?_; rintro e w4 ⟨bb4, rfl, hb4, hbl4⟩; obtain rfl : bb4 = false := (by cases bb4 with | false => rfl | true => exact absurd (hb4.1 rfl) hJ); have HK4 : Hid (PK ((w.alloc (.cells #[.int .i64 (W : Int), .int .i64 (H : Int), .slice (some ⟨b, off, none⟩) zs.length cap, .slice cb n ccap] 74)).alloc (.cells #[.slice none 0 0, .map none, .map none] 106)) w4 base ra rk (.slice ad L.length cc) L (gix L) (fun _ => none) ∧ Below w3.heap.size w3 w4) := ⟨HK3.out.kept (bl_via (bl_alloc (bl_refl _)) hbl4), bl_via (bl_alloc (bl_refl _)) hbl4⟩; have r0 : w4.cell? ⟨w.heap.size, 0, none⟩ = some (.int .i64 (W : Int)) := cl_kept HK4.out.2 s0; have r1 : w4.cell? ⟨w.heap.size, 1, none⟩ = some (.int .i64 (H : Int)) := cl_kept HK4.out.2 s1; have r2 : w4.cell? ⟨w.heap.size, 2, none⟩ = some (.slice (some ⟨b, off, none⟩) zs.length cap) := cl_kept HK4.out.2 s2; have r3 : w4.cell? ⟨w.heap.size, 3, none⟩ = some (.slice cb n ccap) := cl_kept HK4.out.2 s3; have u0p : w4.cell? ⟨w3.heap.size, 0, none⟩ = some (.slice ad L.length cc) := cl_kept hbl4 (by simp [go_sem]); have u1p : w4.cell? ⟨w3.heap.size, 1, none⟩ = some (.map (some ra)) := cl_kept hbl4 (by simp [go_sem]); have u2p : w4.cell? ⟨w3.heap.size, 2, none⟩ = some (.map (some rk)) := cl_kept hbl4 (by simp [go_sem]); have z4 : w.heap.size < w4.heap.size := World.block_lt_of_cell? _ _ r0; have z4b : w3.heap.size < w4.heap.size := World.block_lt_of_cell? _ _ u0p; have c0r : w4.cell? ⟨w.heap.size + 1, 0, none⟩ = some (.slice none 0 0) := cl_kept HK4.out.1.2.2.2.2 (by simp [go_sem]); have c1r : w4.cell? ⟨w.heap.size + 1, 1, none⟩ = some (.map none) := cl_kept HK4.out.1.2.2.2.2 (by simp [go_sem]); have c2r : w4.cell? ⟨w.heap.size + 1, 2, none⟩ = some (.map none) := cl_kept HK4.out.1.2.2.2.2 (by simp [go_sem]); have f0r : w4.frozen? ⟨w.heap.size + 1, 0, none⟩ = false := (HK4.out.1.2.2.2.2.frozen (p := ⟨w.heap.size + 1, 0, none⟩) (by simp)).trans (by simp [go_sem]); have f1r : w4.frozen? ⟨w.heap.size + 1, 1, none⟩ = false := (HK4.out.1.2.2.2.2.frozen (p := ⟨w.heap.size + 1, 1, none⟩) (by simp)).trans (by simp [go_sem]); have f2r : w4.frozen? ⟨w.heap.size + 1, 2, none⟩ = false := (HK4.out.1.2.2.2.2.frozen (p := ⟨w.heap.size + 1, 2, none⟩) (by simp)).trans (by simp [go_sem]); clear hb4 hbl4))
  refine bodyPost_ret (v := .tuple #[.agg #[.slice none 0 0, .map none, .map none], .bool false]) ?_ rfl ⟨rfl, ?_⟩
  · simp [results, Tryd.results72, go_sem, c0r, c1r, c2r]
  · have hq := bl_via (bl_alloc (bl_alloc (bl_refl w))) HK4.out.1.2.2.2.2
    exact ((hq.setCell (p := ⟨w.heap.size + 1, 0, none⟩) (by simp) _).setCell (p := ⟨w.heap.size + 1, 1, none⟩) (by simp) _).setCell (p := ⟨w.heap.size + 1, 2, none⟩) (by simp) _

set_option maxRecDepth 100000 in
set_option maxHeartbeats 6400000 in
theorem lay_nocrease (W H b off cap n ccap : Nat) (cb : Option Addr) (zs ks : List Int) (w : World) (hr : Row w (some ⟨b, off, none⟩) zs) (hW : 1 ≤ W ∧ W ≤ 8) (hH : 1 ≤ H ∧ H ≤ 8) (hl : zs.length = W * H) (hm : maskB zs = true) (hk : Row w cb ks) (hn : ks.length = n * 5) (hn2 : n ≤ 3518437208883) (hs : Steps w) (hJ : Joined (ty zs W H)) (hC : ¬ ∀ i, i < n → CrOk (ty zs W H) ks i) :
    Calls Tryd.prog 72 #[.agg #[.int .i64 (W : Int), .int .i64 (H : Int), .slice (some ⟨b, off, none⟩) zs.length cap, .slice cb n ccap]] w fun e w' => e = .returned (.tuple #[.agg #[.slice none 0 0, .map none, .map none], .bool false]) ∧ Below w.heap.size w w' := by
  have hcb : cellsB (W : Int) (H : Int) zs = true := by
    have e1 : sideB (W : Int) = true := by simp [sideB]; omega
    have e2 : sideB (H : Int) = true := by simp [sideB]; omega
    have e3 : (zs.length : Int) = (W : Int) * (H : Int) := by rw [hl]; simp
    simp only [cellsB, e1, e2, decide_eq_true e3, hm]
    rfl
  have hsW : sideB (W : Int) = true := by simp [sideB]; omega
  have hsH : sideB (H : Int) = true := by simp [sideB]; omega
  have hlW : (zs.length : Int) = (W : Int) * (H : Int) := by rw [hl]; simp
  have C93 : Hid (∀ W' : World, Below w.heap.size w W' → Calls Tryd.prog 93 #[.agg #[.int .i64 (W : Int), .int .i64 (H : Int), .slice (some ⟨b, off, none⟩) zs.length cap, .slice cb n ccap]] W' fun e w' => e = .returned (.bool true) ∧ ∃ o, w' = W'.alloc o) := fun W' hW' => hm ▸ mayMask_any W H _ cap zs _ W' hsW hsH (hr.kept hW') hlW
  have C92 : Hid (∀ W' : World, Calls Tryd.prog 92 #[.int .i64 (W : Int)] W' fun e w' => e = .returned (.bool true) ∧ w' = W') := fun W' => hsW ▸ maySide_any (W : Int) W'
  have C92' : Hid (∀ W' : World, Calls Tryd.prog 92 #[.int .i64 (H : Int)] W' fun e w' => e = .returned (.bool true) ∧ w' = W') := fun W' => hsH ▸ maySide_any (H : Int) W'
  have C94 : Hid (∀ W' : World, Below w.heap.size w W' → Calls Tryd.prog 94 #[.int .i64 (W : Int), .int .i64 (H : Int), .slice (some ⟨b, off, none⟩) zs.length cap] W' fun e w' => ∃ ad cc base pb ra rk, e = .returned (.agg #[.slice ad (ty zs W H).length cc, .map (some ra), .map (some rk)]) ∧ PP W' w' base pb ra rk (.slice ad (ty zs W H).length cc) (ty zs W H) (gix (ty zs W H))) := fun W' hW' => of_any W H b off cap zs W' (hs.kept hW') (hr.kept hW') hW hH hl hm
  have hlen : (ty zs W H).length ≤ 300 := by have := ty_len zs W H hW.2; omega
  have C95 : Hid (∀ (W' : World) (ad : Option Addr) (cc ra rk : Nat), Below w.heap.size w W' → PA W' ad ra (ty zs W H) → Calls Tryd.prog 95 #[.agg #[.slice ad (ty zs W H).length cc, .map (some ra), .map (some rk)]] W' fun e w' => ∃ bb : Bool, e = .returned (.bool bb) ∧ (bb = true ↔ Joined (ty zs W H)) ∧ Below W'.heap.size W' w') := fun W' ad cc ra rk hW' hp => joined_any W' cc ra rk ad _ (hs.kept hW') hp hlen (ty_nodup zs W H) (ty_bd hW.2 hH.2)
  have C96 : Hid (∀ (W' : World) (ad : Option Addr) (cc ra rk : Nat), Below w.heap.size w W' → PA W' ad ra (ty zs W H) → Calls Tryd.prog 96 #[.agg #[.slice ad (ty zs W H).length cc, .map (some ra), .map (some rk)], .slice cb n ccap] W' fun e w' => ∃ bb : Bool, e = .returned (.bool bb) ∧ (bb = true ↔ ∀ i, i < n → CrOk (ty zs W H) ks i) ∧ Below W'.heap.size W' w') := fun W' ad cc ra rk hW' hp => mayCreases_any W' cc ra rk n ccap ad cb _ ks hp (hk.kept hW') hn hn2
  have HCR : Hid (CRow w cb ks n) := row_crow hk hn
  clear hr hl hm hW hH hk hn hs hcb hsW hsH hlW
  obtain ⟨L, hL⟩ : ∃ L, L = ty zs W H := ⟨_, rfl⟩
  rw [← hL] at C94 C95 C96 hlen
  rw [← hL] at hJ hC
  have HJ : Hid (Joined L) := hJ
  have HC : Hid (¬ ∀ i, i < n → CrOk L ks i) := hC
  clear hL hJ hC
  go_enter Tryd.func72, Tryd.ntmps72
  go_wp2_with (first
    | (go_at_call 92; first | (refine (C92.out _).mono ?_; rintro e w9 ⟨rfl, hw9⟩; have hw9b := hw9.symm; clear hw9; subst hw9b) | (refine (C92'.out _).mono ?_; rintro e w9 ⟨rfl, hw9⟩; have hw9b := hw9.symm; clear hw9; subst hw9b))
    | (go_at_call 93; refine (C93.out _ (by with_reducible exact bl_alloc (bl_alloc (bl_refl _)))).mono ?_; rintro e w9 ⟨rfl, o9, rfl⟩)
    | (go_at_call 94; refine (C94.out _ (by with_reducible exact bl_alloc (bl_alloc (bl_alloc (bl_refl _))))).mono ?_; rintro e w3 ⟨ad, cc, base, pb, ra, rk, rfl, hPP⟩; have HK3 : Hid (PK ((w.alloc (.cells #[.int .i64 (W : Int), .int .i64 (H : Int), .slice (some ⟨b, off, none⟩) zs.length cap, .slice cb n ccap] 74)).alloc (.cells #[.slice none 0 0, .map none, .map none] 106)) w3 base ra rk (.slice ad L.length cc) L (gix L) (fun _ => none)) := hPP.pk.base (bl_alloc (bl_refl _)); have s0 : w3.cell? ⟨w.heap.size, 0, none⟩ = some (.int .i64 (W : Int)) := cl_kept HK3.out.2.2.2.2 (by simp [go_sem]); have s1 : w3.cell? ⟨w.heap.size, 1, none⟩ = some (.int .i64 (H : Int)) := cl_kept HK3.out.2.2.2.2 (by simp [go_sem]); have s2 : w3.cell? ⟨w.heap.size, 2, none⟩ = some (.slice (some ⟨b, off, none⟩) zs.length cap) := cl_kept HK3.out.2.2.2.2 (by simp [go_sem]); have s3 : w3.cell? ⟨w.heap.size, 3, none⟩ = some (.slice cb n ccap) := cl_kept HK3.out.2.2.2.2 (by simp [go_sem]); have z3 : w.heap.size < w3.heap.size := World.block_lt_of_cell? _ _ s0; have z3b : w.heap.size + 1 < w3.heap.size := Nat.lt_of_lt_of_le (by simp) HK3.out.2.2.2.2.size; clear hPP)
    | (go_at_call 95; refine (C95.out _ _ cc ra rk (bl_alloc (bl_via (bl_alloc (bl_alloc (bl_refl _))) HK3.out.2.2.2.2)) (HK3.out.pa.kept (bl_alloc (bl_refl _)))).mono ?_; rintro e w4 ⟨bb4, rfl, hb4, hbl4⟩; obtain rfl : bb4 = true := hb4.2 HJ.out; have HK4 : Hid (PK ((w.alloc (.cells #[.int .i64 (W : Int), .int .i64 (H : Int), .slice (some ⟨b, off, none⟩) zs.length cap, .slice cb n ccap] 74)).alloc (.cells #[.slice none 0 0, .map none, .map none] 106)) w4 base ra rk (.slice ad L.length cc) L (gix L) (fun _ => none) ∧ Below w3.heap.size w3 w4) := ⟨HK3.out.kept (bl_via (bl_alloc (bl_refl _)) hbl4), bl_via (bl_alloc (bl_refl _)) hbl4⟩; have r0 : w4.cell? ⟨w.heap.size, 0, none⟩ = some (.int .i64 (W : Int)) := cl_kept HK4.out.2 s0; have r1 : w4.cell? ⟨w.heap.size, 1, none⟩ = some (.int .i64 (H : Int)) := cl_kept HK4.out.2 s1; have r2 : w4.cell? ⟨w.heap.size, 2, none⟩ = some (.slice (some ⟨b, off, none⟩) zs.length cap) := cl_kept HK4.out.2 s2; have r3 : w4.cell? ⟨w.heap.size, 3, none⟩ = some (.slice cb n ccap) := cl_kept HK4.out.2 s3; have u0p : w4.cell? ⟨w3.heap.size, 0, none⟩ = some (.slice ad L.length cc) := cl_kept hbl4 (by simp [go_sem]); have u1p : w4.cell? ⟨w3.heap.size, 1, none⟩ = some (.map (some ra)) := cl_kept hbl4 (by simp [go_sem]); have u2p : w4.cell? ⟨w3.heap.size, 2, none⟩ = some (.map (some rk)) := cl_kept hbl4 (by simp [go_sem]); have z4 : w.heap.size < w4.heap.size := World.block_lt_of_cell? _ _ r0; have z4b : w3.heap.size < w4.heap.size := World.block_lt_of_cell? _ _ u0p; clear hb4 hbl4)
    | (go_at_call 96; refine (C96.out _ _ cc ra rk (bl_via (bl_alloc (bl_alloc (bl_refl _))) HK4.out.1.2.2.2.2) HK4.out.1.pa).mono ?_; rintro e w5 ⟨bb5, rfl, hb5, hbl5⟩; obtain rfl : bb5 = false := (by cases bb5 with | false => rfl | true => exact absurd (hb5.1 rfl) HC.out); have HK5 : Hid (PK ((w.alloc (.cells #[.int .i64 (W : Int), .int .i64 (H : Int), .slice (some ⟨b, off, none⟩) zs.length cap, .slice cb n ccap] 74)).alloc (.cells #[.slice none 0 0, .map none, .map none] 106)) w5 base ra rk (.slice ad L.length cc) L (gix L) (fun _ => none)) := HK4.out.1.kept hbl5; have v0 : w5.cell? ⟨w.heap.size, 0, none⟩ = some (.int .i64 (W : Int)) := cl_kept hbl5 r0; have v1 : w5.cell? ⟨w.heap.size, 1, none⟩ = some (.int .i64 (H : Int)) := cl_kept hbl5 r1; have v2 : w5.cell? ⟨w.heap.size, 2, none⟩ = some (.slice (some ⟨b, off, none⟩) zs.length cap) := cl_kept hbl5 r2; have v3 : w5.cell? ⟨w.heap.size, 3, none⟩ = some (.slice cb n ccap) := cl_kept hbl5 r3; have x0p : w5.cell? ⟨w3.heap.size, 0, none⟩ = some (.slice ad L.length cc) := cl_kept hbl5 u0p; have x1p : w5.cell? ⟨w3.heap.size, 1, none⟩ = some (.map (some ra)) := cl_kept hbl5 u1p; have x2p : w5.cell? ⟨w3.heap.size, 2, none⟩ = some (.map (some rk)) := cl_kept hbl5 u2p; have z5 : w.heap.size < w5.heap.size := World.block_lt_of_cell? _ _ v0; have c0r : w5.cell? ⟨w.heap.size + 1, 0, none⟩ = some (.slice none 0 0) := cl_kept HK5.out.2.2.2.2 (by simp [go_sem]); have c1r : w5.cell? ⟨w.heap.size + 1, 1, none⟩ = some (.map none) := cl_kept HK5.out.2.2.2.2 (by simp [go_sem]); have c2r : w5.cell? ⟨w.heap.size + 1, 2, none⟩ = some (.map none) := cl_kept HK5.out.2.2.2.2 (by simp [go_sem]); have f0r : w5.frozen? ⟨w.heap.size + 1, 0, none⟩ = false := (HK5.out.2.2.2.2.frozen (p := ⟨w.heap.size + 1, 0, none⟩) (by simp)).trans (by simp [go_sem]); have f1r : w5.frozen? ⟨w.heap.size + 1, 1, none⟩ = false := (HK5.out.2.2.2.2.frozen (p := ⟨w.heap.size + 1, 1, none⟩) (by simp)).trans (by simp [go_sem]); have f2r : w5.frozen? ⟨w.heap.size + 1, 2, none⟩ = false := (HK5.out.2.2.2.2.frozen (p := ⟨w.heap.size + 1, 2, none⟩) (by simp)).trans (by simp [go_sem]); clear hb5 hbl5))
  refine bodyPost_ret (v := .tuple #[.agg #[.slice none 0 0, .map none, .map none], .bool false]) ?_ rfl ⟨rfl, ?_⟩
  · simp [results, Tryd.results72, go_sem, c0r, c1r, c2r]
  · have hq := bl_via (bl_alloc (bl_alloc (bl_refl w))) HK5.out.2.2.2.2
    exact ((hq.setCell (p := ⟨w.heap.size + 1, 0, none⟩) (by simp) _).setCell (p := ⟨w.heap.size + 1, 1, none⟩) (by simp) _).setCell (p := ⟨w.heap.size + 1, 2, none⟩) (by simp) _
end Go.Proofs.YthkhiedpkmpifaaDoor

/- A sheet that may be is laid out. -/
namespace Go.Proofs.YthkhiedpkmpifaaDoor
open Go.RowKit Go.ChangeMaps

set_option maxRecDepth 100000 in
set_option maxHeartbeats 6400000 in
theorem lay_yes (W H b off cap n ccap : Nat) (cb : Option Addr) (zs ks : List Int) (w : World) (hr : Row w (some ⟨b, off, none⟩) zs) (hW : 1 ≤ W ∧ W ≤ 8) (hH : 1 ≤ H ∧ H ≤ 8) (hl : zs.length = W * H) (hm : maskB zs = true) (hk : Row w cb ks) (hn : ks.length = n * 5) (hn2 : n ≤ 3518437208883) (hs : Steps w) (hJ : Joined (ty zs W H)) (hC : ∀ i, i < n → CrOk (ty zs W H) ks i) :
    Calls Tryd.prog 72 #[.agg #[.int .i64 (W : Int), .int .i64 (H : Int), .slice (some ⟨b, off, none⟩) zs.length cap, .slice cb n ccap]] w fun e w' => ∃ ad cc base ra rk, e = .returned (.tuple #[.agg #[.slice ad (ty zs W H).length cc, .map (some ra), .map (some rk)], .bool true]) ∧ PK w w' base ra rk (.slice ad (ty zs W H).length cc) (ty zs W H) (gix (ty zs W H)) (kf ks n) := by
  have hcb : cellsB (W : Int) (H : Int) zs = true := by
    have e1 : sideB (W : Int) = true := by simp [sideB]; omega
    have e2 : sideB (H : Int) = true := by simp [sideB]; omega
    have e3 : (zs.length : Int) = (W : Int) * (H : Int) := by rw [hl]; simp
    simp only [cellsB, e1, e2, decide_eq_true e3, hm]
    rfl
  have hsW : sideB (W : Int) = true := by simp [sideB]; omega
  have hsH : sideB (H : Int) = true := by simp [sideB]; omega
  have hlW : (zs.length : Int) = (W : Int) * (H : Int) := by rw [hl]; simp
  have C93 : Hid (∀ W' : World, Below w.heap.size w W' → Calls Tryd.prog 93 #[.agg #[.int .i64 (W : Int), .int .i64 (H : Int), .slice (some ⟨b, off, none⟩) zs.length cap, .slice cb n ccap]] W' fun e w' => e = .returned (.bool true) ∧ ∃ o, w' = W'.alloc o) := fun W' hW' => hm ▸ mayMask_any W H _ cap zs _ W' hsW hsH (hr.kept hW') hlW
  have C92 : Hid (∀ W' : World, Calls Tryd.prog 92 #[.int .i64 (W : Int)] W' fun e w' => e = .returned (.bool true) ∧ w' = W') := fun W' => hsW ▸ maySide_any (W : Int) W'
  have C92' : Hid (∀ W' : World, Calls Tryd.prog 92 #[.int .i64 (H : Int)] W' fun e w' => e = .returned (.bool true) ∧ w' = W') := fun W' => hsH ▸ maySide_any (H : Int) W'
  have C94 : Hid (∀ W' : World, Below w.heap.size w W' → Calls Tryd.prog 94 #[.int .i64 (W : Int), .int .i64 (H : Int), .slice (some ⟨b, off, none⟩) zs.length cap] W' fun e w' => ∃ ad cc base pb ra rk, e = .returned (.agg #[.slice ad (ty zs W H).length cc, .map (some ra), .map (some rk)]) ∧ PP W' w' base pb ra rk (.slice ad (ty zs W H).length cc) (ty zs W H) (gix (ty zs W H))) := fun W' hW' => of_any W H b off cap zs W' (hs.kept hW') (hr.kept hW') hW hH hl hm
  have hlen : (ty zs W H).length ≤ 300 := by have := ty_len zs W H hW.2; omega
  have C95 : Hid (∀ (W' : World) (ad : Option Addr) (cc ra rk : Nat), Below w.heap.size w W' → PA W' ad ra (ty zs W H) → Calls Tryd.prog 95 #[.agg #[.slice ad (ty zs W H).length cc, .map (some ra), .map (some rk)]] W' fun e w' => ∃ bb : Bool, e = .returned (.bool bb) ∧ (bb = true ↔ Joined (ty zs W H)) ∧ Below W'.heap.size W' w') := fun W' ad cc ra rk hW' hp => joined_any W' cc ra rk ad _ (hs.kept hW') hp hlen (ty_nodup zs W H) (ty_bd hW.2 hH.2)
  have C96 : Hid (∀ (W' : World) (ad : Option Addr) (cc ra rk : Nat), Below w.heap.size w W' → PA W' ad ra (ty zs W H) → Calls Tryd.prog 96 #[.agg #[.slice ad (ty zs W H).length cc, .map (some ra), .map (some rk)], .slice cb n ccap] W' fun e w' => ∃ bb : Bool, e = .returned (.bool bb) ∧ (bb = true ↔ ∀ i, i < n → CrOk (ty zs W H) ks i) ∧ Below W'.heap.size W' w') := fun W' ad cc ra rk hW' hp => mayCreases_any W' cc ra rk n ccap ad cb _ ks hp (hk.kept hW') hn hn2
  have HCR : Hid (CRow w cb ks n) := row_crow hk hn
  clear hr hl hm hW hH hk hn hs hcb hsW hsH hlW
  obtain ⟨L, hL⟩ : ∃ L, L = ty zs W H := ⟨_, rfl⟩
  rw [← hL] at C94 C95 C96 hlen
  rw [← hL] at hJ hC ⊢
  have HJ : Hid (Joined L) := hJ
  have HC : Hid (∀ i, i < n → CrOk L ks i) := hC
  clear hL hJ hC
  go_enter Tryd.func72, Tryd.ntmps72
  go_wp2_with (first
    | (go_at_call 92; first | (refine (C92.out _).mono ?_; rintro e w9 ⟨rfl, hw9⟩; have hw9b := hw9.symm; clear hw9; subst hw9b) | (refine (C92'.out _).mono ?_; rintro e w9 ⟨rfl, hw9⟩; have hw9b := hw9.symm; clear hw9; subst hw9b))
    | (go_at_call 93; refine (C93.out _ (by with_reducible exact bl_alloc (bl_alloc (bl_refl _)))).mono ?_; rintro e w9 ⟨rfl, o9, rfl⟩)
    | (go_at_call 94; refine (C94.out _ (by with_reducible exact bl_alloc (bl_alloc (bl_alloc (bl_refl _))))).mono ?_; rintro e w3 ⟨ad, cc, base, pb, ra, rk, rfl, hPP⟩; have HK3 : Hid (PK ((w.alloc (.cells #[.int .i64 (W : Int), .int .i64 (H : Int), .slice (some ⟨b, off, none⟩) zs.length cap, .slice cb n ccap] 74)).alloc (.cells #[.slice none 0 0, .map none, .map none] 106)) w3 base ra rk (.slice ad L.length cc) L (gix L) (fun _ => none)) := hPP.pk.base (bl_alloc (bl_refl _)); have s0 : w3.cell? ⟨w.heap.size, 0, none⟩ = some (.int .i64 (W : Int)) := cl_kept HK3.out.2.2.2.2 (by simp [go_sem]); have s1 : w3.cell? ⟨w.heap.size, 1, none⟩ = some (.int .i64 (H : Int)) := cl_kept HK3.out.2.2.2.2 (by simp [go_sem]); have s2 : w3.cell? ⟨w.heap.size, 2, none⟩ = some (.slice (some ⟨b, off, none⟩) zs.length cap) := cl_kept HK3.out.2.2.2.2 (by simp [go_sem]); have s3 : w3.cell? ⟨w.heap.size, 3, none⟩ = some (.slice cb n ccap) := cl_kept HK3.out.2.2.2.2 (by simp [go_sem]); have z3 : w.heap.size < w3.heap.size := World.block_lt_of_cell? _ _ s0; have z3b : w.heap.size + 1 < w3.heap.size := Nat.lt_of_lt_of_le (by simp) HK3.out.2.2.2.2.size; clear hPP)
    | (go_at_call 95; refine (C95.out _ _ cc ra rk (bl_alloc (bl_via (bl_alloc (bl_alloc (bl_refl _))) HK3.out.2.2.2.2)) (HK3.out.pa.kept (bl_alloc (bl_refl _)))).mono ?_; rintro e w4 ⟨bb4, rfl, hb4, hbl4⟩; obtain rfl : bb4 = true := hb4.2 HJ.out; have HK4 : Hid (PK ((w.alloc (.cells #[.int .i64 (W : Int), .int .i64 (H : Int), .slice (some ⟨b, off, none⟩) zs.length cap, .slice cb n ccap] 74)).alloc (.cells #[.slice none 0 0, .map none, .map none] 106)) w4 base ra rk (.slice ad L.length cc) L (gix L) (fun _ => none) ∧ Below w3.heap.size w3 w4) := ⟨HK3.out.kept (bl_via (bl_alloc (bl_refl _)) hbl4), bl_via (bl_alloc (bl_refl _)) hbl4⟩; have r0 : w4.cell? ⟨w.heap.size, 0, none⟩ = some (.int .i64 (W : Int)) := cl_kept HK4.out.2 s0; have r1 : w4.cell? ⟨w.heap.size, 1, none⟩ = some (.int .i64 (H : Int)) := cl_kept HK4.out.2 s1; have r2 : w4.cell? ⟨w.heap.size, 2, none⟩ = some (.slice (some ⟨b, off, none⟩) zs.length cap) := cl_kept HK4.out.2 s2; have r3 : w4.cell? ⟨w.heap.size, 3, none⟩ = some (.slice cb n ccap) := cl_kept HK4.out.2 s3; have u0p : w4.cell? ⟨w3.heap.size, 0, none⟩ = some (.slice ad L.length cc) := cl_kept hbl4 (by simp [go_sem]); have u1p : w4.cell? ⟨w3.heap.size, 1, none⟩ = some (.map (some ra)) := cl_kept hbl4 (by simp [go_sem]); have u2p : w4.cell? ⟨w3.heap.size, 2, none⟩ = some (.map (some rk)) := cl_kept hbl4 (by simp [go_sem]); have z4 : w.heap.size < w4.heap.size := World.block_lt_of_cell? _ _ r0; have z4b : w3.heap.size < w4.heap.size := World.block_lt_of_cell? _ _ u0p; clear hb4 hbl4)
    | (go_at_call 96; refine (C96.out _ _ cc ra rk (bl_via (bl_alloc (bl_alloc (bl_refl _))) HK4.out.1.2.2.2.2) HK4.out.1.pa).mono ?_; rintro e w5 ⟨bb5, rfl, hb5, hbl5⟩; obtain rfl : bb5 = true := hb5.2 HC.out; have HK5 : Hid (PK ((w.alloc (.cells #[.int .i64 (W : Int), .int .i64 (H : Int), .slice (some ⟨b, off, none⟩) zs.length cap, .slice cb n ccap] 74)).alloc (.cells #[.slice none 0 0, .map none, .map none] 106)) w5 base ra rk (.slice ad L.length cc) L (gix L) (fun _ => none)) := HK4.out.1.kept hbl5; have v0 : w5.cell? ⟨w.heap.size, 0, none⟩ = some (.int .i64 (W : Int)) := cl_kept hbl5 r0; have v1 : w5.cell? ⟨w.heap.size, 1, none⟩ = some (.int .i64 (H : Int)) := cl_kept hbl5 r1; have v2 : w5.cell? ⟨w.heap.size, 2, none⟩ = some (.slice (some ⟨b, off, none⟩) zs.length cap) := cl_kept hbl5 r2; have v3 : w5.cell? ⟨w.heap.size, 3, none⟩ = some (.slice cb n ccap) := cl_kept hbl5 r3; have x0p : w5.cell? ⟨w3.heap.size, 0, none⟩ = some (.slice ad L.length cc) := cl_kept hbl5 u0p; have x1p : w5.cell? ⟨w3.heap.size, 1, none⟩ = some (.map (some ra)) := cl_kept hbl5 u1p; have x2p : w5.cell? ⟨w3.heap.size, 2, none⟩ = some (.map (some rk)) := cl_kept hbl5 u2p; have z5 : w.heap.size < w5.heap.size := World.block_lt_of_cell? _ _ v0; clear hb5 hbl5))
  have zbase : base ≤ w3.heap.size := HK3.out.2.2.2.1.2.2.2.2.2.1
  go_loopg [44] n (fun gk s44 wx => ∃ i : Nat, i ≤ n ∧ gk = n - i ∧ s44 = .int .i64 (i : Int) ∧ PK ((w.alloc (.cells #[.int .i64 (W : Int), .int .i64 (H : Int), .slice (some ⟨b, off, none⟩) zs.length cap, .slice cb n ccap] 74)).alloc (.cells #[.slice none 0 0, .map none, .map none] 106)) wx base ra rk (.slice ad L.length cc) L (gix L) (kf ks i) ∧ (wx.cell? ⟨w3.heap.size, 0, none⟩ = some (.slice ad L.length cc) ∧ wx.cell? ⟨w3.heap.size, 1, none⟩ = some (.map (some ra)) ∧ wx.cell? ⟨w3.heap.size, 2, none⟩ = some (.map (some rk))))
  case atStart => exact ⟨0, by omega, rfl, rfl, HK5.out, x0p, x1p, x2p⟩
  case round =>
    clear HK5 HK4 x0p x1p x2p u0p u1p u2p s0 s1 s2 s3 r0 r1 r2 r3 v0 v1 v2 v3 z4 z4b z5
    obtain ⟨i, hi, rfl, rfl, hK, y0, y1, y2⟩ := hrel
    have HK : Hid (PK ((w.alloc (.cells #[.int .i64 (W : Int), .int .i64 (H : Int), .slice (some ⟨b, off, none⟩) zs.length cap, .slice cb n ccap] 74)).alloc (.cells #[.slice none 0 0, .map none, .map none] 106)) wr base ra rk (.slice ad L.length cc) L (gix L) (kf ks i)) := hK
    have HB : Hid (Below w.heap.size w wr) := bl_via (bl_alloc (bl_alloc (bl_refl _))) hK.2.2.2.2
    clear hK
    have zy : w3.heap.size < wr.heap.size := World.block_lt_of_cell? _ _ y0
    by_cases h1 : i < n
    · have i1 : (i : Int) < (n : Int) := by omega
      have i0 : (0 : Int) ≤ (i : Int) := by omega
      obtain ⟨bb, bo, rfl, c0, c1, c2, c3, c4⟩ := (HCR.out.kept HB.out) i h1
      have zb : bb < wr.heap.size := World.block_lt_of_cell? _ _ c0
      obtain ⟨W', hu, hg, hK'⟩ := (HK.out.kept (w' := wr.alloc (.cells #[.int .i64 (ck ks i 0), .int .i64 (ck ks i 1), .int .i64 (ck ks i 2), .int .i64 (ck ks i 3), .int .i64 (ck ks i 4)] 110)) (bl_alloc (bl_refl _))).update ((ck ks i 0), (ck ks i 1), (ck ks i 2), (ck ks i 3)) (.int .i64 (ck ks i 4))
      have hu' : (Instr.mapUpdate 104 (.map (some rk)) (.agg #[.int .i64 (ck ks i 0), .int .i64 (ck ks i 1), .int .i64 (ck ks i 2), .int .i64 (ck ks i 3)]) (.int .i64 (ck ks i 4))).run Tryd.prog (wr.alloc (.cells #[.int .i64 (ck ks i 0), .int .i64 (ck ks i 1), .int .i64 (ck ks i 2), .int .i64 (ck ks i 3), .int .i64 (ck ks i 4)] 110)) = .ok () W' := hu
      have hne : some w3.heap.size ≠ some rk := fun e => by
        have := HK.out.2.2.2.1.2.2.2.1
        simp at e
        omega
      have HN : Hid (PK ((w.alloc (.cells #[.int .i64 (W : Int), .int .i64 (H : Int), .slice (some ⟨b, off, none⟩) zs.length cap, .slice (some ⟨bb, bo, none⟩) n ccap] 74)).alloc (.cells #[.slice none 0 0, .map none, .map none] 106)) W' base ra rk (.slice ad L.length cc) L (gix L) (kf ks (i + 1)) ∧ (W'.cell? ⟨w3.heap.size, 0, none⟩ = some (.slice ad L.length cc) ∧ W'.cell? ⟨w3.heap.size, 1, none⟩ = some (.map (some ra)) ∧ W'.cell? ⟨w3.heap.size, 2, none⟩ = some (.map (some rk)))) := ⟨hK', hg.cell (al_old y0) hne, hg.cell (al_old y1) hne, hg.cell (al_old y2) hne⟩
      clear hu hg hK' hne
      go_wp2
      go_roundg (n - (i + 1))
      case measure => omega
      case rel => exact ⟨i + 1, by omega, rfl, by go_num, HN.out.1, HN.out.2⟩
    · have i1 : ¬ (i : Int) < (n : Int) := by omega
      obtain rfl : i = n := by omega
      have c0r : wr.cell? ⟨w.heap.size + 1, 0, none⟩ = some (.slice none 0 0) := cl_kept HK.out.2.2.2.2 (by simp [go_sem])
      have c1r : wr.cell? ⟨w.heap.size + 1, 1, none⟩ = some (.map none) := cl_kept HK.out.2.2.2.2 (by simp [go_sem])
      have c2r : wr.cell? ⟨w.heap.size + 1, 2, none⟩ = some (.map none) := cl_kept HK.out.2.2.2.2 (by simp [go_sem])
      have f0r : wr.frozen? ⟨w.heap.size + 1, 0, none⟩ = false := (HK.out.2.2.2.2.frozen (p := ⟨w.heap.size + 1, 0, none⟩) (by simp)).trans (by simp [go_sem])
      have f1r : wr.frozen? ⟨w.heap.size + 1, 1, none⟩ = false := (HK.out.2.2.2.2.frozen (p := ⟨w.heap.size + 1, 1, none⟩) (by simp)).trans (by simp [go_sem])
      have f2r : wr.frozen? ⟨w.heap.size + 1, 2, none⟩ = false := (HK.out.2.2.2.2.frozen (p := ⟨w.heap.size + 1, 2, none⟩) (by simp)).trans (by simp [go_sem])
      go_wp2
      have hz2 := HK.out.2.2.2.1
      refine bodyPost_ret (v := .tuple #[.agg #[.slice ad L.length cc, .map (some ra), .map (some rk)], .bool true]) ?_ rfl ⟨ad, cc, base, ra, rk, rfl, (HK.out.base (bl_alloc (bl_alloc (bl_refl w)))).grown (gb_then (gb_then (grown_cell _ _ 0 _) (grown_cell _ _ 1 _)) (grown_cell _ _ 2 _)) (by omega) ?_ ?_ ?_⟩
      · simp [results, Tryd.results72, go_sem, c0r, c1r, c2r]
      · have := hz2.1
        simp at this
        omega
      · have := hz2.2.2.1
        simp at this
        omega
      · have := hz2.2.2.2.2.2.2
        simp at this
        omega
end Go.Proofs.YthkhiedpkmpifaaDoor

