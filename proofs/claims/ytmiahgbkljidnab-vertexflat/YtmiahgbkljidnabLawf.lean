/- The law VertexFlat: in each case it answers true. -/
import Derived.Test.YtmiahgbkljidnabLawv
namespace Go.Proofs.Ytmiahgbkljidnab
open Go.RowKit

set_option maxRecDepth 100000 in
set_option maxHeartbeats 1000000 in
/-- As many kinds as angles, or not: a size. -/
theorem law_size (a b : Option Addr) (c d : Nat) (l ks : List Int) (w : World) (hv : Sg w (.slice a l.length c) l) (hu : Sg w (.slice b ks.length d) ks) (hl : l.length ≤ 17592186044416) (hk : ks.length ≤ 17592186044416) (hne : ks.length ≠ l.length) : Calls Try.prog 3 #[.slice a l.length c, .slice b ks.length d] w fun e w' => e = .returned (.bool true) ∧ Below w.heap.size w w' := by
  have CA : Hid (∀ W : World, Below w.heap.size w W → Calls Try.prog 5 #[.slice a l.length c] W fun e w' => ∃ u, e = .returned u ∧ Sl w' u l ∧ Below W.heap.size W w') := fun W hW => ints_any _ l W (hv.kept hW) hl
  have CK : Hid (∀ W : World, Below w.heap.size w W → Calls Try.prog 5 #[.slice b ks.length d] W fun e w' => ∃ u, e = .returned u ∧ Sl w' u ks ∧ Below W.heap.size W w') := fun W hW => ints_any _ ks W (hu.kept hW) hk
  have CF : Hid (∀ (W : World) (x y : Value), Sl W x l → Sl W y ks → Calls Try.prog 4 #[x, y] W fun e w' => e = .returned (.tuple #[.bool (flatB l ks), .int .i64 (flatE l ks)]) ∧ Below W.heap.size W w') := fun W x y hx hy => flat_any x y l ks W hx hy hl hk
  have CM : Hid (∀ W : World, Below w.heap.size w W → Calls Try.prog 6 #[.slice a l.length c] W fun e w' => e = .returned (.int .i64 (wrongV l)) ∧ Below W.heap.size W w') := fun W hW => may_any _ l W (hv.kept hW) hl
  have e1 : flatB l ks = false := by unfold flatB; simp [hne]
  have e2 : flatE l ks = 2 := by unfold flatE; rw [if_pos hne]
  rw [e1, e2] at CF
  obtain ⟨wv, hwv⟩ : ∃ x, x = wrongV l := ⟨_, rfl⟩
  rw [← hwv] at CM
  have q : ((ks.length : Int) != (l.length : Int)) = true := by rw [bne_iff_ne]; omega
  clear hv hu e1 e2 hwv hne
  cases qw : (wv == 2)
  · go_enter Try.func3, Try.ntmps3
    go_wp2_with (first | (go_at_call 5; first | ((with_reducible refine (CA.out _ (bl_refl _)).mono ?_); rintro e w1 ⟨u1, rfl, hs1, hb1⟩; have H1 : Hid (Sl w1 u1 l ∧ Below w.heap.size w w1) := ⟨hs1, hb1⟩; clear hs1 hb1) | ((with_reducible refine (CK.out _ H1.out.2).mono ?_); rintro e w2 ⟨u2, rfl, hs2, hb2⟩; have H2 : Hid (Sl w2 u1 l ∧ Sl w2 u2 ks ∧ Below w.heap.size w w2) := ⟨H1.out.1.kept hb2, hs2, bl_via H1.out.2 hb2⟩; clear hs2 hb2)) | (go_at_call 4; refine (CF.out _ _ _ H2.out.1 H2.out.2.1).mono ?_; rintro e w3 ⟨rfl, hb3⟩; have H3 : Hid (Below w.heap.size w w3) := bl_via H2.out.2.2 hb3; clear hb3) | (go_at_call 6; refine (CM.out _ H3.out).mono ?_; rintro e w4 ⟨rfl, hb4⟩; have H4 : Hid (Below w.heap.size w w4) := bl_via H3.out hb4; clear hb4))
    go_ret
    exact ⟨rfl, H4.out⟩
  · go_enter Try.func3, Try.ntmps3
    go_wp2_with (first | (go_at_call 5; first | ((with_reducible refine (CA.out _ (bl_refl _)).mono ?_); rintro e w1 ⟨u1, rfl, hs1, hb1⟩; have H1 : Hid (Sl w1 u1 l ∧ Below w.heap.size w w1) := ⟨hs1, hb1⟩; clear hs1 hb1) | ((with_reducible refine (CK.out _ H1.out.2).mono ?_); rintro e w2 ⟨u2, rfl, hs2, hb2⟩; have H2 : Hid (Sl w2 u1 l ∧ Sl w2 u2 ks ∧ Below w.heap.size w w2) := ⟨H1.out.1.kept hb2, hs2, bl_via H1.out.2 hb2⟩; clear hs2 hb2)) | (go_at_call 4; refine (CF.out _ _ _ H2.out.1 H2.out.2.1).mono ?_; rintro e w3 ⟨rfl, hb3⟩; have H3 : Hid (Below w.heap.size w w3) := bl_via H2.out.2.2 hb3; clear hb3) | (go_at_call 6; refine (CM.out _ H3.out).mono ?_; rintro e w4 ⟨rfl, hb4⟩; have H4 : Hid (Below w.heap.size w w4) := bl_via H3.out hb4; clear hb4))
    go_ret
    exact ⟨rfl, H4.out⟩
set_option maxRecDepth 100000 in
set_option maxHeartbeats 1000000 in
/-- Something is wrong with the angles. -/
theorem law_wrong (a b : Option Addr) (c d : Nat) (l ks : List Int) (w : World) (hv : Sg w (.slice a l.length c) l) (hu : Sg w (.slice b ks.length d) ks) (hl : l.length ≤ 17592186044416) (hk : ks.length ≤ 17592186044416) (he : ks.length = l.length) (hw : wrongV l ≠ 0) : Calls Try.prog 3 #[.slice a l.length c, .slice b ks.length d] w fun e w' => e = .returned (.bool true) ∧ Below w.heap.size w w' := by
  have CA : Hid (∀ W : World, Below w.heap.size w W → Calls Try.prog 5 #[.slice a l.length c] W fun e w' => ∃ u, e = .returned u ∧ Sl w' u l ∧ Below W.heap.size W w') := fun W hW => ints_any _ l W (hv.kept hW) hl
  have CK : Hid (∀ W : World, Below w.heap.size w W → Calls Try.prog 5 #[.slice b ks.length d] W fun e w' => ∃ u, e = .returned u ∧ Sl w' u ks ∧ Below W.heap.size W w') := fun W hW => ints_any _ ks W (hu.kept hW) hk
  have CF : Hid (∀ (W : World) (x y : Value), Sl W x l → Sl W y ks → Calls Try.prog 4 #[x, y] W fun e w' => e = .returned (.tuple #[.bool (flatB l ks), .int .i64 (flatE l ks)]) ∧ Below W.heap.size W w') := fun W x y hx hy => flat_any x y l ks W hx hy hl hk
  have CM : Hid (∀ W : World, Below w.heap.size w W → Calls Try.prog 6 #[.slice a l.length c] W fun e w' => e = .returned (.int .i64 (wrongV l)) ∧ Below W.heap.size W w') := fun W hW => may_any _ l W (hv.kept hW) hl
  have e1 : flatB l ks = false := by unfold flatB; simp [hw]
  have e2 : flatE l ks = wrongV l := by unfold flatE; rw [if_neg (by omega), if_pos hw]
  rw [e1, e2] at CF
  obtain ⟨wv, hwv⟩ : ∃ x, x = wrongV l := ⟨_, rfl⟩
  rw [← hwv] at CM CF hw
  have q : ((ks.length : Int) != (l.length : Int)) = false := by rw [he]; simp
  have q0 : (wv == 0) = false := by simpa using hw
  have q1 : (wv != 0) = true := by simpa using hw
  have q2 : (wv == wv) = true := by simp
  clear hv hu e1 e2 hwv hw he
  cases qw : (wv == 2)
  · go_enter Try.func3, Try.ntmps3
    go_wp2_with (first | (go_at_call 5; first | ((with_reducible refine (CA.out _ (bl_refl _)).mono ?_); rintro e w1 ⟨u1, rfl, hs1, hb1⟩; have H1 : Hid (Sl w1 u1 l ∧ Below w.heap.size w w1) := ⟨hs1, hb1⟩; clear hs1 hb1) | ((with_reducible refine (CK.out _ H1.out.2).mono ?_); rintro e w2 ⟨u2, rfl, hs2, hb2⟩; have H2 : Hid (Sl w2 u1 l ∧ Sl w2 u2 ks ∧ Below w.heap.size w w2) := ⟨H1.out.1.kept hb2, hs2, bl_via H1.out.2 hb2⟩; clear hs2 hb2)) | (go_at_call 4; refine (CF.out _ _ _ H2.out.1 H2.out.2.1).mono ?_; rintro e w3 ⟨rfl, hb3⟩; have H3 : Hid (Below w.heap.size w w3) := bl_via H2.out.2.2 hb3; clear hb3) | (go_at_call 6; refine (CM.out _ H3.out).mono ?_; rintro e w4 ⟨rfl, hb4⟩; have H4 : Hid (Below w.heap.size w w4) := bl_via H3.out hb4; clear hb4))
    go_loopg [7, 8] 1 (fun gk s7 s8 wx => s7 = .int .i64 wv ∧ s8 = .int .i64 0 ∧ gk = 1 ∧ Below w.heap.size w wx)
    case atStart => exact ⟨rfl, rfl, rfl, H4.out⟩
    case round =>
      obtain ⟨rfl, rfl, rfl, hB⟩ := hrel
      have HB : Hid (Below w.heap.size w wr) := hB
      clear hB
      by_cases qk : (0 : Int) < (ks.length : Int)
      · go_wp2
        go_ret
        exact ⟨rfl, HB.out⟩
      · go_wp2
        go_ret
        exact ⟨rfl, HB.out⟩
  · have w2 : wv = 2 := by simpa using qw
    subst w2
    go_enter Try.func3, Try.ntmps3
    go_wp2_with (first | (go_at_call 5; first | ((with_reducible refine (CA.out _ (bl_refl _)).mono ?_); rintro e w1 ⟨u1, rfl, hs1, hb1⟩; have H1 : Hid (Sl w1 u1 l ∧ Below w.heap.size w w1) := ⟨hs1, hb1⟩; clear hs1 hb1) | ((with_reducible refine (CK.out _ H1.out.2).mono ?_); rintro e w2 ⟨u2, rfl, hs2, hb2⟩; have H2 : Hid (Sl w2 u1 l ∧ Sl w2 u2 ks ∧ Below w.heap.size w w2) := ⟨H1.out.1.kept hb2, hs2, bl_via H1.out.2 hb2⟩; clear hs2 hb2)) | (go_at_call 4; refine (CF.out _ _ _ H2.out.1 H2.out.2.1).mono ?_; rintro e w3 ⟨rfl, hb3⟩; have H3 : Hid (Below w.heap.size w w3) := bl_via H2.out.2.2 hb3; clear hb3) | (go_at_call 6; refine (CM.out _ H3.out).mono ?_; rintro e w4 ⟨rfl, hb4⟩; have H4 : Hid (Below w.heap.size w w4) := bl_via H3.out hb4; clear hb4))
    go_ret
    exact ⟨rfl, H4.out⟩
set_option maxRecDepth 100000 in
set_option maxHeartbeats 1000000 in
/-- The angles may be. -/
theorem law_may (a b : Option Addr) (c d : Nat) (l ks : List Int) (w : World) (hv : Sg w (.slice a l.length c) l) (hu : Sg w (.slice b ks.length d) ks) (hl : l.length ≤ 17592186044416) (hk : ks.length ≤ 17592186044416) (he : ks.length = l.length) (hw : wrongV l = 0) : Calls Try.prog 3 #[.slice a l.length c, .slice b ks.length d] w fun e w' => e = .returned (.bool true) ∧ Below w.heap.size w w' := by
  have CA : Hid (∀ W : World, Below w.heap.size w W → Calls Try.prog 5 #[.slice a l.length c] W fun e w' => ∃ u, e = .returned u ∧ Sl w' u l ∧ Below W.heap.size W w') := fun W hW => ints_any _ l W (hv.kept hW) hl
  have CK : Hid (∀ W : World, Below w.heap.size w W → Calls Try.prog 5 #[.slice b ks.length d] W fun e w' => ∃ u, e = .returned u ∧ Sl w' u ks ∧ Below W.heap.size W w') := fun W hW => ints_any _ ks W (hu.kept hW) hk
  have CF : Hid (∀ (W : World) (x y : Value), Sl W x l → Sl W y ks → Calls Try.prog 4 #[x, y] W fun e w' => e = .returned (.tuple #[.bool (flatB l ks), .int .i64 (flatE l ks)]) ∧ Below W.heap.size W w') := fun W x y hx hy => flat_any x y l ks W hx hy hl hk
  have CM : Hid (∀ W : World, Below w.heap.size w W → Calls Try.prog 6 #[.slice a l.length c] W fun e w' => e = .returned (.int .i64 (wrongV l)) ∧ Below W.heap.size W w') := fun W hW => may_any _ l W (hv.kept hW) hl
  have e1 : flatB l ks = (!(ks.any p11) && goF (dsk l) l.length ks l.length []) := by unfold flatB; simp [he, hw]
  have e2 : flatE l ks = if ks.any p11 = true then 4 else 0 := by unfold flatE; rw [if_neg (by omega), if_neg (by omega)]
  obtain ⟨w1, w2, w3⟩ := wrong_none hw
  obtain ⟨n2, n8, ne⟩ := bad_none w1
  have CO : Hid (∀ W : World, Below w.heap.size w W → Calls Try.prog 7 #[.slice a l.length c] W fun e w' => ∃ g m O, e = .returned (.slice (some ⟨g, 0, none⟩) m m) ∧ m = 2 ^ l.length ∧ BR w' g m O ∧ (∀ b : Nat, b < m → (O b = true ↔ Ord (plc l l.length) l.length (b : Int))) ∧ Below W.heap.size W w') := fun W hW => orders_any _ l W (hv.kept hW) n2 n8 (p16_bd w2)
  have CN : Hid (ks.any p11 = false → ∀ W : World, Below w.heap.size w W → Calls Try.prog 8 #[.slice b ks.length d] W fun e w' => e = .returned (.int .i64 (numK ks ks.length)) ∧ Below W.heap.size W w') := fun h W hW => kindsNumber_any _ ks W (hu.kept hW) (by omega) (p11_bd h)
  have HT : Hid (ks.any p11 = false → (goF (dsk l) l.length ks l.length [] = true ↔ Ord (plc l l.length) l.length (numK ks l.length)) ∧ ∃ k : Nat, numK ks ks.length = (k : Int) ∧ k < 2 ^ l.length) := fun h => by
    refine ⟨same_told hw h he, ?_⟩
    have hb := numK_bd (ks := ks) (n := ks.length) (p11_bd h) ks.length (Nat.le_refl _)
    refine ⟨(numK ks ks.length).toNat, by omega, ?_⟩
    have : ((2 ^ ks.length : Nat) : Int) = (2 : Int) ^ ks.length := by simp
    rw [← he]
    omega
  obtain ⟨_, _, hva, hR⟩ := hu
  cases hva
  have HR : Hid (∀ i, i < ks.length → ∃ g off, b = some ⟨g, off, none⟩ ∧ w.cell? ⟨g, off + i, none⟩ = some (.int .i64 (gt ks i))) := hR
  have HE : Hid (flatB l ks = (!(ks.any p11) && goF (dsk l) l.length ks l.length []) ∧ flatE l ks = if ks.any p11 = true then 4 else 0) := ⟨e1, e2⟩
  obtain ⟨fb, hfb⟩ : ∃ x, x = flatB l ks := ⟨_, rfl⟩
  obtain ⟨fe, hfe⟩ : ∃ x, x = flatE l ks := ⟨_, rfl⟩
  rw [← hfb, ← hfe] at CF HE
  rw [hw] at CM
  have HQ : Hid (ks.length = l.length) := he
  have q : ((ks.length : Int) != (l.length : Int)) = false := by rw [he]; simp
  have kl : ks.length ≤ 8 := by omega
  clear hv e1 e2 hfb hfe hw he w1 w2 w3 ne hR n2 n8
  go_enter Try.func3, Try.ntmps3
  go_wp2_with (first | (go_at_call 5; first | ((with_reducible refine (CA.out _ (bl_refl _)).mono ?_); rintro e w1 ⟨u1, rfl, hs1, hb1⟩; have H1 : Hid (Sl w1 u1 l ∧ Below w.heap.size w w1) := ⟨hs1, hb1⟩; clear hs1 hb1) | ((with_reducible refine (CK.out _ H1.out.2).mono ?_); rintro e w2 ⟨u2, rfl, hs2, hb2⟩; have H2 : Hid (Sl w2 u1 l ∧ Sl w2 u2 ks ∧ Below w.heap.size w w2) := ⟨H1.out.1.kept hb2, hs2, bl_via H1.out.2 hb2⟩; clear hs2 hb2)) | (go_at_call 4; refine (CF.out _ _ _ H2.out.1 H2.out.2.1).mono ?_; rintro e w3 ⟨rfl, hb3⟩; have H3 : Hid (Below w.heap.size w w3) := bl_via H2.out.2.2 hb3; clear hb3) | (go_at_call 6; refine (CM.out _ H3.out).mono ?_; rintro e w4 ⟨rfl, hb4⟩; have H4 : Hid (Below w.heap.size w w4) := bl_via H3.out hb4; clear hb4))
  go_loopg [7, 8] (ks.length + 1) (fun gk s7 s8 wx => ∃ (i : Nat) (no : Int), i ≤ ks.length ∧ gk = ks.length + 1 - i ∧ s8 = .int .i64 (i : Int) ∧ s7 = .int .i64 no ∧ Below w.heap.size w wx ∧ ((no = 0 ∧ ∀ k, k < i → p11 (gt ks k) = false) ∨ (no = 4 ∧ ks.any p11 = true)))
  case atStart => exact ⟨0, 0, by omega, rfl, rfl, rfl, H4.out, Or.inl ⟨rfl, fun k hk => by omega⟩⟩
  case round =>
    clear CA CK CF CM H1 H2 H3 H4
    obtain ⟨i, no, hi, rfl, rfl, rfl, hB, hno⟩ := hrel
    have HB : Hid (Below w.heap.size w wr) := hB
    clear hB
    rcases hno with ⟨rfl, hno⟩ | ⟨rfl, hno⟩
    · have HN : Hid (∀ k, k < i → p11 (gt ks k) = false) := hno
      clear hno
      by_cases h1 : i < ks.length
      · have i1 : (i : Int) < (ks.length : Int) := by omega
        have i0 : (0 : Int) ≤ (i : Int) := by omega
        obtain ⟨g, off, rfl, c0⟩ := HR.out i h1
        replace c0 := cl_kept HB.out c0
        have zg : g < wr.heap.size := World.block_lt_of_cell? _ _ c0
        obtain ⟨vi, hvi⟩ : ∃ v, v = gt ks i := ⟨_, rfl⟩
        rw [← hvi] at c0
        have HVI : Hid (vi = gt ks i) := hvi
        clear hvi
        by_cases a1 : vi = 1
        · subst a1
          have HF : Hid (∀ k, k < i + 1 → p11 (gt ks k) = false) := fun k hk => by
            by_cases hki : k < i
            · exact HN.out k hki
            · have : k = i := by omega
              rw [this, ← HVI.out]
              rfl
          go_wp2
          go_roundg (ks.length + 1 - (i + 1))
          case measure => omega
          case rel => exact ⟨i + 1, 0, by omega, rfl, by go_num, rfl, HB.out, Or.inl ⟨rfl, HF.out⟩⟩
        · have ab : (vi != 1) = true := by simpa using a1
          by_cases a2 : vi = 2
          · subst a2
            have HF : Hid (∀ k, k < i + 1 → p11 (gt ks k) = false) := fun k hk => by
              by_cases hki : k < i
              · exact HN.out k hki
              · have : k = i := by omega
                rw [this, ← HVI.out]
                rfl
            go_wp2
            go_roundg (ks.length + 1 - (i + 1))
            case measure => omega
            case rel => exact ⟨i + 1, 0, by omega, rfl, by go_num, rfl, HB.out, Or.inl ⟨rfl, HF.out⟩⟩
          · have ac : (vi != 2) = true := by simpa using a2
            have HF : Hid (ks.any p11 = true) := by
              have : ks.any p11 = true := by
                rw [List.any_eq_true]
                refine ⟨vi, ?_, by simp [p11, a1, a2]⟩
                rw [HVI.out, gt_lt h1]
                exact List.getElem_mem h1
              exact this
            go_wp2
            go_roundg (ks.length + 1 - (i + 1))
            case measure => omega
            case rel => exact ⟨i + 1, 4, by omega, rfl, by go_num, rfl, HB.out, Or.inr ⟨rfl, HF.out⟩⟩
      · have i1 : ¬ (i : Int) < (ks.length : Int) := by omega
        obtain rfl : i = ks.length := by omega
        have HA : Hid (ks.any p11 = false) := by
          have : ks.any p11 = false := by
            rw [List.any_eq_false]
            intro x hx
            obtain ⟨k, hk, e⟩ := List.getElem_of_mem hx
            have := HN.out k hk
            rw [gt_lt hk, e] at this
            simp [this]
          exact this
        obtain ⟨ht, kk, hk1, hk2⟩ := HT.out HA.out
        have e5 := HE.out.1
        have e6 := HE.out.2
        rw [HA.out] at e5 e6
        simp only [Bool.not_false, Bool.true_and, Bool.false_eq_true, if_false] at e5 e6
        subst e6
        have HG : Hid (fb = true ↔ Ord (plc l l.length) l.length (kk : Int)) := by
          rw [e5, ht, ← HQ.out, hk1, HQ.out]
          exact Iff.rfl
        have C8 : Hid (∀ W : World, Below w.heap.size w W → Calls Try.prog 8 #[.slice b ks.length d] W fun e w' => e = .returned (.int .i64 (kk : Int)) ∧ Below W.heap.size W w') := fun W hW => by
          have := CN.out HA.out W hW
          rw [hk1] at this
          exact this
        have HK : Hid (kk < 2 ^ l.length) := hk2
        clear ht hk1 hk2 e5 HE CN HT
        go_wp2_with (first | (go_at_call 7; refine (CO.out _ HB.out).mono ?_; rintro e w5 ⟨g, m, O, rfl, hm, hr, ho, hb5⟩; have H5 : Hid (m = 2 ^ l.length ∧ BR w5 g m O ∧ (∀ b : Nat, b < m → (O b = true ↔ Ord (plc l l.length) l.length (b : Int))) ∧ Below w.heap.size w w5) := ⟨hm, hr, ho, bl_via HB.out hb5⟩; clear hm hr ho hb5) | (go_at_call 8; refine (C8.out _ H5.out.2.2.2).mono ?_; rintro e w6 ⟨rfl, hb6⟩; have H6 : Hid (kk < m ∧ Below w.heap.size w w6 ∧ w6.cell? ⟨g, kk, none⟩ = some (.bool (O kk))) := ⟨(by have := HK.out; have := H5.out.1; omega), bl_via H5.out.2.2.2 hb6, cl_kept hb6 (H5.out.2.1 kk (by have := HK.out; have := H5.out.1; omega)).1⟩; have k1 : (kk : Int) < (m : Int) := (by have := H6.out.1; omega); have k0 : (0 : Int) ≤ (kk : Int) := (by omega); have c6 := H6.out.2.2; have z6 : g < w6.heap.size := World.block_lt_of_cell? _ _ c6; clear hb6))
        go_ret
        refine ⟨ret_bool ?_, H6.out.2.1⟩
        have h9 := H5.out.2.2.1 kk H6.out.1
        have h8 := HG.out
        rw [Bool.eq_iff_iff]
        simp only [beq_iff_eq, iff_true]
        rw [Bool.eq_iff_iff, h9, h8]
    · have HN : Hid (ks.any p11 = true) := hno
      clear hno
      have e5 := HE.out.1
      have e6 := HE.out.2
      rw [HN.out] at e5 e6
      simp only [Bool.not_true, Bool.false_and, if_true] at e5 e6
      subst e5
      subst e6
      clear HE CN HT CO
      by_cases i1 : (i : Int) < (ks.length : Int)
      · go_wp2
        go_ret
        exact ⟨rfl, HB.out⟩
      · go_wp2
        go_ret
        exact ⟨rfl, HB.out⟩
theorem law_any (a b : Option Addr) (c d : Nat) (l ks : List Int) (w : World) (hv : Sg w (.slice a l.length c) l) (hu : Sg w (.slice b ks.length d) ks) (hl : l.length ≤ 17592186044416) (hk : ks.length ≤ 17592186044416) : Calls Try.prog 3 #[.slice a l.length c, .slice b ks.length d] w fun e w' => e = .returned (.bool true) ∧ Below w.heap.size w w' := by
  by_cases h1 : ks.length = l.length
  · by_cases h2 : wrongV l = 0
    · exact law_may a b c d l ks w hv hu hl hk h1 h2
    · exact law_wrong a b c d l ks w hv hu hl hk h1 h2
  · exact law_size a b c d l ks w hv hu hl hk h1
end Go.Proofs.Ytmiahgbkljidnab
