/- The law VertexAll. -/
import Derived.Test.YtoedcefbmbfnhacAlll
namespace Go.Proofs.Ytoedcefbmbfnhac
open Go.RowKit

theorem GR.keptH {W W' : World} {a : Option Addr} {gs : List Nat} {X : List Int} {Ls : List (List Int)} (h : GR W a gs X Ls) (hb : Below W.heap.size W W') : Hid (GR W' a gs X Ls) := h.kept hb
theorem sg_row {w : World} {g : Nat} {l : List Int} (h : Rw w g l) : Sg w (.slice (some ⟨g, 0, none⟩) l.length l.length) l := ⟨some ⟨g, 0, none⟩, l.length, rfl, fun i hi => ⟨g, 0, rfl, by rw [Nat.zero_add]; exact h i hi⟩⟩
set_option maxRecDepth 100000 in
set_option maxHeartbeats 800000 in
theorem vall_bad (a : Option Addr) (c : Nat) (l : List Int) (w : World) (hv : Sg w (.slice a l.length c) l) (hl : l.length ≤ 17592186044416) (hw : wrongV l ≠ 0) :
    Calls Try.prog 3 #[.slice a l.length c] w fun e w' => e = .returned (.bool true) ∧ Below w.heap.size w w' := by
  have CI : Hid (∀ W : World, Below w.heap.size w W → Calls Try.prog 7 #[.slice a l.length c] W fun e w' => ∃ u, e = .returned u ∧ Sl w' u l ∧ Below W.heap.size W w') := fun W hW => ints_any _ l W (hv.kept hW) hl
  have C6 : Hid (∀ (W : World) (u : Value), Sl W u l → Calls Try.prog 6 #[u] W fun e w' => e = .returned (.tuple #[.slice none 0 0, .int .i64 (wrongV l)]) ∧ Below W.heap.size W w') := fun W u hu => all_bad u l W hu hl hw
  have C8 : Hid (∀ (W : World) (u : Value), Sl W u l → Calls Try.prog 8 #[u] W fun e w' => e = .returned (.tuple #[.int .i64 0, .int .i64 (wrongV l)]) ∧ Below W.heap.size W w') := fun W u hu => count_bad u l W hu hl hw
  have C9 : Hid (∀ W : World, Below w.heap.size w W → Calls Try.prog 9 #[.slice a l.length c] W fun e w' => e = .returned (.int .i64 (wrongV l)) ∧ Below W.heap.size W w') := fun W hW => may_any _ l W (hv.kept hW) hl
  obtain ⟨z, hz⟩ : ∃ z, z = wrongV l := ⟨_, rfl⟩
  rw [← hz] at C6 C8 C9 hw
  have qz : (z != 0) = true := by simpa using hw
  have HB : Hid (Below w.heap.size w w) := bl_refl w
  clear hv hl hw hz
  go_enter Try.func3, Try.ntmps3
  go_wp2_with (first
    | (go_at_call 7; refine (CI.out _ HB.out).mono ?_; rintro e w1 ⟨u, rfl, hu, hb⟩; obtain ⟨ua, uc, rfl, _⟩ := sl_meet hu; have HU : Hid (Sl w1 (.slice ua l.length uc) l) := hu; have hq := bl_via HB.out hb; clear hu hb HB; have HB : Hid (Below w.heap.size w w1) := hq; clear hq)
    | (go_at_call 6; refine (C6.out _ _ HU.out).mono ?_; rintro e w2 ⟨rfl, hb⟩; have hq := bl_via HB.out hb; clear hb HB; have HB : Hid (Below w.heap.size w w2) := hq; clear hq)
    | (go_at_call 8; refine (C8.out _ _ HU.out).mono ?_; rintro e w2 ⟨rfl, hb⟩; have hq := bl_via HB.out hb; clear hb HB; have HB : Hid (Below w.heap.size w w2) := hq; clear hq)
    | (go_at_call 9; refine (C9.out _ HB.out).mono ?_; rintro e w2 ⟨rfl, hb⟩; have hq := bl_via HB.out hb; clear hb HB; have HB : Hid (Below w.heap.size w w2) := hq; clear hq))
  go_ret
  exact ⟨rfl, HB.out⟩
set_option maxRecDepth 100000 in
set_option maxHeartbeats 1600000 in
theorem vall_ok (a : Option Addr) (c : Nat) (l : List Int) (w : World) (hv : Sg w (.slice a l.length c) l) (hl : l.length ≤ 17592186044416) (hw : wrongV l = 0) :
    Calls Try.prog 3 #[.slice a l.length c] w fun e w' => e = .returned (.bool true) ∧ Below w.heap.size w w' := by
  obtain ⟨n2, n8, ne⟩ := bad_none (wrong_none hw).1
  have CI : Hid (∀ W : World, Below w.heap.size w W → Calls Try.prog 7 #[.slice a l.length c] W fun e w' => ∃ u, e = .returned u ∧ Sl w' u l ∧ Below W.heap.size W w') := fun W hW => ints_any _ l W (hv.kept hW) hl
  have C6 : Hid (∀ (W : World) (u : Value), Sl W u l → Calls Try.prog 6 #[u] W fun e w' => ∃ a c gs, e = .returned (.tuple #[.slice a (List.length gs) c, .int .i64 0]) ∧ GR w' a gs (dsk l) (KL (dsk l) (2 ^ l.length)) ∧ Below W.heap.size W w') := fun W u hu => all_ok u l W hu hl hw
  have C8 : Hid (∀ (W : World) (u : Value), Sl W u l → Calls Try.prog 8 #[u] W fun e w' => e = .returned (.tuple #[.int .i64 (cnt (dsk l) (2 ^ l.length) : Int), .int .i64 0]) ∧ Below W.heap.size W w') := fun W u hu => count_ok u l W hu hl hw
  have C9 : Hid (∀ W : World, Below w.heap.size w W → Calls Try.prog 9 #[.slice a l.length c] W fun e w' => e = .returned (.int .i64 0) ∧ Below W.heap.size W w') := fun W hW => by
    have := may_any _ l W (hv.kept hW) hl
    rw [hw] at this
    exact this
  have hbd := p16_bd (wrong_none hw).2.1
  have C10 : Hid (∀ W : World, Below w.heap.size w W → Calls Try.prog 10 #[.slice a l.length c] W fun e w' => ∃ g O, e = .returned (.slice (some ⟨g, 0, none⟩) (2 ^ l.length) (2 ^ l.length)) ∧ BR w' g (2 ^ l.length) O ∧ (∀ b : Nat, b < 2 ^ l.length → O b = goB (dsk l) b) ∧ Below W.heap.size W w') := fun W hW => (orders_any _ l W (hv.kept hW) n2 n8 hbd).mono fun e w' ⟨g, m, O, h1, h2, h3, h4, h5⟩ => by
    subst h2
    exact ⟨g, O, h1, h3, fun b hb => by rw [Bool.eq_iff_iff, h4 b hb, goB_ord hw hb], h5⟩
  have hKA := KL_at (dsk l)
  have hKL := KL_len (dsk l)
  have hM9 := (shl_nat n8).2
  have hcs : ∀ k, cnt (dsk l) k ≤ k := cnt_le (dsk l)
  have HXL : Hid ((dsk l).length = l.length) := dsk_len l
  obtain ⟨X, hX⟩ : ∃ X, X = dsk l := ⟨_, rfl⟩
  rw [← hX] at C6 C8 C10 hKA hKL hcs HXL
  obtain ⟨M, hM⟩ : ∃ M, M = 2 ^ l.length := ⟨_, rfl⟩
  have HML : Hid (∀ k, k < M → numK (lst l.length k) l.length = (k : Int)) := fun k hk => by
    have := numK_lst (n := l.length) (k := k) (by rw [← hM]; exact hk) l.length (Nat.le_refl _)
    simpa using this
  rw [← hM] at C6 C8 C10 hM9
  have HKA : Hid (∀ N m, m < N → goB X m = true → cnt X m < cnt X N ∧ (KL X N).getD (cnt X m) [] = lst X.length m) := hKA
  have HKL : Hid (∀ k, (KL X k).length = cnt X k) := hKL
  have HCS : Hid (∀ k, cnt X k ≤ k) := hcs
  have HB : Hid (Below w.heap.size w w) := bl_refl w
  have HG : Hid True := trivial
  obtain ⟨CN, hCN⟩ : ∃ x, x = cnt X M := ⟨_, rfl⟩
  rw [← hCN] at C8
  have HCN : Hid (CN = cnt X M) := hCN
  have hcn9 : CN ≤ 256 := by rw [hCN]; exact Nat.le_trans (HCS.out M) hM9
  obtain ⟨Ls, hLs⟩ : ∃ x, x = KL X M := ⟨_, rfl⟩
  rw [← hLs] at C6
  have HLS : Hid (Ls = KL X M) := hLs
  clear hv hl hw hbd hKA hKL hcs hX hM hCN hLs ne
  go_enter Try.func3, Try.ntmps3
  go_upto_region 7 with (first
    | (go_at_call 7; refine (CI.out _ HB.out).mono ?_; rintro e w1 ⟨u, rfl, hu, hb⟩; obtain ⟨ua, uc, rfl, _⟩ := sl_meet hu; have HU : Hid (Sl w1 (.slice ua l.length uc) l) := hu; (try (have HG := HG.out.keptH hb)); have hq := bl_via HB.out hb; clear hu hb HB; have HB : Hid (Below w.heap.size w w1) := hq; clear hq)
    | (go_at_call 6; refine (C6.out _ _ HU.out).mono ?_; rintro e w2 ⟨a6, c6, gs, rfl, hgr, hb⟩; have HG : Hid (GR w2 a6 gs X Ls) := hgr; clear hgr; have hq := bl_via HB.out hb; clear hb HB; have HB : Hid (Below w.heap.size w w2) := hq; clear hq)
    | (go_at_call 8; refine (C8.out _ _ HU.out).mono ?_; rintro e w2 ⟨rfl, hb⟩; have HG := HG.out.keptH hb; have hq := bl_via HB.out hb; clear hb HB; have HB : Hid (Below w.heap.size w w2) := hq; clear hq)
    | (go_at_call 9; refine (C9.out _ HB.out).mono ?_; rintro e w2 ⟨rfl, hb⟩; have HG := HG.out.keptH hb; have hq := bl_via HB.out hb; clear hb HB; have HB : Hid (Below w.heap.size w w2) := hq; clear hq)
    | (go_at_call 10; refine (C10.out _ HB.out).mono ?_; rintro e w9 ⟨go, O, rfl, hbr, hO, hb⟩; have HG := HG.out.keptH hb; have HO : Hid (BR w9 go M O ∧ ∀ b : Nat, b < M → O b = goB X b) := ⟨hbr, hO⟩; have hq := bl_via HB.out hb; clear hb HB hbr hO; have HB : Hid (Below w.heap.size w w9) := hq; clear hq))
  have HGL : Hid (gs.length = CN) := by
    have : gs.length = CN := by rw [HG.out.2.1, HLS.out, HKL.out, HCN.out]
    exact this
  have hgl9 : gs.length ≤ 256 := by rw [HGL.out]; exact hcn9
  go_wp2
  go_loopg [9, 10] M (fun gk s9 s10 wx => ∃ m : Nat, m ≤ M ∧ gk = M - m ∧ s9 = .int .i64 (cnt X m : Int) ∧ s10 = .int .i64 (m : Int) ∧ Below w9.heap.size w9 wx)
  case atStart => exact ⟨0, by omega, rfl, rfl, rfl, bl_refl _⟩
  case round =>
    obtain ⟨m, hm, rfl, rfl, rfl, hB⟩ := hrel
    have HBW : Hid (Below w9.heap.size w9 wr) := hB
    clear hB
    have hcm := HCS.out m
    obtain ⟨km, hkm⟩ : ∃ z, z = cnt X m := ⟨_, rfl⟩
    rw [← hkm] at hcm
    rw [← hkm]
    have HKM : Hid (km = cnt X m) := hkm
    clear hkm
    by_cases h1 : m < M
    · have i1 : (m : Int) < (M : Int) := by omega
      have i0 : (0 : Int) ≤ (m : Int) := by omega
      have c0 := cl_kept HBW.out (HO.out.1 m h1).1
      have zo : go < wr.heap.size := World.block_lt_of_cell? _ _ c0
      have hOg := HO.out.2 m h1
      cases hOm : O m
      · rw [hOm] at c0 hOg
        have HN : Hid (cnt X (m + 1) = km) := by
          have : cnt X (m + 1) = km := by rw [cnt, ← hOg, HKM.out]; simp
          exact this
        clear hOm hOg
        go_wp2
        go_roundg (M - (m + 1))
        case measure => omega
        case rel => exact ⟨m + 1, by omega, rfl, by rw [HN.out], by go_num, HBW.out⟩
      · rw [hOm] at c0 hOg
        have HN : Hid (cnt X (m + 1) = km + 1) := by
          have : cnt X (m + 1) = km + 1 := by rw [cnt, ← hOg, HKM.out]; simp
          exact this
        obtain ⟨hlt, hat⟩ := HKA.out M m h1 hOg.symm
        rw [← HKM.out] at hlt hat
        rw [← HCN.out, ← HGL.out] at hlt
        have k1 : (km : Int) < (gs.length : Int) := by omega
        have k0 : (0 : Int) ≤ (km : Int) := by omega
        have k2 : ¬ (gs.length : Int) ≤ (km : Int) := by omega
        obtain ⟨ga, ea, c1⟩ := HG.out.1 km hlt
        have hR := HG.out.2.2 km hlt
        rw [HLS.out, hat, HXL.out] at hR
        rw [sv, HXL.out] at c1
        obtain ⟨gk, hgk⟩ : ∃ z, z = gs.getD km 0 := ⟨_, rfl⟩
        rw [← hgk] at hR c1
        subst ea
        replace c1 := cl_kept HBW.out c1
        have za : ga < wr.heap.size := World.block_lt_of_cell? _ _ c1
        have HRK : Hid (Rw wr gk (lst l.length m)) := hR.kept HBW.out
        have C11 : Hid (∀ W : World, Below wr.heap.size wr W → Calls Try.prog 11 #[.slice (some ⟨gk, 0, none⟩) l.length l.length] W fun e w' => e = .returned (.int .i64 (m : Int)) ∧ Below W.heap.size W w') := fun W hW => by
          have h9 := sg_row (HRK.out.kept hW)
          rw [lst_len] at h9
          have h8 := kindsNumber_any _ (lst l.length m) W h9 (by rw [lst_len]; exact n8) (fun i hi => lst_two (by rw [lst_len] at hi; exact hi))
          rw [lst_len, HML.out m h1] at h8
          exact h8
        have qq : ((l.length : Int) != (l.length : Int)) = false := by simp
        have qm : ((m : Int) != (m : Int)) = false := by simp
        clear hOm hOg hat hR hgk
        go_upto_region 14 with (go_at_call 11; refine (C11.out _ (bl_refl _)).mono ?_; rintro e w7 ⟨rfl, hb7⟩; have H7 : Hid (Below w9.heap.size w9 w7 ∧ Rw w7 gk (lst l.length m)) := ⟨bl_via HBW.out hb7, HRK.out.kept hb7⟩; have c1 := cl_kept hb7 c1; have za : ga < w7.heap.size := World.block_lt_of_cell? _ _ c1; clear hb7)
        clear c0 zo C11 HRK
        go_wp2
        go_loopg [11] l.length (fun gk9 s11 wx => ∃ i : Nat, i ≤ l.length ∧ gk9 = l.length - i ∧ s11 = .int .i64 (i : Int) ∧ wx = w7)
        case atStart => exact ⟨0, by omega, rfl, rfl, rfl⟩
        case round =>
          obtain ⟨i, hi, rfl, rfl, rfl⟩ := hrel
          by_cases hi1 : i < l.length
          · have j1 : (i : Int) < (l.length : Int) := by omega
            have j0 : (0 : Int) ≤ (i : Int) := by omega
            have d0 := H7.out.2 i (by rw [lst_len]; exact hi1)
            have zk : gk < wr.heap.size := World.block_lt_of_cell? _ _ d0
            rcases lst_two (k := m) hi1 with e | e
            · rw [e] at d0
              go_wp2
              go_roundg (l.length - (i + 1))
              case measure => omega
              case rel => exact ⟨i + 1, by omega, rfl, by go_num, rfl⟩
            · rw [e] at d0
              go_wp2
              go_roundg (l.length - (i + 1))
              case measure => omega
              case rel => exact ⟨i + 1, by omega, rfl, by go_num, rfl⟩
          · have j1 : ¬ (i : Int) < (l.length : Int) := by omega
            go_wp2
            go_roundg (M - (m + 1))
            case measure => omega
            case rel => exact ⟨m + 1, by omega, rfl, by rw [HN.out]; go_num, by go_num, H7.out.1⟩
    · have i1 : ¬ (m : Int) < (M : Int) := by omega
      obtain rfl : m = M := by omega
      have hk9 : km = gs.length := by rw [HGL.out, HCN.out, HKM.out]
      have hk8 : km = CN := by rw [HCN.out, HKM.out]
      have q1 : ((km : Int) == (gs.length : Int)) = true := by rw [hk9]; simp
      have q2 : ((CN : Int) == (km : Int)) = true := by rw [hk8]; simp
      clear hk9 hk8
      go_wp2
      go_ret
      exact ⟨rfl, bl_via HB.out HBW.out⟩
theorem vall_any (a : Option Addr) (c : Nat) (l : List Int) (w : World) (hv : Sg w (.slice a l.length c) l) (hl : l.length ≤ 17592186044416) :
    Calls Try.prog 3 #[.slice a l.length c] w fun e w' => e = .returned (.bool true) ∧ Below w.heap.size w w' := by
  by_cases hw : wrongV l = 0
  · exact vall_ok a c l w hv hl hw
  · exact vall_bad a c l w hv hl hw
end Go.Proofs.Ytoedcefbmbfnhac
