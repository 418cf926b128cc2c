/- The law DragonBack. -/
import Derived.Test.YtblagffijppgjaaBack
namespace Go.Proofs.Ytblagffijppgjaa
open Go.RowKit

set_option maxRecDepth 100000 in
set_option maxHeartbeats 2000000 in
theorem back_any (a : Option Addr) (c : Nat) (l : List Int) (w : World) (hv : Sg w (.slice a l.length c) l) (hb : ∀ i, i < l.length → -9223372036854775808 ≤ gt l i ∧ gt l i ≤ 9223372036854775807) :
    Calls Try.prog 5 #[.slice a l.length c] w fun e w' => e = .returned (.bool true) ∧ Below w.heap.size w w' := by
  have CK : Hid (Calls Try.prog 16 #[.slice a l.length c, .int .i64 10] w fun e w' => ∃ (fs : List Int) (a c : _), e = .returned (.slice a fs.length c) ∧ (fs.length ≤ 10 ∧ allK fs = true) ∧ Sg w' (.slice a fs.length c) fs ∧ Below w.heap.size w w') := kinds_any a c l w hv hb
  have C7 : Hid (∀ (fs : List Int) (W : World) (u : Value), fs.length ≤ 10 → allK fs = true → Sg W u fs → Calls Try.prog 7 #[u] W fun e w' => ∃ a c, e = .returned (.tuple #[.slice a (opn fs).length c, .int .i64 0]) ∧ Sg w' (.slice a (opn fs).length c) (opn fs) ∧ Below W.heap.size W w') := fun fs W u h10 ha hu => (word7 u fs W hu (by omega)).mono fun e w' ⟨u, h1, h2, h3⟩ => by
    have hf : fmay fs = 0 := fmay_ok.2 ⟨h10, ha⟩
    rw [wordR, if_pos hf] at h2
    rw [hf] at h1
    obtain ⟨a, c, rfl, h4⟩ := h2.sg
    exact ⟨a, c, h1, ⟨a, c, rfl, h4⟩, h3⟩
  have C14 : Hid (∀ (fs : List Int) (W : World) (u : Value), fs.length ≤ 10 → allK fs = true → Sg W u (opn fs) → Calls Try.prog 14 #[u] W fun e w' => ∃ a c, e = .returned (.tuple #[.slice a fs.length c, .int .i64 0]) ∧ Sg w' (.slice a fs.length c) fs ∧ Below W.heap.size W w') := fun fs W u h10 ha hu => (folds14 u (opn fs) W hu (by have := opn_small h10 fs.length; rw [List.take_length] at this; omega)).mono fun e w' ⟨u, h1, h2, h3⟩ => by
    obtain ⟨hf, hr⟩ := code_opn h10 ha
    rw [hf] at h1
    rw [hr] at h2
    obtain ⟨a, c, rfl, h4⟩ := h2.sg
    exact ⟨a, c, h1, ⟨a, c, rfl, h4⟩, h3⟩
  have C17 : Hid (∀ (fs : List Int) (W : World) (x y : Value), fs.length ≤ 10 → Sg W x fs → Sg W y fs → Calls Try.prog 17 #[x, y] W fun e w' => e = .returned (.bool true) ∧ Below W.heap.size W w') := fun fs W x y h10 hx hy => by
    have := equals_any x y fs fs W hx hy (by omega) (by omega)
    simpa using this
  obtain ⟨i3, hI⟩ := info_parts inf3
  have HI : Hid (Try.prog.info? 3 = some i3 ∧ i3.zero = some (.int .i64 0) ∧ i3.size = 1 ∧ i3.bytes = 8) := hI
  clear hI hv hb
  go_enter Try.func5, Try.ntmps5
  go_wp2_with (go_at_call 16; refine CK.out.mono ?_; rintro e w1 ⟨fs, a1, c1, rfl, ⟨h10, ha⟩, hs, hb⟩; have H1 : Hid (allK fs = true ∧ Sg w1 (.slice a1 fs.length c1) fs ∧ Below w.heap.size w w1) := ⟨ha, hs, hb⟩; clear ha hs hb; obtain ⟨ws, hws⟩ : ∃ x, x = opn fs := ⟨_, rfl⟩; have HWS : Hid (ws = opn fs) := hws; have C7a := C7.out fs; rw [← hws] at C7a; have HC7 : Hid (∀ (W : World) (u : Value), fs.length ≤ 10 → allK fs = true → Sg W u fs → Calls Try.prog 7 #[u] W fun e w' => ∃ a c, e = .returned (.tuple #[.slice a ws.length c, .int .i64 0]) ∧ Sg w' (.slice a ws.length c) ws ∧ Below W.heap.size W w') := C7a; clear C7a hws)
  have hp := (shl_nat h10).1
  have hlen := opn_len fs
  rw [← hlen, ← HWS.out] at hp
  have hp2 : wrap64 ((2 : Int) ^ fs.length) = (ws.length : Int) + 1 := by
    rw [hp]
    omega
  have h1023 : ws.length ≤ 1023 := by
    have := opn_small h10 fs.length
    rw [List.take_length, ← HWS.out] at this
    exact this
  have HC14 : Hid (∀ (W : World) (u : Value), Sg W u ws → Calls Try.prog 14 #[u] W fun e w' => ∃ a c, e = .returned (.tuple #[.slice a fs.length c, .int .i64 0]) ∧ Sg w' (.slice a fs.length c) fs ∧ Below W.heap.size W w') := fun W u hu => C14.out fs W u h10 H1.out.1 (by rw [← HWS.out]; exact hu)
  have HC17 : Hid (∀ (W : World) (x y : Value), Sg W x fs → Sg W y fs → Calls Try.prog 17 #[x, y] W fun e w' => e = .returned (.bool true) ∧ Below W.heap.size W w') := fun W x y => C17.out fs W x y h10
  have HKD : Hid (∀ i, i < ws.length → gt ws i = 1 ∨ gt ws i = 2) := fun i hi => by
    refine allK_at ?_ hi
    rw [HWS.out]
    exact allK_opn H1.out.1
  have HCB : Hid (∀ (W : World) (u : Value), Sg W u (bck ws) → Calls Try.prog 14 #[u] W fun e w' => ∃ a c, e = .returned (.tuple #[.slice a fs.length c, .int .i64 0]) ∧ Below W.heap.size W w') := fun W u hu => by
    rw [HWS.out, bck_opn] at hu
    have := C14.out (fbk fs) W u (by rw [fbk_len]; exact h10) (fbk_allK H1.out.1) hu
    rw [fbk_len] at this
    exact this.mono fun e w' ⟨a, c, h1, h2, h3⟩ => ⟨a, c, h1, h3⟩
  clear hp hlen C7 C14 C17 CK
  go_wp2_with (first
    | (go_at_call 7; refine (HC7.out _ _ h10 H1.out.1 H1.out.2.1).mono ?_; rintro e w2 ⟨a2, c2, rfl, hs, hb⟩; have H2 : Hid (Sg w2 (.slice a1 fs.length c1) fs ∧ Sg w2 (.slice a2 ws.length c2) ws ∧ Below w.heap.size w w2) := ⟨H1.out.2.1.kept hb, hs, bl_via H1.out.2.2 hb⟩; clear hs hb)
    | (go_at_call 14; refine (HC14.out _ _ H2.out.2.1).mono ?_; rintro e w3 ⟨a3, c3, rfl, hs, hb⟩; have H3 : Hid (Sg w3 (.slice a1 fs.length c1) fs ∧ Sg w3 (.slice a3 fs.length c3) fs ∧ Sg w3 (.slice a2 ws.length c2) ws ∧ Below w.heap.size w w3) := ⟨H2.out.1.kept hb, hs, H2.out.2.1.kept hb, bl_via H2.out.2.2 hb⟩; clear hs hb)
    | (go_at_call 17; refine (HC17.out _ _ _ H3.out.2.1 H3.out.1).mono ?_; rintro e w4 ⟨rfl, hb⟩; have H4 : Hid (Sg w4 (.slice a2 ws.length c2) ws ∧ Below w.heap.size w w4) := ⟨H3.out.2.2.1.kept hb, bl_via H3.out.2.2.2 hb⟩; clear hb))
  try rw [hp2]
  clear hp2 HC7 HC14 HC17 H1 H2 H3
  have HR4 : Hid (∀ i, i < ws.length → ∃ g off, a2 = some ⟨g, off, none⟩ ∧ w4.cell? ⟨g, off + i, none⟩ = some (.int .i64 (gt ws i))) := by
    obtain ⟨a', c', e, h⟩ := H4.out.1
    cases e
    exact h
  go_loopg [8, 9] ws.length (fun gk s8 s9 wx => ∃ r : Nat, r ≤ ws.length ∧ r = gk ∧ s9 = .int .i64 ((r : Int) - 1) ∧ Hid (wx.ownsRow w4.heap.size 3 1 s8 (ws.length - r) (rowI (bkl ws r))) ∧ Hid (Below w4.heap.size w4 wx))
  case atStart => exact ⟨ws.length, Nat.le_refl _, rfl, by go_num, ⟨by simp [rowI, bkl], Or.inl ⟨rfl, by omega⟩⟩, bl_refl _⟩
  case round =>
    obtain ⟨r, hr, rfl, rfl, HO, HB⟩ := hrel
    cases r with
    | zero =>
      have HX : Hid (Sg wr u8 (bck ws)) := by
        have h := HO.out
        rw [bkl_zero] at h
        exact (own_sl (n := ws.length - 0) (base := w4.heap.size) (e := 3) h (by simp [bck])).sg
      go_wp2_with (go_at_call 14; refine (HCB.out _ _ HX.out).mono ?_; rintro e w6 ⟨a6, c6, rfl, hb⟩)
      go_ret
      exact ⟨ret_bool (by simp), bl_via H4.out.2 (bl_via HB.out hb)⟩
    | succ r =>
      have h1 : r < ws.length := by omega
      have e1 : ((r + 1 : Nat) : Int) - 1 = (r : Int) := by omega
      rw [e1]
      have i1 : (r : Int) < (ws.length : Int) := by omega
      have i0 : (0 : Int) ≤ (r : Int) := by omega
      obtain ⟨g, off, ha, c0⟩ := HR4.out r h1
      subst ha
      replace c0 := cl_kept HB.out c0
      have zg : g < wr.heap.size := World.block_lt_of_cell? _ _ c0
      obtain ⟨vi, hvi⟩ : ∃ v, v = gt ws r := ⟨_, rfl⟩
      have hkd := HKD.out r h1
      rw [← hvi] at c0 hkd
      have v1 : 1 ≤ vi := by omega
      have v2 : vi ≤ 2 := by omega
      have HT : Hid (bkl ws r = bkl ws (r + 1) ++ [3 - vi]) := by
        have := bkl_step h1
        rw [← hvi] at this
        exact this
      obtain ⟨n, hn⟩ : ∃ n, n = ws.length - (r + 1) := ⟨_, rfl⟩
      have HN : Hid (ws.length - r = n + 1) := by
        have : ws.length - r = n + 1 := by omega
        exact this
      have hn1 : n ≤ 1023 := by omega
      rw [← hn] at HO
      clear hvi hkd hn e1
      go_wp2_with (at_builtin; refine wpList_append_own _ rfl (.tmp 52) (.tmp 58) 22 rfl w4.heap.size 3 i3 (.int .i64 0) 1 8 Try.underlying22 HI.out.1 HI.out.2.1 HI.out.2.2.1 HI.out.2.2.2 rfl (by decide) u8 n (rowI (bkl ws (r + 1))) rfl (own_below HO.out (bl_alloc (bl_refl _))) ⟨wr.heap.size, 0, none⟩ 1 1 [.int .i64 (3 - vi)] rfl rfl (cell_one _ (by simp [go_sem])) (one_cell _) (by unfold maxLen; omega) (by omega) (by have := HB.out.size; simp; omega) ?gA)
      case gA =>
        intro v' w5 hown hgrow _
        have HO3 : Hid (w5.ownsRow w4.heap.size 3 1 v' (ws.length - r) (rowI (bkl ws r)) ∧ Below w4.heap.size w4 w5) := by
          refine ⟨?_, bl_own (bl_alloc HB.out) (own_below HO.out (bl_alloc (bl_refl _))) (Nat.le_refl _) hgrow⟩
          rw [HN.out, HT.out, rowI_add]
          exact hown
        clear hown hgrow
        go_wp2
        go_roundg r
        case measure => omega
        case rel => exact ⟨r, by omega, rfl, by go_num, HO3.out.1, HO3.out.2⟩
end Go.Proofs.Ytblagffijppgjaa
