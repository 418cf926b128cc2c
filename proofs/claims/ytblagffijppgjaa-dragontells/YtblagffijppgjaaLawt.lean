/- The law DragonTells. -/
import Derived.Test.YtblagffijppgjaaPath
namespace Go.Proofs.Ytblagffijppgjaa
open Go.RowKit

theorem neq34 (x y : Int) (w : World) : (binOp .neq 34 (.agg #[.int .i64 x, .int .i64 y]) (.agg #[.int .i64 x, .int .i64 y])).run Try.prog w = .ok (.bool false) w := by
  simp [go_sem]
/-- The points of a way as they are read. -/
def PW (w : World) (a : Option Addr) (m : Nat) (ws : List Int) : Prop := ∀ i, i < m → ∃ g, a = some ⟨g, 0, none⟩ ∧ w.cell? ⟨g, i * 2, none⟩ = some (.int .i64 (pw ws i).1) ∧ w.cell? ⟨g, i * 2 + 1, none⟩ = some (.int .i64 (pw ws i).2)
theorem PW.kept {w wx : World} {a : Option Addr} {m : Nat} {ws : List Int} (h : PW w a m ws) (hb : Below w.heap.size w wx) : PW wx a m ws := fun i hi => by
  obtain ⟨g, e, h1, h2⟩ := h i hi
  exact ⟨g, e, cl_kept hb h1, cl_kept hb h2⟩
theorem pw_of {w : World} {v : Value} {ws : List Int} (h : PR w v (pthL ws)) : ∃ a c, v = .slice a (ws.length + 2) c ∧ PW w a (ws.length + 2) ws := by
  obtain ⟨a, c, e, h⟩ := h
  rw [pthL_len] at e h
  refine ⟨a, c, e, fun i hi => ?_⟩
  obtain ⟨g, e1, h1, h2⟩ := h i hi
  rw [pthL_at hi] at h1 h2
  exact ⟨g, e1, h1, h2⟩
set_option maxRecDepth 100000 in
set_option maxHeartbeats 2000000 in
theorem tells_not (v : Value) (fs : List Int) (w : World) (hv : Sg w v fs) (hl : fs.length ≤ 17592186044416) (hf : fmay fs ≠ 0) :
    Calls Try.prog 3 #[v] w fun e w' => e = .returned (.bool true) ∧ Below w.heap.size w w' := by
  have hw : wordR fs = [] := by rw [wordR, if_neg hf]
  have hp : pathR fs = [] := by rw [pathR, if_neg hf]
  have CI : Hid (∀ W : World, Below w.heap.size w W → Calls Try.prog 8 #[v] W fun e w' => ∃ u, e = .returned u ∧ Sg w' u fs ∧ Below W.heap.size W w') := fun W hW => (ints_any v fs W (hv.kept hW) hl).mono fun e w' ⟨u, h1, h2, h3⟩ => ⟨u, h1, h2.sg, h3⟩
  have C7 : Hid (∀ (W : World) (u : Value), Sg W u fs → Calls Try.prog 7 #[u] W fun e w' => ∃ a c, e = .returned (.tuple #[.slice a 0 c, .int .i64 (fmay fs)]) ∧ Below W.heap.size W w') := fun W u hu => (word7 u fs W hu hl).mono fun e w' ⟨u, h1, h2, h3⟩ => by
    rw [hw] at h2
    obtain ⟨a, c, rfl, _⟩ := h2.sg
    exact ⟨a, c, h1, h3⟩
  have C9 : Hid (∀ (W : World) (u : Value), Sg W u fs → Calls Try.prog 9 #[u] W fun e w' => ∃ a c, e = .returned (.tuple #[.slice a 0 c, .int .i64 (fmay fs)]) ∧ Below W.heap.size W w') := fun W u hu => (path9 u fs W hu hl).mono fun e w' ⟨u, h1, h2, h3⟩ => by
    rw [hp] at h2
    obtain ⟨a, c, rfl, _⟩ := h2
    exact ⟨a, c, h1, h3⟩
  have C10 : Hid (∀ W : World, Below w.heap.size w W → Calls Try.prog 10 #[v] W fun e w' => e = .returned (.int .i64 (fmay fs)) ∧ Below W.heap.size W w') := fun W hW => foldsMay_any v fs W (hv.kept hW) hl
  obtain ⟨fm, hfm⟩ : ∃ x, x = fmay fs := ⟨_, rfl⟩
  rw [← hfm] at C7 C9 C10 hf
  have qf : (fm != 0) = true := by simpa using hf
  obtain ⟨a, c, rfl, hR⟩ := hv
  clear hR hw hp hf hfm
  go_enter Try.func3, Try.ntmps3
  go_wp2_with (first
    | (go_at_call 8; refine (CI.out _ H7.out).mono ?_; rintro e w3 ⟨u3, rfl, hs, hb⟩; have H8b : Hid (Sg w3 u3 fs ∧ Below w.heap.size w w3) := ⟨hs, bl_via H7.out hb⟩; clear hs hb)
    | (go_at_call 8; refine (CI.out _ (bl_refl _)).mono ?_; rintro e w1 ⟨u1, rfl, hs, hb⟩; have H8a : Hid (Sg w1 u1 fs ∧ Below w.heap.size w w1) := ⟨hs, hb⟩; clear hs hb)
    | (go_at_call 7; refine (C7.out _ _ H8a.out.1).mono ?_; rintro e w2 ⟨a2, c2, rfl, hb⟩; have H7 : Hid (Below w.heap.size w w2) := bl_via H8a.out.2 hb; clear hb)
    | (go_at_call 9; refine (C9.out _ _ H8b.out.1).mono ?_; rintro e w4 ⟨a4, c4, rfl, hb⟩; have H9 : Hid (Below w.heap.size w w4) := bl_via H8b.out.2 hb; clear hb)
    | (go_at_call 10; refine (C10.out _ H9.out).mono ?_; rintro e w5 ⟨rfl, hb⟩; have H10 : Hid (Below w.heap.size w w5) := bl_via H9.out hb; clear hb))
  go_ret
  exact ⟨ret_bool (by simp), H10.out⟩
set_option maxRecDepth 100000 in
set_option maxHeartbeats 4000000 in
theorem tells_good (v : Value) (fs : List Int) (w : World) (hv : Sg w v fs) (hl : fs.length ≤ 17592186044416) (hf : fmay fs = 0) :
    Calls Try.prog 3 #[v] w fun e w' => e = .returned (.bool true) ∧ Below w.heap.size w w' := by
  have hw : wordR fs = opn fs := by rw [wordR, if_pos hf]
  have hp : pathR fs = pthL (opn fs) := by rw [pathR, if_pos hf]
  obtain ⟨h10, hkk⟩ := fmay_ok.1 hf
  have hsm := opn_small h10 fs.length
  rw [List.take_length] at hsm
  obtain ⟨ws, hws⟩ : ∃ x, x = opn fs := ⟨_, rfl⟩
  have CI : Hid (∀ W : World, Below w.heap.size w W → Calls Try.prog 8 #[v] W fun e w' => ∃ u, e = .returned u ∧ Sg w' u fs ∧ Below W.heap.size W w') := fun W hW => (ints_any v fs W (hv.kept hW) hl).mono fun e w' ⟨u, h1, h2, h3⟩ => ⟨u, h1, h2.sg, h3⟩
  have C7 : Hid (∀ (W : World) (u : Value), Sg W u fs → Calls Try.prog 7 #[u] W fun e w' => ∃ a c, e = .returned (.tuple #[.slice a ws.length c, .int .i64 0]) ∧ Sg w' (.slice a ws.length c) ws ∧ Below W.heap.size W w') := fun W u hu => (word7 u fs W hu hl).mono fun e w' ⟨u, h1, h2, h3⟩ => by
    rw [hw, ← hws] at h2
    rw [hf] at h1
    obtain ⟨a, c, rfl, h4⟩ := h2.sg
    exact ⟨a, c, h1, ⟨a, c, rfl, h4⟩, h3⟩
  have C9 : Hid (∀ (W : World) (u : Value), Sg W u fs → Calls Try.prog 9 #[u] W fun e w' => ∃ a c, e = .returned (.tuple #[.slice a (ws.length + 2) c, .int .i64 0]) ∧ PW w' a (ws.length + 2) ws ∧ Below W.heap.size W w') := fun W u hu => (path9 u fs W hu hl).mono fun e w' ⟨u, h1, h2, h3⟩ => by
    rw [hp, ← hws] at h2
    rw [hf] at h1
    obtain ⟨a, c, rfl, h4⟩ := pw_of h2
    exact ⟨a, c, h1, h4, h3⟩
  have C10 : Hid (∀ W : World, Below w.heap.size w W → Calls Try.prog 10 #[v] W fun e w' => e = .returned (.int .i64 0) ∧ Below W.heap.size W w') := fun W hW => by
    have := foldsMay_any v fs W (hv.kept hW) hl
    rw [hf] at this
    exact this
  have C11 : Hid (∀ W : World, Below w.heap.size w W → Calls Try.prog 11 #[v] W fun e w' => ∃ a c, e = .returned (.slice a (ws.length + 2) c) ∧ PW w' a (ws.length + 2) ws ∧ Below W.heap.size W w') := fun W hW => (pathOf11 v fs W (hv.kept hW) h10 hkk).mono fun e w' ⟨u, h1, h2, h3⟩ => by
    rw [← hws] at h2
    obtain ⟨a, c, rfl, h4⟩ := pw_of h2
    exact ⟨a, c, h1, h4, h3⟩
  have C13 : Hid (∀ W : World, Below w.heap.size w W → Calls Try.prog 13 #[v] W fun e w' => ∃ u, e = .returned u ∧ Sg w' u ws ∧ Below W.heap.size W w') := fun W hW => (wordOf13 v fs W (hv.kept hW) h10 hkk).mono fun e w' ⟨u, h1, h2, h3⟩ => by
    rw [← hws] at h2
    exact ⟨u, h1, (own_sl (n := ws.length) (e := 3) h2 rfl).sg, h3⟩
  have C12 : Hid (∀ (W : World) (x y : Value), Sg W x ws → Sg W y ws → Calls Try.prog 12 #[x, y] W fun e w' => e = .returned (.bool true) ∧ Below W.heap.size W w') := fun W x y hx hy => by
    have := same_any x y ws ws W hx hy (by rw [hws]; omega) (by rw [hws]; omega)
    simpa using this
  rw [← hws] at hsm
  obtain ⟨a, c, rfl, hR⟩ := hv
  clear hR hw hp hf hws h10 hkk
  go_enter Try.func3, Try.ntmps3
  go_wp2_with (first
    | (go_at_call 8; refine (CI.out _ H7.out.2).mono ?_; rintro e w3 ⟨u3, rfl, hs, hb⟩; have H8b : Hid (Sg w3 u3 fs ∧ Sg w3 (.slice a2 ws.length c2) ws ∧ Below w.heap.size w w3) := ⟨hs, H7.out.1.kept hb, bl_via H7.out.2 hb⟩; clear hs hb)
    | (go_at_call 8; refine (CI.out _ (bl_refl _)).mono ?_; rintro e w1 ⟨u1, rfl, hs, hb⟩; have H8a : Hid (Sg w1 u1 fs ∧ Below w.heap.size w w1) := ⟨hs, hb⟩; clear hs hb)
    | (go_at_call 7; refine (C7.out _ _ H8a.out.1).mono ?_; rintro e w2 ⟨a2, c2, rfl, hs, hb⟩; have H7 : Hid (Sg w2 (.slice a2 ws.length c2) ws ∧ Below w.heap.size w w2) := ⟨hs, bl_via H8a.out.2 hb⟩; clear hs hb)
    | (go_at_call 9; refine (C9.out _ _ H8b.out.1).mono ?_; rintro e w4 ⟨a4, c4, rfl, hp, hb⟩; have H9 : Hid (Sg w4 (.slice a2 ws.length c2) ws ∧ PW w4 a4 (ws.length + 2) ws ∧ Below w.heap.size w w4) := ⟨H8b.out.2.1.kept hb, hp, bl_via H8b.out.2.2 hb⟩; clear hp hb)
    | (go_at_call 10; refine (C10.out _ H9.out.2.2).mono ?_; rintro e w5 ⟨rfl, hb⟩; have H10 : Hid (Sg w5 (.slice a2 ws.length c2) ws ∧ PW w5 a4 (ws.length + 2) ws ∧ Below w.heap.size w w5) := ⟨H9.out.1.kept hb, H9.out.2.1.kept hb, bl_via H9.out.2.2 hb⟩; clear hb)
    | (go_at_call 11; refine (C11.out _ H10.out.2.2).mono ?_; rintro e w6 ⟨a6, c6, rfl, hp, hb⟩; have H11 : Hid (Sg w6 (.slice a2 ws.length c2) ws ∧ PW w6 a4 (ws.length + 2) ws ∧ PW w6 a6 (ws.length + 2) ws ∧ Below w.heap.size w w6) := ⟨H10.out.1.kept hb, H10.out.2.1.kept hb, hp, bl_via H10.out.2.2 hb⟩; clear hp hb)
    | (go_at_call 13; refine (C13.out _ H11.out.2.2.2).mono ?_; rintro e w7 ⟨u7, rfl, hs, hb⟩; have H13 : Hid (Sg w7 (.slice a2 ws.length c2) ws ∧ Sg w7 u7 ws ∧ PW w7 a4 (ws.length + 2) ws ∧ PW w7 a6 (ws.length + 2) ws ∧ Below w.heap.size w w7) := ⟨H11.out.1.kept hb, hs, H11.out.2.1.kept hb, H11.out.2.2.1.kept hb, bl_via H11.out.2.2.2 hb⟩; clear hs hb)
    | (go_at_call 12; refine (C12.out _ _ _ H13.out.1 H13.out.2.1).mono ?_; rintro e w8 ⟨rfl, hb⟩; have H12 : Hid (PW w8 a4 (ws.length + 2) ws ∧ PW w8 a6 (ws.length + 2) ws ∧ Below w.heap.size w w8) := ⟨H13.out.2.2.1.kept hb, H13.out.2.2.2.1.kept hb, bl_via H13.out.2.2.2.2 hb⟩; clear hb))
  clear H13 H11 H10 H9 H8b H8a H7 CI C7 C9 C10 C11 C13 C12
  obtain ⟨m, hm⟩ : ∃ m, m = ws.length + 2 := ⟨_, rfl⟩
  go_loopg [9] (ws.length + 2) (fun gk s9 wx => ∃ i : Nat, i ≤ ws.length + 2 ∧ gk = ws.length + 2 - i ∧ s9 = .int .i64 (i : Int) ∧ Below w8.heap.size w8 wx)
  case atStart => exact ⟨0, by omega, rfl, rfl, bl_refl _⟩
  case round =>
    obtain ⟨i, hi, rfl, rfl, hB⟩ := hrel
    have HB : Hid (Below w8.heap.size w8 wr) := hB
    clear hB
    by_cases h1 : i < ws.length + 2
    · have i1 : (i : Int) < (ws.length : Int) + 2 := by omega
      have i0 : (0 : Int) ≤ (i : Int) := by omega
      obtain ⟨g, rfl, c0, c1⟩ := H12.out.1.kept HB.out i h1
      obtain ⟨g2, rfl, d0, d1⟩ := H12.out.2.1.kept HB.out i h1
      have zg : g < wr.heap.size := World.block_lt_of_cell? _ _ c0
      have zg2 : g2 < wr.heap.size := World.block_lt_of_cell? _ _ d0
      obtain ⟨⟨x, y⟩, hxy⟩ : ∃ p, p = pw ws i := ⟨_, rfl⟩
      rw [← hxy] at c0 c1 d0 d1
      simp only at c0 c1 d0 d1
      have nq := neq34 x y
      clear hxy hm
      have kc := Kin.cells wr
      have kn : Nonempty (Kin wr) := ⟨⟨wr, bl_refl _⟩⟩
      go_wp2
      refine wp_region_kin (by kernel_rfl) (by kernel_rfl) ?_
      repeat (go_big_quiet_step (fail))
      refine wpQuiet_nil ?_
      intro wq hw'
      obtain ⟨nq, hw''⟩ := hw'
      have hq : Below wr.heap.size wr wq := hw'' ▸ nq.h
      clear hw'' nq kc kn
      go_wp2
      go_roundg (ws.length + 2 - (i + 1))
      case measure => omega
      case rel => exact ⟨i + 1, by omega, rfl, by go_num, bl_via HB.out hq⟩
    · have i1 : ¬ (i : Int) < (ws.length : Int) + 2 := by omega
      go_wp2
      go_ret
      exact ⟨rfl, bl_via H12.out.2.2 HB.out⟩
theorem tells_any (a : Option Addr) (c : Nat) (fs : List Int) (w : World) (hv : Sg w (.slice a fs.length c) fs) (hl : fs.length ≤ 17592186044416) :
    Calls Try.prog 3 #[.slice a fs.length c] w fun e w' => e = .returned (.bool true) ∧ Below w.heap.size w w' := by
  by_cases h : fmay fs = 0
  · exact tells_good _ fs w hv hl h
  · exact tells_not _ fs w hv hl h
end Go.Proofs.Ytblagffijppgjaa
