/- goes. -/
import Derived.Test.YtdflindoemffaaaTies
namespace Go.Proofs.Ytdflindoemffaaa
open Go.RowKit

theorem ar_bet (a b h : Int) : arB (if a < b then a else b) (if a < b then b else a) h = bet h a b := by
  rw [Bool.eq_iff_iff]
  simp only [arB, bet, Bool.and_eq_true, decide_eq_true_eq]
  split <;> omega
/-- Tie j through tie i, as the code asks. -/
def crT (l : List Int) (i j : Nat) : Bool := thB (tlo l i) (thi l i) (tlo l j) (thi l j)
theorem crT_eq (l : List Int) (i j : Nat) : crT l i j = crB l i j := by
  unfold crT thB crB
  rw [show arB (tlo l i) (thi l i) = fun h => bet h (hk l i) (hk l (i + 1)) from funext fun h => ar_bet _ _ h]
  unfold tlo thi
  split
  · rfl
  · exact bne_comm
def Sd (l : List Int) (p N : Nat) : Prop := ∀ x y, y < x → x < N → crT l (p + 2 * x) (p + 2 * y) = false
theorem gd_sides {l : List Int} (hp : Prm l) (h0 : Sd l 0 (l.length / 2)) (h1 : Sd l 1 ((l.length - 1) / 2)) : gdB l = true := by
  rw [gd_iff]
  intro i k h2 h3 h4
  rw [cr_sym hp h2 h3, ← crT_eq]
  by_cases e : i % 2 = 0
  · have := h0 (k / 2) (i / 2) (by omega) (by omega)
    rwa [show 0 + 2 * (k / 2) = k by omega, show 0 + 2 * (i / 2) = i by omega] at this
  · have := h1 (k / 2) (i / 2) (by omega) (by omega)
    rwa [show 1 + 2 * (k / 2) = k by omega, show 1 + 2 * (i / 2) = i by omega] at this
theorem gd_not {l : List Int} (hp : Prm l) {p x y : Nat} (_hp2 : p < 2) (hy : y < x) (hx : p + 2 * x + 1 < l.length) (h : crT l (p + 2 * x) (p + 2 * y) = true) : gdB l = false := by
  rw [Bool.eq_false_iff]
  intro hg
  have := (gd_iff l).1 hg (p + 2 * y) (p + 2 * x) (by omega) (by omega) (by omega)
  rw [cr_sym hp (by omega) (by omega), ← crT_eq, h] at this
  cases this
set_option maxRecDepth 100000 in
set_option maxHeartbeats 1600000 in
theorem goes_any (v : Value) (l : List Int) (w : World) (hv : Sg w v l) (hp : Prm l) (h1 : 1 ≤ l.length) (h8 : l.length ≤ 8) :
    Calls Try.prog 23 #[v] w fun e w' => e = .returned (.bool (gdB l)) ∧ Below w.heap.size w w' := by
  have CT : Hid (Calls Try.prog 32 #[v] w fun e w' => ∃ s0 s1, e = .returned (.agg #[s0, s1]) ∧ TR w' s0 l 0 (l.length / 2) ∧ TR w' s1 l 1 ((l.length - 1) / 2) ∧ Below w.heap.size w w') := ties_any v l w hv hp h1 h8
  have CH : Hid (∀ (lo hi p q : Int) (W : World), Calls Try.prog 33 #[.agg #[.int .i64 lo, .int .i64 hi], .agg #[.int .i64 p, .int .i64 q]] W fun e w' => e = .returned (.bool (thB lo hi p q)) ∧ Below W.heap.size W w') := through_any
  obtain ⟨gb, hgb⟩ : ∃ b, b = gdB l := ⟨_, rfl⟩
  have HY : Hid (Sd l 0 (l.length / 2) → Sd l 1 ((l.length - 1) / 2) → gb = true) := fun a b => by rw [hgb]; exact gd_sides hp a b
  have HN : Hid (∀ p x y : Nat, p < 2 → y < x → p + 2 * x + 1 < l.length → crT l (p + 2 * x) (p + 2 * y) = true → gb = false) := fun p x y a b c d => by rw [hgb]; exact gd_not hp a b c d
  rw [← hgb]
  obtain ⟨a, c, rfl, _⟩ := hv
  obtain ⟨m0, hm0⟩ : ∃ m, m = l.length / 2 := ⟨_, rfl⟩
  obtain ⟨m1, hm1⟩ : ∃ m, m = (l.length - 1) / 2 := ⟨_, rfl⟩
  have b0 : m0 ≤ 8 := by omega
  have b1 : m1 ≤ 8 := by omega
  have HM : Hid (∀ x, (x < m0 → 0 + 2 * x + 1 < l.length) ∧ (x < m1 → 1 + 2 * x + 1 < l.length)) := fun x => ⟨fun h => by omega, fun h => by omega⟩
  rw [← hm0, ← hm1] at CT HY
  clear hp hgb hm0 hm1 h1
  go_enter Try.func23, Try.ntmps23
  go_wp2_with (go_at_call 32; refine CT.out.mono ?_; rintro e w1 ⟨s0, s1, rfl, ht0, ht1, hb⟩; obtain ⟨a0, c0, rfl, hr0⟩ := ht0; obtain ⟨a1, c1, rfl, hr1⟩ := ht1; have R0 : Hid (∀ x, x < m0 → ∃ g, a0 = some ⟨g, 0, none⟩ ∧ w1.cell? ⟨g, 2 * x, none⟩ = some (.int .i64 (tlo l (0 + 2 * x))) ∧ w1.cell? ⟨g, 2 * x + 1, none⟩ = some (.int .i64 (thi l (0 + 2 * x)))) := hr0; have R1 : Hid (∀ x, x < m1 → ∃ g, a1 = some ⟨g, 0, none⟩ ∧ w1.cell? ⟨g, 2 * x, none⟩ = some (.int .i64 (tlo l (1 + 2 * x))) ∧ w1.cell? ⟨g, 2 * x + 1, none⟩ = some (.int .i64 (thi l (1 + 2 * x)))) := hr1; have HB1 : Hid (Below w.heap.size w w1) := hb; clear hr0 hr1 hb)
  clear CT
  have ix0 : ∀ W : World, (Instr.index 48 (.agg #[.slice a0 m0 c0, .slice a1 m1 c1]) (.int .i64 0)).run Try.prog W = .ok (.slice a0 m0 c0) W := fun _ => by kernel_rfl
  have ix1 : ∀ W : World, (Instr.index 48 (.agg #[.slice a0 m0 c0, .slice a1 m1 c1]) (.int .i64 1)).run Try.prog W = .ok (.slice a1 m1 c1) W := fun _ => by kernel_rfl
  go_loopg [9] 2 (fun gk s9 wx => ∃ p : Nat, p ≤ 2 ∧ gk = 2 - p ∧ s9 = .int .i64 (p : Int) ∧ Below w1.heap.size w1 wx ∧ (0 < p → Sd l 0 m0) ∧ (1 < p → Sd l 1 m1))
  case atStart => exact ⟨0, by omega, rfl, rfl, bl_refl _, fun h => by omega, fun h => by omega⟩
  case round =>
    obtain ⟨p, hp, rfl, rfl, hB, hs0, hs1⟩ := hrel
    have HB : Hid (Below w1.heap.size w1 wr ∧ (0 < p → Sd l 0 m0) ∧ (1 < p → Sd l 1 m1)) := ⟨hB, hs0, hs1⟩
    clear hB hs0 hs1
    have p3 : p = 0 ∨ p = 1 ∨ p = 2 := by omega
    clear hp
    rcases p3 with rfl | rfl | rfl
    · go_wp2
      go_loopg [14] m0 (fun gk s14 wx => ∃ i : Nat, i ≤ m0 ∧ gk = m0 - i ∧ s14 = .int .i64 (i : Int) ∧ Below w1.heap.size w1 wx ∧ Sd l 0 i)
      case atStart => exact ⟨0, by omega, rfl, rfl, HB.out.1, fun x y _ h => by omega⟩
      case round =>
        obtain ⟨i, hi, rfl, rfl, hB, hsd⟩ := hrel
        have HC : Hid (Below w1.heap.size w1 wr ∧ Sd l 0 i) := ⟨hB, hsd⟩
        clear hB hsd
        by_cases h2 : i < m0
        · have i1 : (i : Int) < (m0 : Int) := by omega
          have i0 : (0 : Int) ≤ (i : Int) := by omega
          go_wp2
          go_loopg [18] i (fun gk s18 wx => ∃ j : Nat, j ≤ i ∧ gk = i - j ∧ s18 = .int .i64 (j : Int) ∧ Below w1.heap.size w1 wx ∧ ∀ y, y < j → crT l (0 + 2 * i) (0 + 2 * y) = false)
          case atStart => exact ⟨0, by omega, rfl, rfl, HC.out.1, fun y h => by omega⟩
          case round =>
            obtain ⟨j, hj, rfl, rfl, hB, hsd⟩ := hrel
            have HD : Hid (Below w1.heap.size w1 wr ∧ ∀ y, y < j → crT l (0 + 2 * i) (0 + 2 * y) = false) := ⟨hB, hsd⟩
            clear hB hsd
            by_cases h3 : j < i
            · have j1 : (j : Int) < (i : Int) := by omega
              have j0 : (0 : Int) ≤ (j : Int) := by omega
              have j2 : (j : Int) < (m0 : Int) := by omega
              obtain ⟨g, rfl, c0, c1⟩ := R0.out i h2
              obtain ⟨g', e', c2, c3⟩ := R0.out j (by omega)
              cases e'
              replace c0 : wr.cell? ⟨g, i * 2, none⟩ = some (.int .i64 (tlo l (0 + 2 * i))) := by
                rw [show (⟨g, i * 2, none⟩ : Addr) = ⟨g, 2 * i, none⟩ by rw [Nat.mul_comm]]
                exact cl_kept HD.out.1 c0
              replace c1 : wr.cell? ⟨g, i * 2 + 1, none⟩ = some (.int .i64 (thi l (0 + 2 * i))) := by
                rw [show (⟨g, i * 2 + 1, none⟩ : Addr) = ⟨g, 2 * i + 1, none⟩ by rw [Nat.mul_comm]]
                exact cl_kept HD.out.1 c1
              replace c2 : wr.cell? ⟨g, j * 2, none⟩ = some (.int .i64 (tlo l (0 + 2 * j))) := by
                rw [show (⟨g, j * 2, none⟩ : Addr) = ⟨g, 2 * j, none⟩ by rw [Nat.mul_comm]]
                exact cl_kept HD.out.1 c2
              replace c3 : wr.cell? ⟨g, j * 2 + 1, none⟩ = some (.int .i64 (thi l (0 + 2 * j))) := by
                rw [show (⟨g, j * 2 + 1, none⟩ : Addr) = ⟨g, 2 * j + 1, none⟩ by rw [Nat.mul_comm]]
                exact cl_kept HD.out.1 c3
              have zg : g < wr.heap.size := World.block_lt_of_cell? _ _ c0
              have CX := CH.out (tlo l (0 + 2 * i)) (thi l (0 + 2 * i)) (tlo l (0 + 2 * j)) (thi l (0 + 2 * j))
              obtain ⟨tb, htb⟩ : ∃ b, b = crT l (0 + 2 * i) (0 + 2 * j) := ⟨_, rfl⟩
              rw [show thB (tlo l (0 + 2 * i)) (thi l (0 + 2 * i)) (tlo l (0 + 2 * j)) (thi l (0 + 2 * j)) = tb from htb.symm] at CX
              have HTB : Hid (tb = crT l (0 + 2 * i) (0 + 2 * j)) := htb
              generalize tlo l (0 + 2 * i) = x0 at c0 CX
              generalize thi l (0 + 2 * i) = x1 at c1 CX
              generalize tlo l (0 + 2 * j) = y0 at c2 CX
              generalize thi l (0 + 2 * j) = y1 at c3 CX
              have C3 : Hid (∀ W : World, Calls Try.prog 33 #[.agg #[.int .i64 x0, .int .i64 x1], .agg #[.int .i64 y0, .int .i64 y1]] W fun e w' => e = .returned (.bool tb) ∧ Below W.heap.size W w') := CX
              clear CX htb
              have kc := Kin.cells wr
              have kn : Nonempty (Kin wr) := ⟨⟨wr, bl_refl _⟩⟩
              go_wp2
              refine wp_region_kin (by kernel_rfl) (by kernel_rfl) ?_
              repeat (go_big_quiet_step ((go_at_call 33; with_reducible exact kin_of (C3.out _))))
              refine wpQuiet_nil ?_
              intro wq hw'
              obtain ⟨nq, hw''⟩ := hw'
              have hq : Below wr.heap.size wr wq := hw'' ▸ nq.h
              clear hw'' nq kc kn c0 c1 c2 c3 zg
              cases tb
              · go_wp2
                go_roundg (i - (j + 1))
                case measure => omega
                case rel =>
                  refine ⟨j + 1, by omega, rfl, by go_num, bl_via HD.out.1 hq, fun y hy => ?_⟩
                  by_cases hyj : y < j
                  · exact HD.out.2 y hyj
                  · have : y = j := by omega
                    rw [this]
                    exact HTB.out.symm
              · have HE : Hid (gb = false) := HN.out 0 i j (by omega) h3 ((HM.out i).1 h2) HTB.out.symm
                go_wp2
                go_ret
                exact ⟨ret_bool HE.out.symm, bl_via HB1.out (bl_via HD.out.1 hq)⟩
            · have j1 : ¬ (j : Int) < (i : Int) := by omega
              obtain rfl : j = i := by omega
              go_wp2
              go_roundg (m0 - (j + 1))
              case measure => omega
              case rel =>
                refine ⟨j + 1, by omega, rfl, by go_num, HD.out.1, fun x y hy hx => ?_⟩
                by_cases hxj : x < j
                · exact HC.out.2 x y hy hxj
                · have : x = j := by omega
                  subst this
                  exact HD.out.2 y hy
        · have i1 : ¬ (i : Int) < (m0 : Int) := by omega
          obtain rfl : i = m0 := by omega
          have HS : Hid (Sd l 0 i) := HC.out.2
          go_wp2
          go_roundg (2 - 1)
          case measure => omega
          case rel => exact ⟨1, by omega, rfl, by go_num, HC.out.1, fun _ => HS.out, fun h => by omega⟩
    · go_wp2
      go_loopg [14] m1 (fun gk s14 wx => ∃ i : Nat, i ≤ m1 ∧ gk = m1 - i ∧ s14 = .int .i64 (i : Int) ∧ Below w1.heap.size w1 wx ∧ Sd l 1 i)
      case atStart => exact ⟨0, by omega, rfl, rfl, HB.out.1, fun x y _ h => by omega⟩
      case round =>
        obtain ⟨i, hi, rfl, rfl, hB, hsd⟩ := hrel
        have HC : Hid (Below w1.heap.size w1 wr ∧ Sd l 1 i) := ⟨hB, hsd⟩
        clear hB hsd
        by_cases h2 : i < m1
        · have i1 : (i : Int) < (m1 : Int) := by omega
          have i0 : (0 : Int) ≤ (i : Int) := by omega
          go_wp2
          go_loopg [18] i (fun gk s18 wx => ∃ j : Nat, j ≤ i ∧ gk = i - j ∧ s18 = .int .i64 (j : Int) ∧ Below w1.heap.size w1 wx ∧ ∀ y, y < j → crT l (1 + 2 * i) (1 + 2 * y) = false)
          case atStart => exact ⟨0, by omega, rfl, rfl, HC.out.1, fun y h => by omega⟩
          case round =>
            obtain ⟨j, hj, rfl, rfl, hB, hsd⟩ := hrel
            have HD : Hid (Below w1.heap.size w1 wr ∧ ∀ y, y < j → crT l (1 + 2 * i) (1 + 2 * y) = false) := ⟨hB, hsd⟩
            clear hB hsd
            by_cases h3 : j < i
            · have j1 : (j : Int) < (i : Int) := by omega
              have j0 : (0 : Int) ≤ (j : Int) := by omega
              have j2 : (j : Int) < (m1 : Int) := by omega
              obtain ⟨g, rfl, c0, c1⟩ := R1.out i h2
              obtain ⟨g', e', c2, c3⟩ := R1.out j (by omega)
              cases e'
              replace c0 : wr.cell? ⟨g, i * 2, none⟩ = some (.int .i64 (tlo l (1 + 2 * i))) := by
                rw [show (⟨g, i * 2, none⟩ : Addr) = ⟨g, 2 * i, none⟩ by rw [Nat.mul_comm]]
                exact cl_kept HD.out.1 c0
              replace c1 : wr.cell? ⟨g, i * 2 + 1, none⟩ = some (.int .i64 (thi l (1 + 2 * i))) := by
                rw [show (⟨g, i * 2 + 1, none⟩ : Addr) = ⟨g, 2 * i + 1, none⟩ by rw [Nat.mul_comm]]
                exact cl_kept HD.out.1 c1
              replace c2 : wr.cell? ⟨g, j * 2, none⟩ = some (.int .i64 (tlo l (1 + 2 * j))) := by
                rw [show (⟨g, j * 2, none⟩ : Addr) = ⟨g, 2 * j, none⟩ by rw [Nat.mul_comm]]
                exact cl_kept HD.out.1 c2
              replace c3 : wr.cell? ⟨g, j * 2 + 1, none⟩ = some (.int .i64 (thi l (1 + 2 * j))) := by
                rw [show (⟨g, j * 2 + 1, none⟩ : Addr) = ⟨g, 2 * j + 1, none⟩ by rw [Nat.mul_comm]]
                exact cl_kept HD.out.1 c3
              have zg : g < wr.heap.size := World.block_lt_of_cell? _ _ c0
              have CX := CH.out (tlo l (1 + 2 * i)) (thi l (1 + 2 * i)) (tlo l (1 + 2 * j)) (thi l (1 + 2 * j))
              obtain ⟨tb, htb⟩ : ∃ b, b = crT l (1 + 2 * i) (1 + 2 * j) := ⟨_, rfl⟩
              rw [show thB (tlo l (1 + 2 * i)) (thi l (1 + 2 * i)) (tlo l (1 + 2 * j)) (thi l (1 + 2 * j)) = tb from htb.symm] at CX
              have HTB : Hid (tb = crT l (1 + 2 * i) (1 + 2 * j)) := htb
              generalize tlo l (1 + 2 * i) = x0 at c0 CX
              generalize thi l (1 + 2 * i) = x1 at c1 CX
              generalize tlo l (1 + 2 * j) = y0 at c2 CX
              generalize thi l (1 + 2 * j) = y1 at c3 CX
              have C3 : Hid (∀ W : World, Calls Try.prog 33 #[.agg #[.int .i64 x0, .int .i64 x1], .agg #[.int .i64 y0, .int .i64 y1]] W fun e w' => e = .returned (.bool tb) ∧ Below W.heap.size W w') := CX
              clear CX htb
              have kc := Kin.cells wr
              have kn : Nonempty (Kin wr) := ⟨⟨wr, bl_refl _⟩⟩
              go_wp2
              refine wp_region_kin (by kernel_rfl) (by kernel_rfl) ?_
              repeat (go_big_quiet_step ((go_at_call 33; with_reducible exact kin_of (C3.out _))))
              refine wpQuiet_nil ?_
              intro wq hw'
              obtain ⟨nq, hw''⟩ := hw'
              have hq : Below wr.heap.size wr wq := hw'' ▸ nq.h
              clear hw'' nq kc kn c0 c1 c2 c3 zg
              cases tb
              · go_wp2
                go_roundg (i - (j + 1))
                case measure => omega
                case rel =>
                  refine ⟨j + 1, by omega, rfl, by go_num, bl_via HD.out.1 hq, fun y hy => ?_⟩
                  by_cases hyj : y < j
                  · exact HD.out.2 y hyj
                  · have : y = j := by omega
                    rw [this]
                    exact HTB.out.symm
              · have HE : Hid (gb = false) := HN.out 1 i j (by omega) h3 ((HM.out i).2 h2) HTB.out.symm
                go_wp2
                go_ret
                exact ⟨ret_bool HE.out.symm, bl_via HB1.out (bl_via HD.out.1 hq)⟩
            · have j1 : ¬ (j : Int) < (i : Int) := by omega
              obtain rfl : j = i := by omega
              go_wp2
              go_roundg (m1 - (j + 1))
              case measure => omega
              case rel =>
                refine ⟨j + 1, by omega, rfl, by go_num, HD.out.1, fun x y hy hx => ?_⟩
                by_cases hxj : x < j
                · exact HC.out.2 x y hy hxj
                · have : x = j := by omega
                  subst this
                  exact HD.out.2 y hy
        · have i1 : ¬ (i : Int) < (m1 : Int) := by omega
          obtain rfl : i = m1 := by omega
          have HS : Hid (Sd l 1 i) := HC.out.2
          go_wp2
          go_roundg (2 - 2)
          case measure => omega
          case rel => exact ⟨2, by omega, rfl, by go_num, HC.out.1, fun _ => HB.out.2.1 (by omega), fun _ => HS.out⟩
    · have HE : Hid (gb = true) := HY.out (HB.out.2.1 (by omega)) (HB.out.2.2 (by omega))
      go_wp2
      go_ret
      exact ⟨ret_bool HE.out.symm, bl_via HB1.out HB.out.1⟩
end Go.Proofs.Ytdflindoemffaaa
