/- The reference's AnglesMay, between. -/
import Derived.Test.YtoedcefbmbfnhacFlat
namespace Go.Proofs.Ytoedcefbmbfnhac
open Go.RowKit

/-- A slice with these numbers, from wherever in its block. -/
def Sg (w : World) (v : Value) (l : List Int) : Prop := ∃ a c, v = .slice a l.length c ∧ ∀ i, i < l.length → ∃ g off, a = some ⟨g, off, none⟩ ∧ w.cell? ⟨g, off + i, none⟩ = some (.int .i64 (gt l i))
theorem Sg.kept {w wx : World} {v : Value} {l : List Int} (h : Sg w v l) (hb : Below w.heap.size w wx) : Sg wx v l := by
  obtain ⟨a, c, e, h⟩ := h
  refine ⟨a, c, e, fun i hi => ?_⟩
  obtain ⟨g, off, e2, h2⟩ := h i hi
  exact ⟨g, off, e2, cl_kept hb h2⟩
theorem inBounds_any (x : Int) (w : World) :
    Calls Try.prog 18 #[.int .i64 x, .int .i64 1, .int .i64 1000] w fun e w' => e = .returned (.bool (!p16 x)) ∧ Below w.heap.size w w' := by
  go_enter Try.func18, Try.ntmps18
  go_wp2
  all_goals
    go_ret
    exact ⟨ret_bool (by rw [Bool.eq_iff_iff]; simp [p16] <;> omega), bl_refl _⟩
theorem betw_any (h a b : Int) (w : World) :
    Calls Try.prog 33 #[.int .i64 h, .int .i64 a, .int .i64 b] w fun e w' => e = .returned (.bool (bet h a b)) ∧ Below w.heap.size w w' := by
  go_enter Try.func33, Try.ntmps33
  go_wp2
  all_goals
    go_ret
    exact ⟨ret_bool (by rw [Bool.eq_iff_iff]; simp [bet] <;> omega), bl_refl _⟩
theorem may_size (v : Value) (l : List Int) (w : World) (hv : Sg w v l) (hm : l.length ≤ 17592186044416) (hn : badN l.length = true) :
    Calls Try.prog 9 #[v] w fun e w' => e = .returned (.int .i64 2) ∧ Below w.heap.size w w' := by
  obtain ⟨a, c, rfl, _⟩ := hv
  have t1 := two_int l.length
  simp only [badN, Bool.or_eq_true, decide_eq_true_eq] at hn
  by_cases q1 : (l.length : Int) < 2
  · clear hn t1
    go_enter Try.func9, Try.ntmps9
    go_wp2
    go_ret
    exact ⟨rfl, bl_refl _⟩
  · by_cases q2 : (8 : Int) < (l.length : Int)
    · clear hn t1
      go_enter Try.func9, Try.ntmps9
      go_wp2
      go_ret
      exact ⟨rfl, bl_refl _⟩
    · have q3 : ((l.length : Int) % 2 == 1) = true := by
        have : (l.length : Int) % 2 = 1 := by omega
        rw [this]
        rfl
      clear hn
      go_enter Try.func9, Try.ntmps9
      go_wp2
      go_ret
      exact ⟨rfl, bl_refl _⟩
set_option maxRecDepth 100000 in
set_option maxHeartbeats 800000 in
theorem may_rest (v : Value) (l : List Int) (w : World) (hv : Sg w v l) (hn : badN l.length = false) :
    Calls Try.prog 9 #[v] w fun e w' => e = .returned (.int .i64 (wrongV l)) ∧ Below w.heap.size w w' := by
  obtain ⟨n2, n8, ne⟩ := bad_none hn
  obtain ⟨a, c, rfl, hR⟩ := hv
  have HR : Hid (∀ i, i < l.length → ∃ g off, a = some ⟨g, off, none⟩ ∧ w.cell? ⟨g, off + i, none⟩ = some (.int .i64 (gt l i))) := hR
  have HW : Hid (wrongV l = if l.any p16 = true then 3 else if xf l l.length ≠ 0 then 8 else 0) := by
    have : wrongV l = if l.any p16 = true then 3 else if xf l l.length ≠ 0 then 8 else 0 := by
      unfold wrongV
      rw [if_neg (by rw [hn]; simp)]
    exact this
  obtain ⟨wv, hwv⟩ : ∃ x, x = wrongV l := ⟨_, rfl⟩
  rw [← hwv] at HW ⊢
  have CB : Hid (∀ (x : Int) (W : World), Calls Try.prog 18 #[.int .i64 x, .int .i64 1, .int .i64 1000] W fun e w' => e = .returned (.bool (!p16 x)) ∧ Below W.heap.size W w') := inBounds_any
  have q1 : ¬ (l.length : Int) < 2 := by omega
  have q2 : ¬ (8 : Int) < (l.length : Int) := by omega
  have q3 : ((l.length : Int) % 2 == 1) = false := by
    have : (l.length : Int) % 2 = 0 := by omega
    rw [this]
    rfl
  have t1 := two_int l.length
  clear hn hwv hR ne
  go_enter Try.func9, Try.ntmps9
  go_wp2
  clear t1 q3
  go_loopg [4, 5, 6] l.length (fun gk s4 s5 s6 wx => ∃ (i : Nat) (ev od : Int), i ≤ l.length ∧ gk = l.length - i ∧ s6 = .int .i64 (i : Int) ∧ s4 = .int .i64 ev ∧ s5 = .int .i64 od ∧ ev - od = xf l i ∧ (0 ≤ ev ∧ ev ≤ 1000 * (i : Int)) ∧ (0 ≤ od ∧ od ≤ 1000 * (i : Int)) ∧ Below w.heap.size w wx ∧ ∀ k, k < i → p16 (gt l k) = false)
  case atStart => exact ⟨0, 0, 0, by omega, rfl, rfl, rfl, rfl, rfl, by omega, by omega, bl_refl _, fun k hk => by omega⟩
  case round =>
    obtain ⟨i, ev, od, hi, rfl, rfl, rfl, rfl, hx, hev, hod, hB, hno⟩ := hrel
    have HB : Hid (Below w.heap.size w wr ∧ ∀ k, k < i → p16 (gt l k) = false) := ⟨hB, hno⟩
    have HX : Hid (ev - od = xf l i) := hx
    clear hB hno hx
    by_cases h1 : i < l.length
    · have i1 : (i : Int) < (l.length : Int) := by omega
      have i0 : (0 : Int) ≤ (i : Int) := by omega
      obtain ⟨g, off, rfl, c0⟩ := HR.out i h1
      replace c0 := cl_kept HB.out.1 c0
      have zg : g < wr.heap.size := World.block_lt_of_cell? _ _ c0
      obtain ⟨vi, hvi⟩ : ∃ v, v = gt l i := ⟨_, rfl⟩
      rw [← hvi] at c0
      have HVI : Hid (vi = gt l i) := hvi
      clear hvi
      have hp : ∃ pb, pb = p16 vi ∧ (pb = false → 1 ≤ vi ∧ vi ≤ 1000) := ⟨_, rfl, fun h => by
        simp only [p16, Bool.or_eq_false_iff, decide_eq_false_iff_not] at h
        omega⟩
      obtain ⟨pb, hpb, hbd⟩ := hp
      have C1 : Hid (∀ W : World, Calls Try.prog 18 #[.int .i64 vi, .int .i64 1, .int .i64 1000] W fun e w' => e = .returned (.bool (!pb)) ∧ Below W.heap.size W w') := fun W => by
        rw [hpb]
        exact CB.out vi W
      have HP : Hid (pb = p16 (gt l i)) := by rw [← HVI.out]; exact hpb
      clear hpb CB
      cases pb
      · have hb2 := hbd rfl
        clear hbd
        have t1 := two_int i
        have HNO : Hid (∀ k, k < i + 1 → p16 (gt l k) = false) := fun k hk => by
          by_cases hki : k < i
          · exact HB.out.2 k hki
          · have : k = i := by omega
            rw [this]
            exact HP.out.symm
        by_cases q : (i : Int) % 2 = 0
        · have qb : ((i : Int) % 2 == 0) = true := by simpa using q
          have HF : Hid (xf l (i + 1) = ev - od + vi) := by
            have : xf l (i + 1) = ev - od + vi := by
              unfold xf
              rw [if_pos (by omega), HVI.out, HX.out]
            exact this
          clear q
          go_wp2_with (go_at_call 18; refine (C1.out _).mono ?_; rintro e w1 ⟨rfl, hb⟩; replace c0 := cl_kept hb c0; replace zg : g < w1.heap.size := World.block_lt_of_cell? _ _ c0)
          go_roundg (l.length - (i + 1))
          case measure => omega
          case rel => exact ⟨i + 1, ev + vi, od, by omega, rfl, by go_num, by go_num, rfl, by rw [HF.out]; omega, by omega, by omega, bl_via HB.out.1 hb, HNO.out⟩
        · have qb : ((i : Int) % 2 == 0) = false := by simpa using q
          have HF : Hid (xf l (i + 1) = ev - od + -vi) := by
            have : xf l (i + 1) = ev - od + -vi := by
              unfold xf
              rw [if_neg (by omega), HVI.out, HX.out]
            exact this
          clear q
          go_wp2_with (go_at_call 18; refine (C1.out _).mono ?_; rintro e w1 ⟨rfl, hb⟩; replace c0 := cl_kept hb c0; replace zg : g < w1.heap.size := World.block_lt_of_cell? _ _ c0)
          go_roundg (l.length - (i + 1))
          case measure => omega
          case rel => exact ⟨i + 1, ev, od + vi, by omega, rfl, by go_num, rfl, by go_num, by rw [HF.out]; omega, by omega, by omega, bl_via HB.out.1 hb, HNO.out⟩
      · have HE : Hid (wv = 3) := by
          have : wv = 3 := by
            rw [HW.out, if_pos]
            rw [List.any_eq_true]
            exact ⟨gt l i, by rw [gt_lt h1]; exact List.getElem_mem h1, HP.out.symm⟩
          exact this
        clear hbd
        go_wp2_with (go_at_call 18; refine (C1.out _).mono ?_; rintro e w1 ⟨rfl, hb⟩)
        go_ret
        exact ⟨ret_int HE.out.symm, bl_via HB.out.1 hb⟩
    · have i1 : ¬ (i : Int) < (l.length : Int) := by omega
      obtain rfl : i = l.length := by omega
      have HA : Hid (l.any p16 = false) := by
        have : l.any p16 = false := by
          rw [List.any_eq_false]
          intro x hx
          obtain ⟨k, hk, e⟩ := List.getElem_of_mem hx
          have := HB.out.2 k hk
          rw [gt_lt hk, e] at this
          simp [this]
        exact this
      by_cases q : ev = od
      · have qb : (ev != od) = false := by simpa using q
        have HE : Hid (wv = 0) := by
          have : wv = 0 := by
            rw [HW.out, if_neg (by rw [HA.out]; simp), if_neg (by rw [← HX.out]; omega)]
          exact this
        clear q
        go_wp2
        go_ret
        exact ⟨ret_int HE.out.symm, HB.out.1⟩
      · have qb : (ev != od) = true := by simpa using q
        have HE : Hid (wv = 8) := by
          have : wv = 8 := by
            rw [HW.out, if_neg (by rw [HA.out]; simp), if_pos (by rw [← HX.out]; omega)]
          exact this
        clear q
        go_wp2
        go_ret
        exact ⟨ret_int HE.out.symm, HB.out.1⟩
theorem may_any (v : Value) (l : List Int) (w : World) (hv : Sg w v l) (hm : l.length ≤ 17592186044416) :
    Calls Try.prog 9 #[v] w fun e w' => e = .returned (.int .i64 (wrongV l)) ∧ Below w.heap.size w w' := by
  cases hn : badN l.length
  · exact may_rest v l w hv hn
  · have : wrongV l = 2 := by unfold wrongV; rw [if_pos hn]
    rw [this]
    exact may_size v l w hv hm hn
end Go.Proofs.Ytoedcefbmbfnhac
