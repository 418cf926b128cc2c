/- Which numbers are wrong; lay. -/
import Derived.Test.YtioajagblphbnaaAlng
namespace Go.Proofs.Ytioajagblphbnaa
open Go.RowKit

def dsk (l : List Int) : List Int := (List.range l.length).map (xf l)
theorem dsk_len (l : List Int) : (dsk l).length = l.length := by simp [dsk]
theorem dsk_at {l : List Int} {k : Nat} (h : k < l.length) : gt (dsk l) k = xf l k := by
  rw [gt_lt (by rw [dsk_len]; exact h)]
  simp [dsk]
set_option maxRecDepth 100000 in
theorem lay_any (v : Value) (l : List Int) (w : World) (hv : Sg w v l) (h8 : l.length ≤ 8) (hb : ∀ i, i < l.length → 1 ≤ gt l i ∧ gt l i ≤ 1000) :
    Calls Try.prog 10 #[v] w fun e w' => ∃ g cap, e = .returned (.slice (some ⟨g, 0, none⟩) (dsk l).length cap) ∧ Rw w' g (dsk l) ∧ Below w.heap.size w w' := by
  have C := along_any v l w hv h8 hb
  obtain ⟨a, c, rfl, hR⟩ := sg_meet hv
  have CH : Hid (Calls Try.prog 17 #[.slice a l.length c] w fun e w' => ∃ g cap, e = .returned (.slice (some ⟨g, 0, none⟩) (l.length + 1) cap) ∧ l.length + 1 ≤ cap ∧ Rw w' g (plc l l.length) ∧ Below w.heap.size w w') := C
  clear C hv hR hb
  rw [dsk_len]
  go_enter Try.func10, Try.ntmps10
  go_wp2_with (go_at_call 17; refine CH.out.mono ?_; rintro e w1 ⟨g, cap, rfl, hcap, hrw, hb⟩; have HR : Hid (Rw w1 g (plc l l.length) ∧ Below w.heap.size w w1) := ⟨hrw, hb⟩; clear hrw hb; have k1 : (l.length : Int) ≤ (cap : Int) := (by omega); have k0 : (0 : Int) ≤ (l.length : Int) := (by omega))
  go_ret
  refine ⟨g, _, rfl, fun i hi => ?_, HR.out.2⟩
  rw [dsk_len] at hi
  rw [dsk_at hi, ← plc_at (l := l) (i := l.length) (by omega)]
  exact HR.out.1 i (by rw [plc_len]; omega)
def p16 (v : Int) : Bool := decide (v < 1) || decide (v > 1000)
def p11 (v : Int) : Bool := decide (v ≠ 1) && decide (v ≠ 2)
theorem call16 (x : Int) (w : World) : Calls Try.prog 16 #[.int .i64 x] w fun e w' => e = .returned (.bool (p16 x)) ∧ Below w.heap.size w w' := by
  go_enter Try.func16, Try.ntmps16
  go_wp2
  all_goals
    go_ret
    exact ⟨ret_bool (by rw [Bool.eq_iff_iff]; simp [p16] <;> omega), bl_refl _⟩
theorem call11 (x : Int) (w : World) : Calls Try.prog 14 #[.int .i64 x] w fun e w' => e = .returned (.bool (p11 x)) ∧ Below w.heap.size w w' := by
  by_cases q : x = 1
  · subst q
    go_enter Try.func14, Try.ntmps14
    go_wp2
    all_goals
      go_ret
      exact ⟨rfl, bl_refl _⟩
  · have qb : (x != 1) = true := by simpa using q
    have HP : Hid (p11 x = (x != 2)) := by
      have : p11 x = (x != 2) := by
        rw [Bool.eq_iff_iff]
        simp [p11, q]
      exact this
    go_enter Try.func14, Try.ntmps14
    go_wp2
    all_goals
      go_ret
      exact ⟨ret_bool HP.out.symm, bl_refl _⟩
set_option maxRecDepth 100000 in
set_option maxHeartbeats 800000 in
theorem index16 (v : Value) (l : List Int) (w : World) (hv : Sg w v l) (hl : l.length ≤ 8) :
    Calls Try.prog 21 #[v, .func (.func 16) #[] #[]] w fun e w' => ∃ r : Int, e = .returned (.int .i64 r) ∧ decide (0 ≤ r) = l.any p16 ∧ Below w.heap.size w w' := by
  obtain ⟨a, c, rfl, hR⟩ := sg_meet hv
  have HR : Hid (∀ i, i < l.length → ∃ g off, a = some ⟨g, off, none⟩ ∧ w.cell? ⟨g, off + i, none⟩ = some (.int .i64 (gt l i))) := hR
  have CP : Hid (∀ (x : Int) (W : World), Calls Try.prog 16 #[.int .i64 x] W fun e w' => e = .returned (.bool (p16 x)) ∧ Below W.heap.size W w') := call16
  obtain ⟨av, hav⟩ : ∃ b, b = l.any p16 := ⟨_, rfl⟩
  have HA : Hid (av = l.any p16) := hav
  rw [← hav]
  clear hv hR hav
  go_enter Try.func21, Try.ntmps21
  go_wp2
  go_loopg [8] l.length (fun gk s8 wx => ∃ i : Nat, i ≤ l.length ∧ gk = l.length - i ∧ s8 = .int .i64 (i : Int) ∧ Below w.heap.size w wx ∧ ∀ k, k < i → p16 (gt l k) = false)
  case atStart => exact ⟨0, by omega, rfl, rfl, bl_refl _, fun k hk => by omega⟩
  case round =>
    obtain ⟨i, hi, rfl, rfl, hB, hno⟩ := hrel
    have HB : Hid (Below w.heap.size w wr ∧ ∀ k, k < i → p16 (gt l k) = false) := ⟨hB, hno⟩
    clear hB hno
    by_cases h1 : i < l.length
    · have i1 : (i : Int) < (l.length : Int) := by omega
      have i0 : (0 : Int) ≤ (i : Int) := by omega
      obtain ⟨g, off, rfl, c0⟩ := HR.out i h1
      replace c0 := cl_kept HB.out.1 c0
      have zg : g < wr.heap.size := World.block_lt_of_cell? _ _ c0
      obtain ⟨vi, hvi⟩ : ∃ v, v = gt l i := ⟨_, rfl⟩
      rw [← hvi] at c0
      obtain ⟨pb, hpb⟩ : ∃ b, b = p16 vi := ⟨_, rfl⟩
      have HP : Hid (pb = p16 (gt l i)) := by rw [← hvi]; exact hpb
      have C1 : Hid (∀ W : World, Calls Try.prog 16 #[.int .i64 vi] W fun e w' => e = .returned (.bool pb) ∧ Below W.heap.size W w') := fun W => by
        rw [hpb]
        exact CP.out vi W
      clear hvi hpb
      cases pb
      · go_wp2_with (go_at_call 16; refine (C1.out _).mono ?_; rintro e w1 ⟨rfl, hb⟩)
        go_roundg (l.length - (i + 1))
        case measure => omega
        case rel =>
          refine ⟨i + 1, by omega, rfl, by go_num, bl_via HB.out.1 hb, fun k hk => ?_⟩
          by_cases hki : k < i
          · exact HB.out.2 k hki
          · have : k = i := by omega
            rw [this]
            exact HP.out.symm
      · go_wp2_with (go_at_call 16; refine (C1.out _).mono ?_; rintro e w1 ⟨rfl, hb⟩)
        go_ret
        refine ⟨(i : Int), rfl, ?_, bl_via HB.out.1 hb⟩
        rw [HA.out, Bool.eq_iff_iff]
        simp only [decide_eq_true_eq, List.any_eq_true]
        refine ⟨fun _ => ⟨gt l i, ?_, HP.out.symm⟩, fun _ => by omega⟩
        rw [gt_lt h1]
        exact List.getElem_mem h1
    · have i1 : ¬ (i : Int) < (l.length : Int) := by omega
      obtain rfl : i = l.length := by omega
      go_wp2
      go_ret
      refine ⟨-1, rfl, ?_, HB.out.1⟩
      rw [HA.out]
      have : l.any p16 = false := by
        rw [List.any_eq_false]
        intro x hx
        obtain ⟨k, hk, e⟩ := List.getElem_of_mem hx
        have := HB.out.2 k hk
        rw [gt_lt hk, e] at this
        simp [this]
      rw [this]
      rfl
theorem contains16 (v : Value) (l : List Int) (w : World) (hv : Sg w v l) (hl : l.length ≤ 8) :
    Calls Try.prog 13 #[v, .func (.func 16) #[] #[]] w fun e w' => e = .returned (.bool (l.any p16)) ∧ Below w.heap.size w w' := by
  have C : Hid (Calls Try.prog 21 #[v, .func (.func 16) #[] #[]] w fun e w' => ∃ r : Int, e = .returned (.int .i64 r) ∧ decide (0 ≤ r) = l.any p16 ∧ Below w.heap.size w w') := index16 v l w hv hl
  clear hv hl
  go_enter Try.func13, Try.ntmps13
  go_wp2_with (go_at_call 21; refine C.out.mono ?_; rintro e w1 ⟨r, rfl, hr, hb⟩; have HR : Hid (decide (0 ≤ r) = l.any p16) := hr; clear hr)
  go_ret
  exact ⟨ret_bool (by rw [← HR.out]), hb⟩
set_option maxRecDepth 100000 in
set_option maxHeartbeats 800000 in
theorem index11 (v : Value) (l : List Int) (w : World) (hv : Sl w v l) (hl : l.length ≤ 8) :
    Calls Try.prog 21 #[v, .func (.func 14) #[] #[]] w fun e w' => ∃ r : Int, e = .returned (.int .i64 r) ∧ decide (0 ≤ r) = l.any p11 ∧ Below w.heap.size w w' := by
  obtain ⟨a, c, rfl, hR⟩ := sl_meet hv
  have HR : Hid (∀ i, i < l.length → ∃ g, a = some ⟨g, 0, none⟩ ∧ w.cell? ⟨g, i, none⟩ = some (.int .i64 (gt l i))) := hR
  have CP : Hid (∀ (x : Int) (W : World), Calls Try.prog 14 #[.int .i64 x] W fun e w' => e = .returned (.bool (p11 x)) ∧ Below W.heap.size W w') := call11
  obtain ⟨av, hav⟩ : ∃ b, b = l.any p11 := ⟨_, rfl⟩
  have HA : Hid (av = l.any p11) := hav
  rw [← hav]
  clear hv hR hav
  go_enter Try.func21, Try.ntmps21
  go_wp2
  go_loopg [8] l.length (fun gk s8 wx => ∃ i : Nat, i ≤ l.length ∧ gk = l.length - i ∧ s8 = .int .i64 (i : Int) ∧ Below w.heap.size w wx ∧ ∀ k, k < i → p11 (gt l k) = false)
  case atStart => exact ⟨0, by omega, rfl, rfl, bl_refl _, fun k hk => by omega⟩
  case round =>
    obtain ⟨i, hi, rfl, rfl, hB, hno⟩ := hrel
    have HB : Hid (Below w.heap.size w wr ∧ ∀ k, k < i → p11 (gt l k) = false) := ⟨hB, hno⟩
    clear hB hno
    by_cases h1 : i < l.length
    · have i1 : (i : Int) < (l.length : Int) := by omega
      have i0 : (0 : Int) ≤ (i : Int) := by omega
      obtain ⟨g, rfl, c0⟩ := HR.out i h1
      replace c0 := cl_kept HB.out.1 c0
      have zg : g < wr.heap.size := World.block_lt_of_cell? _ _ c0
      obtain ⟨vi, hvi⟩ : ∃ v, v = gt l i := ⟨_, rfl⟩
      rw [← hvi] at c0
      obtain ⟨pb, hpb⟩ : ∃ b, b = p11 vi := ⟨_, rfl⟩
      have HP : Hid (pb = p11 (gt l i)) := by rw [← hvi]; exact hpb
      have C1 : Hid (∀ W : World, Calls Try.prog 14 #[.int .i64 vi] W fun e w' => e = .returned (.bool pb) ∧ Below W.heap.size W w') := fun W => by
        rw [hpb]
        exact CP.out vi W
      clear hvi hpb
      cases pb
      · go_wp2_with (go_at_call 14; refine (C1.out _).mono ?_; rintro e w1 ⟨rfl, hb⟩)
        go_roundg (l.length - (i + 1))
        case measure => omega
        case rel =>
          refine ⟨i + 1, by omega, rfl, by go_num, bl_via HB.out.1 hb, fun k hk => ?_⟩
          by_cases hki : k < i
          · exact HB.out.2 k hki
          · have : k = i := by omega
            rw [this]
            exact HP.out.symm
      · go_wp2_with (go_at_call 14; refine (C1.out _).mono ?_; rintro e w1 ⟨rfl, hb⟩)
        go_ret
        refine ⟨(i : Int), rfl, ?_, bl_via HB.out.1 hb⟩
        rw [HA.out, Bool.eq_iff_iff]
        simp only [decide_eq_true_eq, List.any_eq_true]
        refine ⟨fun _ => ⟨gt l i, ?_, HP.out.symm⟩, fun _ => by omega⟩
        rw [gt_lt h1]
        exact List.getElem_mem h1
    · have i1 : ¬ (i : Int) < (l.length : Int) := by omega
      obtain rfl : i = l.length := by omega
      go_wp2
      go_ret
      refine ⟨-1, rfl, ?_, HB.out.1⟩
      rw [HA.out]
      have : l.any p11 = false := by
        rw [List.any_eq_false]
        intro x hx
        obtain ⟨k, hk, e⟩ := List.getElem_of_mem hx
        have := HB.out.2 k hk
        rw [gt_lt hk, e] at this
        simp [this]
      rw [this]
      rfl
theorem contains11 (v : Value) (l : List Int) (w : World) (hv : Sl w v l) (hl : l.length ≤ 8) :
    Calls Try.prog 13 #[v, .func (.func 14) #[] #[]] w fun e w' => e = .returned (.bool (l.any p11)) ∧ Below w.heap.size w w' := by
  have C : Hid (Calls Try.prog 21 #[v, .func (.func 14) #[] #[]] w fun e w' => ∃ r : Int, e = .returned (.int .i64 r) ∧ decide (0 ≤ r) = l.any p11 ∧ Below w.heap.size w w') := index11 v l w hv hl
  clear hv hl
  go_enter Try.func13, Try.ntmps13
  go_wp2_with (go_at_call 21; refine C.out.mono ?_; rintro e w1 ⟨r, rfl, hr, hb⟩; have HR : Hid (decide (0 ≤ r) = l.any p11) := hr; clear hr)
  go_ret
  exact ⟨ret_bool (by rw [← HR.out]), hb⟩
end Go.Proofs.Ytioajagblphbnaa
