/- A part of the proof of a law on sheets. -/
import Derived.Test.YtmjneoaciopioaaDoorQmbq
import Derived.Test.YtmjneoaciopioaaDoorQmbr
namespace Go.Proofs.YtmjneoaciopioaaDoor
open Go.RowKit Go.ChangeMaps

/-- Every other angle, of the first k. -/
def tsum (l : List Int) : Nat → Int
  | 0 => 0
  | k + 1 => tsum l k + (l.getD (2 * k + 1) 0 - l.getD (2 * k) 0)
def unevB (l : List Int) : Bool := decide (l.length % 2 = 1) || decide (tsum l (l.length / 2) ≠ 4)
/-- Mountains more than valleys, among the first k. -/
def kbal (l : List Int) : Nat → Int
  | 0 => 0
  | k + 1 => kbal l k + (if l.getD k 0 = 1 then 1 else -1)
def unbB (l : List Int) : Bool := decide (kbal l l.length ≠ 2) && decide (kbal l l.length ≠ -2)
/-- Troubles at a star. -/
def trob (f : Int × Int → Nat → Int) (pt : Int × Int) : List (Int × Int × Int) := (if unevB (sdirs (f pt) 8) = true then [(pt.1, pt.2, 1)] else []) ++ (if unbB (skinds (f pt) 8) = true then [(pt.1, pt.2, 2)] else [])
theorem sdirs_bd (f : Nat → Int) (i : Nat) : 0 ≤ (sdirs f 8).getD i 0 ∧ (sdirs f 8).getD i 0 ≤ 7 := by
  by_cases h : i < (sdirs f 8).length
  · rw [List.getD_eq_getElem?_getD, List.getElem?_eq_getElem h, Option.getD_some]
    have hm := List.getElem_mem h
    obtain ⟨d, hd, e⟩ := List.mem_map.1 hm
    have := (List.mem_filter.1 hd).1
    rw [List.mem_range] at this
    omega
  · rw [List.getD_eq_getElem?_getD, List.getElem?_eq_none (by omega)]
    simp
theorem tsum_bd (l : List Int) (h : ∀ i, 0 ≤ l.getD i 0 ∧ l.getD i 0 ≤ 7) : ∀ k : Nat, -(7 * (k : Int)) ≤ tsum l k ∧ tsum l k ≤ 7 * (k : Int)
  | 0 => by simp [tsum]
  | k + 1 => by
    have ih := tsum_bd l h k
    have h0 := h (2 * k)
    have h1 := h (2 * k + 1)
    unfold tsum
    omega
theorem kbal_bd (l : List Int) : ∀ k : Nat, -(k : Int) ≤ kbal l k ∧ kbal l k ≤ (k : Int)
  | 0 => by simp [kbal]
  | k + 1 => by
    have ih := kbal_bd l k
    unfold kbal
    split <;> omega
theorem trob_len (f : Int × Int → Nat → Int) (pt : Int × Int) : (trob f pt).length ≤ 2 := by
  unfold trob
  rw [List.length_append]
  split <;> split <;> simp

theorem getD_at {l : List Int} {i : Nat} (h : i < l.length) : l[i] = l.getD i 0 := by
  rw [List.getD_eq_getElem?_getD, List.getElem?_eq_getElem h, Option.getD_some]
set_option maxRecDepth 100000 in
set_option maxHeartbeats 1600000 in
theorem uneven_any (a : Option Addr) (c : Nat) (l : List Int) (w : World) (hl : Row w a l) (h8 : l.length ≤ 8) (hbd : ∀ i, 0 ≤ l.getD i 0 ∧ l.getD i 0 ≤ 7) :
    Calls Tryd.prog 39 #[.slice a l.length c] w fun e w' => e = .returned (.bool (unevB l)) ∧ Below w.heap.size w w' := by
  have HL : Hid (Row w a l) := hl
  have HBD : Hid (∀ i, 0 ≤ l.getD i 0 ∧ l.getD i 0 ≤ 7) := hbd
  have tm : (l.length : Int).tmod 2 = (l.length : Int) % 2 := Int.tmod_eq_emod_of_nonneg (by omega)
  clear hl hbd
  by_cases q : l.length % 2 = 1
  · have qb : ((l.length : Int) % 2 != 0) = true := by
      rw [bne_iff_ne]
      omega
    have HU : Hid (unevB l = true) := by
      have : unevB l = true := by simp [unevB, q]
      exact this
    clear q
    go_enter Tryd.func39, Tryd.ntmps39
    go_wp2
    go_ret
    exact ⟨by rw [HU.out]; rfl, bl_refl _⟩
  · obtain ⟨h, hh⟩ : ∃ h, l.length = 2 * h := ⟨l.length / 2, by omega⟩
    have qb : ((l.length : Int) % 2 != 0) = false := by
      rw [bne_eq_false_iff_eq]
      omega
    have tq : (l.length : Int).tdiv 2 = (h : Int) := by
      rw [Int.tdiv_eq_ediv_of_nonneg (by omega)]
      omega
    have HU : Hid (unevB l = decide (tsum l h ≠ 4)) := by
      have : unevB l = decide (tsum l h ≠ 4) := by
        rw [unevB, show l.length / 2 = h by omega]
        simp [q]
      exact this
    have hh4 : h ≤ 4 := by omega
    clear q
    go_enter Tryd.func39, Tryd.ntmps39
    go_wp2
    go_loopg [3, 12] h (fun gk s3 s12 wx => ∃ k : Nat, k ≤ h ∧ gk = h - k ∧ s3 = .int .i64 (tsum l k) ∧ s12 = .int .i64 (k : Int) ∧ Below w.heap.size w wx)
    case atStart => exact ⟨0, by omega, rfl, rfl, rfl, bl_refl _⟩
    case round =>
      obtain ⟨k, hk, rfl, rfl, rfl, hB⟩ := hrel
      have HB : Hid (Below w.heap.size w wr) := hB
      have hts := tsum_bd l HBD.out k
      obtain ⟨ts, hts2⟩ : ∃ z, z = tsum l k := ⟨_, rfl⟩
      rw [← hts2] at hts
      rw [← hts2]
      have HTS : Hid (ts = tsum l k) := hts2
      clear hts2 hB
      by_cases h1 : k < h
      · have i1 : (k : Int) < (h : Int) := by omega
        have i0 : (0 : Int) ≤ (k : Int) := by omega
        obtain ⟨g, o, ea, c0⟩ := HL.out (2 * k) (by omega)
        obtain ⟨g', o', ea', c1⟩ := HL.out (2 * k + 1) (by omega)
        subst ea
        simp only [Option.some.injEq, Addr.mk.injEq, and_true] at ea'
        obtain ⟨rfl, rfl⟩ := ea'
        rw [getD_at] at c0 c1
        have b0 := HBD.out (2 * k)
        have b1 := HBD.out (2 * k + 1)
        obtain ⟨x0, hx0⟩ : ∃ z, z = l.getD (2 * k) 0 := ⟨_, rfl⟩
        obtain ⟨x1, hx1⟩ : ∃ z, z = l.getD (2 * k + 1) 0 := ⟨_, rfl⟩
        have HNX : Hid (tsum l (k + 1) = ts + (x1 - x0)) := by
          have : tsum l (k + 1) = ts + (x1 - x0) := by rw [HTS.out, hx0, hx1]; rfl
          exact this
        rw [← hx0] at c0 b0
        rw [← hx1] at c1 b1
        replace c0 := cl_kept HB.out c0
        replace c1 := cl_kept HB.out c1
        have zg : g < wr.heap.size := World.block_lt_of_cell? _ _ c0
        have n1 : (2 * (k : Int) + 1).toNat = 2 * k + 1 := by omega
        have n0 : (2 * (k : Int)).toNat = 2 * k := by omega
        have l1 : 2 * (k : Int) + 1 < (l.length : Int) := by omega
        have l0 : 2 * (k : Int) < (l.length : Int) := by omega
        have p1 : (0 : Int) ≤ 2 * (k : Int) + 1 := by omega
        have p0 : (0 : Int) ≤ 2 * (k : Int) := by omega
        clear hx0 hx1
        have kc := Kin.cells wr
        have kn : Nonempty (Kin wr) := ⟨⟨wr, bl_refl _⟩⟩
        go_wp2
        refine wp_region_kin (by kernel_rfl) (by kernel_rfl) ?_
        repeat (go_big_quiet_step (fail))
        refine wpQuiet_nil ?_
        intro wq hw'
        obtain ⟨nq, hw''⟩ := hw'
        have hq : Below wr.heap.size wr wq := hw'' ▸ nq.h
        have HQ : Hid (Below w.heap.size w wq) := bl_via HB.out hq
        clear hw'' nq hq kc kn
        go_wp2
        go_roundg (h - (k + 1))
        case measure => omega
        case rel => exact ⟨k + 1, by omega, rfl, by rw [HNX.out], by go_num, HQ.out⟩
      · have i1 : ¬ (k : Int) < (h : Int) := by omega
        obtain rfl : k = h := by omega
        by_cases q4 : ts = 4
        · have qq : (ts != 4) = false := by simpa using q4
          have HV : Hid (unevB l = false) := by
            have : unevB l = false := by rw [HU.out, ← HTS.out]; simp [q4]
            exact this
          clear q4
          go_wp2
          go_ret
          exact ⟨by rw [HV.out]; rfl, HB.out⟩
        · have qq : (ts != 4) = true := by simpa using q4
          have HV : Hid (unevB l = true) := by
            have : unevB l = true := by rw [HU.out, ← HTS.out]; simp [q4]
            exact this
          clear q4
          go_wp2
          go_ret
          exact ⟨by rw [HV.out]; rfl, HB.out⟩
set_option maxRecDepth 100000 in
set_option maxHeartbeats 1600000 in
theorem unevenIs_any (a aK : Option Addr) (c nK cK : Nat) (px py : Int) (l : List Int) (w : World) (hl : Row w a l) (h8 : l.length ≤ 8) (hbd : ∀ i, 0 ≤ l.getD i 0 ∧ l.getD i 0 ≤ 7) :
    Calls Tryd.prog 41 #[.agg #[.int .i64 px, .int .i64 py, .slice a l.length c, .slice aK nK cK]] w fun e w' => e = .returned (.bool (unevB l)) ∧ Below w.heap.size w w' := by
  have HL : Hid (Row w a l) := hl
  have HBD : Hid (∀ i, 0 ≤ l.getD i 0 ∧ l.getD i 0 ≤ 7) := hbd
  have tm : (l.length : Int).tmod 2 = (l.length : Int) % 2 := Int.tmod_eq_emod_of_nonneg (by omega)
  clear hl hbd
  by_cases q : l.length % 2 = 1
  · have qb : ((l.length : Int) % 2 == 1) = true := by
      rw [beq_iff_eq]
      omega
    have HU : Hid (unevB l = true) := by
      have : unevB l = true := by simp [unevB, q]
      exact this
    clear q
    go_enter Tryd.func41, Tryd.ntmps41
    go_wp2
    go_ret
    exact ⟨by rw [HU.out]; rfl, bl_alloc (bl_refl _)⟩
  · obtain ⟨h, hh⟩ : ∃ h, l.length = 2 * h := ⟨l.length / 2, by omega⟩
    have qb : ((l.length : Int) % 2 == 1) = false := by
      rw [beq_eq_false_iff_ne]
      omega
    have HU : Hid (unevB l = decide (tsum l h ≠ 4)) := by
      have : unevB l = decide (tsum l h ≠ 4) := by
        rw [unevB, show l.length / 2 = h by omega]
        simp [q]
      exact this
    have hh4 : h ≤ 4 := by omega
    clear q
    go_enter Tryd.func41, Tryd.ntmps41
    go_upto_region 4 with (fail)
    refine wp_named (fun W0 hW0 => ?_)
    have HB0 : Hid (Below w.heap.size w W0 ∧ W0.cell? ⟨w.heap.size, 2, none⟩ = some (.slice a l.length c)) := by
      have : Below w.heap.size w W0 ∧ W0.cell? ⟨w.heap.size, 2, none⟩ = some (.slice a l.length c) := ⟨by rw [hW0]; exact bl_alloc (bl_refl _), by rw [hW0]; simp [go_sem]; omega⟩
      exact this
    clear hW0
    go_wp2
    go_loopg [4, 5] h (fun gk s4 s5 wx => ∃ k : Nat, k ≤ h ∧ gk = h - k ∧ s4 = .int .i64 (tsum l k) ∧ s5 = .int .i64 (2 * (k : Int)) ∧ Below W0.heap.size W0 wx)
    case atStart => exact ⟨0, by omega, rfl, rfl, rfl, bl_refl _⟩
    case round =>
      obtain ⟨k, hk, rfl, rfl, rfl, hB⟩ := hrel
      have HB : Hid (Below w.heap.size w wr ∧ Below W0.heap.size W0 wr) := ⟨bl_via HB0.out.1 hB, hB⟩
      have x2 := cl_kept hB HB0.out.2
      have zx : w.heap.size < wr.heap.size := World.block_lt_of_cell? _ _ x2
      have hts := tsum_bd l HBD.out k
      obtain ⟨ts, hts2⟩ : ∃ z, z = tsum l k := ⟨_, rfl⟩
      rw [← hts2] at hts
      rw [← hts2]
      have HTS : Hid (ts = tsum l k) := hts2
      clear hts2 hB
      by_cases h1 : k < h
      · have i1 : 2 * (k : Int) < (l.length : Int) := by omega
        obtain ⟨g, o, ea, c0⟩ := HL.out (2 * k) (by omega)
        obtain ⟨g', o', ea', c1⟩ := HL.out (2 * k + 1) (by omega)
        subst ea
        simp only [Option.some.injEq, Addr.mk.injEq, and_true] at ea'
        obtain ⟨rfl, rfl⟩ := ea'
        rw [getD_at] at c0 c1
        have b0 := HBD.out (2 * k)
        have b1 := HBD.out (2 * k + 1)
        obtain ⟨x0, hx0⟩ : ∃ z, z = l.getD (2 * k) 0 := ⟨_, rfl⟩
        obtain ⟨x1, hx1⟩ : ∃ z, z = l.getD (2 * k + 1) 0 := ⟨_, rfl⟩
        have HNX : Hid (tsum l (k + 1) = ts + (x1 - x0)) := by
          have : tsum l (k + 1) = ts + (x1 - x0) := by rw [HTS.out, hx0, hx1]; rfl
          exact this
        rw [← hx0] at c0 b0
        rw [← hx1] at c1 b1
        replace c0 := cl_kept HB.out.1 c0
        replace c1 := cl_kept HB.out.1 c1
        have zg : g < wr.heap.size := World.block_lt_of_cell? _ _ c0
        have n1 : (2 * (k : Int) + 1).toNat = 2 * k + 1 := by omega
        have n0 : (2 * (k : Int)).toNat = 2 * k := by omega
        have l1 : 2 * (k : Int) + 1 < (l.length : Int) := by omega
        have p1 : (0 : Int) ≤ 2 * (k : Int) + 1 := by omega
        have p0 : (0 : Int) ≤ 2 * (k : Int) := by omega
        clear hx0 hx1
        go_wp2
        go_roundg (h - (k + 1))
        case measure => omega
        case rel => exact ⟨k + 1, by omega, rfl, by rw [HNX.out], by go_num, HB.out.2⟩
      · have i1 : ¬ 2 * (k : Int) < (l.length : Int) := by omega
        obtain rfl : k = h := by omega
        by_cases q4 : ts = 4
        · have qq : (ts != 4) = false := by simpa using q4
          have HV : Hid (unevB l = false) := by
            have : unevB l = false := by rw [HU.out, ← HTS.out]; simp [q4]
            exact this
          clear q4
          go_wp2
          go_ret
          exact ⟨by rw [HV.out]; rfl, HB.out.1⟩
        · have qq : (ts != 4) = true := by simpa using q4
          have HV : Hid (unevB l = true) := by
            have : unevB l = true := by rw [HU.out, ← HTS.out]; simp [q4]
            exact this
          clear q4
          go_wp2
          go_ret
          exact ⟨by rw [HV.out]; rfl, HB.out.1⟩
set_option maxRecDepth 100000 in
set_option maxHeartbeats 1600000 in
theorem unbalanced_any (a : Option Addr) (c : Nat) (l : List Int) (w : World) (hl : Row w a l) (h8 : l.length ≤ 8) :
    Calls Tryd.prog 40 #[.slice a l.length c] w fun e w' => e = .returned (.bool (unbB l)) ∧ Below w.heap.size w w' := by
  have HL : Hid (Row w a l) := hl
  clear hl
  go_enter Tryd.func40, Tryd.ntmps40
  go_wp2
  go_loopg [3, 8] l.length (fun gk s3 s8 wx => ∃ k : Nat, k ≤ l.length ∧ gk = l.length - k ∧ s3 = .int .i64 (kbal l k) ∧ s8 = .int .i64 (k : Int) ∧ wx = w)
  case atStart => exact ⟨0, by omega, rfl, rfl, rfl, rfl⟩
  case round =>
    obtain ⟨k, hk, rfl, rfl, rfl, rfl⟩ := hrel
    have hts := kbal_bd l k
    obtain ⟨ts, hts2⟩ : ∃ z, z = kbal l k := ⟨_, rfl⟩
    rw [← hts2] at hts
    rw [← hts2]
    have HTS : Hid (ts = kbal l k) := hts2
    clear hts2
    by_cases h1 : k < l.length
    · have i1 : (k : Int) < (l.length : Int) := by omega
      have i0 : (0 : Int) ≤ (k : Int) := by omega
      obtain ⟨g, o, rfl, c0⟩ := HL.out k h1
      rw [getD_at] at c0
      obtain ⟨x0, hx0⟩ : ∃ z, z = l.getD k 0 := ⟨_, rfl⟩
      have HNX : Hid (kbal l (k + 1) = ts + if x0 = 1 then 1 else -1) := by
        have : kbal l (k + 1) = ts + if x0 = 1 then 1 else -1 := by rw [HTS.out, hx0]; rfl
        exact this
      rw [← hx0] at c0
      have zg : g < wr.heap.size := World.block_lt_of_cell? _ _ c0
      clear hx0
      by_cases q : x0 = 1
      · have qb : (x0 == 1) = true := by simpa using q
        have HN2 : Hid (kbal l (k + 1) = ts + 1) := by
          have : kbal l (k + 1) = ts + 1 := by rw [HNX.out, if_pos q]
          exact this
        clear q
        go_wp2
        go_roundg (l.length - (k + 1))
        case measure => omega
        case rel => exact ⟨k + 1, by omega, rfl, by rw [HN2.out], by go_num, rfl⟩
      · have qb : (x0 == 1) = false := by simpa using q
        have HN2 : Hid (kbal l (k + 1) = ts - 1) := by
          have : kbal l (k + 1) = ts - 1 := by rw [HNX.out, if_neg q]; omega
          exact this
        clear q
        go_wp2
        go_roundg (l.length - (k + 1))
        case measure => omega
        case rel => exact ⟨k + 1, by omega, rfl, by rw [HN2.out], by go_num, rfl⟩
    · have i1 : ¬ (k : Int) < (l.length : Int) := by omega
      obtain rfl : k = l.length := by omega
      by_cases q2 : ts = 2
      · have qq : (ts != 2) = false := by simpa using q2
        have HV : Hid (unbB l = false) := by
          have : unbB l = false := by rw [unbB, ← HTS.out]; simp [q2]
          exact this
        clear q2
        go_wp2
        go_ret
        exact ⟨by rw [HV.out]; rfl, bl_refl _⟩
      · have qq : (ts != 2) = true := by simpa using q2
        by_cases q3 : ts = -2
        · have qr : (ts != -2) = false := by simpa using q3
          have HV : Hid (unbB l = false) := by
            have : unbB l = false := by rw [unbB, ← HTS.out]; simp [q3]
            exact this
          clear q2 q3
          go_wp2
          go_ret
          exact ⟨by rw [HV.out]; rfl, bl_refl _⟩
        · have qr : (ts != -2) = true := by simpa using q3
          have HV : Hid (unbB l = true) := by
            have : unbB l = true := by rw [unbB, ← HTS.out]; simp [q2, q3]
            exact this
          clear q2 q3
          go_wp2
          go_ret
          exact ⟨by rw [HV.out]; rfl, bl_refl _⟩
end Go.Proofs.YtmjneoaciopioaaDoor
