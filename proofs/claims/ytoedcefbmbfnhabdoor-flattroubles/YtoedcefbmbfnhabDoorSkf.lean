/- Troubles: what is uneven, what is unbalanced. Uneven, unbalanced: both ways. Troubles: both ways. The law FlatTroubles. -/
import Derived.Test.YtoedcefbmbfnhabDoorSka
import Derived.Test.YtoedcefbmbfnhabDoorSke
import Derived.Test.YtoedcefbmbfnhabDoorSkd
import Derived.Test.YtoedcefbmbfnhabDoorFtel
import Derived.Test.YtoedcefbmbfnhabDoorPkan
import Derived.Test.YtoedcefbmbfnhabDoorPkab
namespace Go.Proofs.YtoedcefbmbfnhabDoor
open Go.RowKit Go.ChangeMaps

/-- Every other angle, of the first k. -/
def tsum (l : List Int) : Nat → Int
  | 0 => 0
  | k + 1 => tsum l k + (l.getD (2 * k + 1) 0 - l.getD (2 * k) 0)
def unevB (l : List Int) : Bool := decide (l.length % 2 = 1) || decide (tsum l (l.length / 2) ≠ 4)
/-- Mountains more than valleys, among the first k. -/
def kbal (l : List Int) : Nat → Int
  | 0 => 0
  | k + 1 => kbal l k + (if l.getD k 0 = 1 then 1 else -1)
def unbB (l : List Int) : Bool := decide (kbal l l.length ≠ 2) && decide (kbal l l.length ≠ -2)
/-- Troubles at a star. -/
def trob (f : Int × Int → Nat → Int) (pt : Int × Int) : List (Int × Int × Int) := (if unevB (sdirs (f pt) 8) = true then [(pt.1, pt.2, 1)] else []) ++ (if unbB (skinds (f pt) 8) = true then [(pt.1, pt.2, 2)] else [])
theorem sdirs_bd (f : Nat → Int) (i : Nat) : 0 ≤ (sdirs f 8).getD i 0 ∧ (sdirs f 8).getD i 0 ≤ 7 := by
  by_cases h : i < (sdirs f 8).length
  · rw [List.getD_eq_getElem?_getD, List.getElem?_eq_getElem h, Option.getD_some]
    have hm := List.getElem_mem h
    obtain ⟨d, hd, e⟩ := List.mem_map.1 hm
    have := (List.mem_filter.1 hd).1
    rw [List.mem_range] at this
    omega
  · rw [List.getD_eq_getElem?_getD, List.getElem?_eq_none (by omega)]
    simp
theorem tsum_bd (l : List Int) (h : ∀ i, 0 ≤ l.getD i 0 ∧ l.getD i 0 ≤ 7) : ∀ k : Nat, -(7 * (k : Int)) ≤ tsum l k ∧ tsum l k ≤ 7 * (k : Int)
  | 0 => by simp [tsum]
  | k + 1 => by
    have ih := tsum_bd l h k
    have h0 := h (2 * k)
    have h1 := h (2 * k + 1)
    unfold tsum
    omega
theorem kbal_bd (l : List Int) : ∀ k : Nat, -(k : Int) ≤ kbal l k ∧ kbal l k ≤ (k : Int)
  | 0 => by simp [kbal]
  | k + 1 => by
    have ih := kbal_bd l k
    unfold kbal
    split <;> omega
theorem trob_len (f : Int × Int → Nat → Int) (pt : Int × Int) : (trob f pt).length ≤ 2 := by
  unfold trob
  rw [List.length_append]
  split <;> split <;> simp
end Go.Proofs.YtoedcefbmbfnhabDoor
namespace Go.Proofs.YtoedcefbmbfnhabDoor
open Go.RowKit Go.ChangeMaps

theorem getD_at {l : List Int} {i : Nat} (h : i < l.length) : l[i] = l.getD i 0 := by
  rw [List.getD_eq_getElem?_getD, List.getElem?_eq_getElem h, Option.getD_some]
set_option maxRecDepth 100000 in
set_option maxHeartbeats 1600000 in
theorem uneven_any (a : Option Addr) (c : Nat) (l : List Int) (w : World) (hl : Row w a l) (h8 : l.length ≤ 8) (hbd : ∀ i, 0 ≤ l.getD i 0 ∧ l.getD i 0 ≤ 7) :
    Calls Tryd.prog 38 #[.slice a l.length c] w fun e w' => e = .returned (.bool (unevB l)) ∧ Below w.heap.size w w' := by
  have HL : Hid (Row w a l) := hl
  have HBD : Hid (∀ i, 0 ≤ l.getD i 0 ∧ l.getD i 0 ≤ 7) := hbd
  have tm : (l.length : Int).tmod 2 = (l.length : Int) % 2 := Int.tmod_eq_emod_of_nonneg (by omega)
  clear hl hbd
  by_cases q : l.length % 2 = 1
  · have qb : ((l.length : Int) % 2 != 0) = true := by
      rw [bne_iff_ne]
      omega
    have HU : Hid (unevB l = true) := by
      have : unevB l = true := by simp [unevB, q]
      exact this
    clear q
    go_enter Tryd.func38, Tryd.ntmps38
    go_wp2
    go_ret
    exact ⟨by rw [HU.out]; rfl, bl_refl _⟩
  · obtain ⟨h, hh⟩ : ∃ h, l.length = 2 * h := ⟨l.length / 2, by omega⟩
    have qb : ((l.length : Int) % 2 != 0) = false := by
      rw [bne_eq_false_iff_eq]
      omega
    have tq : (l.length : Int).tdiv 2 = (h : Int) := by
      rw [Int.tdiv_eq_ediv_of_nonneg (by omega)]
      omega
    have HU : Hid (unevB l = decide (tsum l h ≠ 4)) := by
      have : unevB l = decide (tsum l h ≠ 4) := by
        rw [unevB, show l.length / 2 = h by omega]
        simp [q]
      exact this
    have hh4 : h ≤ 4 := by omega
    clear q
    go_enter Tryd.func38, Tryd.ntmps38
    go_wp2
    go_loopg [3, 12] h (fun gk s3 s12 wx => ∃ k : Nat, k ≤ h ∧ gk = h - k ∧ s3 = .int .i64 (tsum l k) ∧ s12 = .int .i64 (k : Int) ∧ Below w.heap.size w wx)
    case atStart => exact ⟨0, by omega, rfl, rfl, rfl, bl_refl _⟩
    case round =>
      obtain ⟨k, hk, rfl, rfl, rfl, hB⟩ := hrel
      have HB : Hid (Below w.heap.size w wr) := hB
      have hts := tsum_bd l HBD.out k
      obtain ⟨ts, hts2⟩ : ∃ z, z = tsum l k := ⟨_, rfl⟩
      rw [← hts2] at hts
      rw [← hts2]
      have HTS : Hid (ts = tsum l k) := hts2
      clear hts2 hB
      by_cases h1 : k < h
      · have i1 : (k : Int) < (h : Int) := by omega
        have i0 : (0 : Int) ≤ (k : Int) := by omega
        obtain ⟨g, o, ea, c0⟩ := HL.out (2 * k) (by omega)
        obtain ⟨g', o', ea', c1⟩ := HL.out (2 * k + 1) (by omega)
        subst ea
        simp only [Option.some.injEq, Addr.mk.injEq, and_true] at ea'
        obtain ⟨rfl, rfl⟩ := ea'
        rw [getD_at] at c0 c1
        have b0 := HBD.out (2 * k)
        have b1 := HBD.out (2 * k + 1)
        obtain ⟨x0, hx0⟩ : ∃ z, z = l.getD (2 * k) 0 := ⟨_, rfl⟩
        obtain ⟨x1, hx1⟩ : ∃ z, z = l.getD (2 * k + 1) 0 := ⟨_, rfl⟩
        have HNX : Hid (tsum l (k + 1) = ts + (x1 - x0)) := by
          have : tsum l (k + 1) = ts + (x1 - x0) := by rw [HTS.out, hx0, hx1]; rfl
          exact this
        rw [← hx0] at c0 b0
        rw [← hx1] at c1 b1
        replace c0 := cl_kept HB.out c0
        replace c1 := cl_kept HB.out c1
        have zg : g < wr.heap.size := World.block_lt_of_cell? _ _ c0
        have n1 : (2 * (k : Int) + 1).toNat = 2 * k + 1 := by omega
        have n0 : (2 * (k : Int)).toNat = 2 * k := by omega
        have l1 : 2 * (k : Int) + 1 < (l.length : Int) := by omega
        have l0 : 2 * (k : Int) < (l.length : Int) := by omega
        have p1 : (0 : Int) ≤ 2 * (k : Int) + 1 := by omega
        have p0 : (0 : Int) ≤ 2 * (k : Int) := by omega
        clear hx0 hx1
        have kc := Kin.cells wr
        have kn : Nonempty (Kin wr) := ⟨⟨wr, bl_refl _⟩⟩
        go_wp2
        refine wp_region_kin (by kernel_rfl) (by kernel_rfl) ?_
        repeat (go_big_quiet_step (fail))
        refine wpQuiet_nil ?_
        intro wq hw'
        obtain ⟨nq, hw''⟩ := hw'
        have hq : Below wr.heap.size wr wq := hw'' ▸ nq.h
        have HQ : Hid (Below w.heap.size w wq) := bl_via HB.out hq
        clear hw'' nq hq kc kn
        go_wp2
        go_roundg (h - (k + 1))
        case measure => omega
        case rel => exact ⟨k + 1, by omega, rfl, by rw [HNX.out], by go_num, HQ.out⟩
      · have i1 : ¬ (k : Int) < (h : Int) := by omega
        obtain rfl : k = h := by omega
        by_cases q4 : ts = 4
        · have qq : (ts != 4) = false := by simpa using q4
          have HV : Hid (unevB l = false) := by
            have : unevB l = false := by rw [HU.out, ← HTS.out]; simp [q4]
            exact this
          clear q4
          go_wp2
          go_ret
          exact ⟨by rw [HV.out]; rfl, HB.out⟩
        · have qq : (ts != 4) = true := by simpa using q4
          have HV : Hid (unevB l = true) := by
            have : unevB l = true := by rw [HU.out, ← HTS.out]; simp [q4]
            exact this
          clear q4
          go_wp2
          go_ret
          exact ⟨by rw [HV.out]; rfl, HB.out⟩
set_option maxRecDepth 100000 in
set_option maxHeartbeats 1600000 in
theorem unevenIs_any (a aK : Option Addr) (c nK cK : Nat) (px py : Int) (l : List Int) (w : World) (hl : Row w a l) (h8 : l.length ≤ 8) (hbd : ∀ i, 0 ≤ l.getD i 0 ∧ l.getD i 0 ≤ 7) :
    Calls Tryd.prog 40 #[.agg #[.int .i64 px, .int .i64 py, .slice a l.length c, .slice aK nK cK]] w fun e w' => e = .returned (.bool (unevB l)) ∧ Below w.heap.size w w' := by
  have HL : Hid (Row w a l) := hl
  have HBD : Hid (∀ i, 0 ≤ l.getD i 0 ∧ l.getD i 0 ≤ 7) := hbd
  have tm : (l.length : Int).tmod 2 = (l.length : Int) % 2 := Int.tmod_eq_emod_of_nonneg (by omega)
  clear hl hbd
  by_cases q : l.length % 2 = 1
  · have qb : ((l.length : Int) % 2 == 1) = true := by
      rw [beq_iff_eq]
      omega
    have HU : Hid (unevB l = true) := by
      have : unevB l = true := by simp [unevB, q]
      exact this
    clear q
    go_enter Tryd.func40, Tryd.ntmps40
    go_wp2
    go_ret
    exact ⟨by rw [HU.out]; rfl, bl_alloc (bl_refl _)⟩
  · obtain ⟨h, hh⟩ : ∃ h, l.length = 2 * h := ⟨l.length / 2, by omega⟩
    have qb : ((l.length : Int) % 2 == 1) = false := by
      rw [beq_eq_false_iff_ne]
      omega
    have HU : Hid (unevB l = decide (tsum l h ≠ 4)) := by
      have : unevB l = decide (tsum l h ≠ 4) := by
        rw [unevB, show l.length / 2 = h by omega]
        simp [q]
      exact this
    have hh4 : h ≤ 4 := by omega
    clear q
    go_enter Tryd.func40, Tryd.ntmps40
    go_upto_region 4 with (fail)
    refine wp_named (fun W0 hW0 => ?_)
    have HB0 : Hid (Below w.heap.size w W0 ∧ W0.cell? ⟨w.heap.size, 2, none⟩ = some (.slice a l.length c)) := by
      have : Below w.heap.size w W0 ∧ W0.cell? ⟨w.heap.size, 2, none⟩ = some (.slice a l.length c) := ⟨by rw [hW0]; exact bl_alloc (bl_refl _), by rw [hW0]; simp [go_sem]; omega⟩
      exact this
    clear hW0
    go_wp2
    go_loopg [4, 5] h (fun gk s4 s5 wx => ∃ k : Nat, k ≤ h ∧ gk = h - k ∧ s4 = .int .i64 (tsum l k) ∧ s5 = .int .i64 (2 * (k : Int)) ∧ Below W0.heap.size W0 wx)
    case atStart => exact ⟨0, by omega, rfl, rfl, rfl, bl_refl _⟩
    case round =>
      obtain ⟨k, hk, rfl, rfl, rfl, hB⟩ := hrel
      have HB : Hid (Below w.heap.size w wr ∧ Below W0.heap.size W0 wr) := ⟨bl_via HB0.out.1 hB, hB⟩
      have x2 := cl_kept hB HB0.out.2
      have zx : w.heap.size < wr.heap.size := World.block_lt_of_cell? _ _ x2
      have hts := tsum_bd l HBD.out k
      obtain ⟨ts, hts2⟩ : ∃ z, z = tsum l k := ⟨_, rfl⟩
      rw [← hts2] at hts
      rw [← hts2]
      have HTS : Hid (ts = tsum l k) := hts2
      clear hts2 hB
      by_cases h1 : k < h
      · have i1 : 2 * (k : Int) < (l.length : Int) := by omega
        obtain ⟨g, o, ea, c0⟩ := HL.out (2 * k) (by omega)
        obtain ⟨g', o', ea', c1⟩ := HL.out (2 * k + 1) (by omega)
        subst ea
        simp only [Option.some.injEq, Addr.mk.injEq, and_true] at ea'
        obtain ⟨rfl, rfl⟩ := ea'
        rw [getD_at] at c0 c1
        have b0 := HBD.out (2 * k)
        have b1 := HBD.out (2 * k + 1)
        obtain ⟨x0, hx0⟩ : ∃ z, z = l.getD (2 * k) 0 := ⟨_, rfl⟩
        obtain ⟨x1, hx1⟩ : ∃ z, z = l.getD (2 * k + 1) 0 := ⟨_, rfl⟩
        have HNX : Hid (tsum l (k + 1) = ts + (x1 - x0)) := by
          have : tsum l (k + 1) = ts + (x1 - x0) := by rw [HTS.out, hx0, hx1]; rfl
          exact this
        rw [← hx0] at c0 b0
        rw [← hx1] at c1 b1
        replace c0 := cl_kept HB.out.1 c0
        replace c1 := cl_kept HB.out.1 c1
        have zg : g < wr.heap.size := World.block_lt_of_cell? _ _ c0
        have n1 : (2 * (k : Int) + 1).toNat = 2 * k + 1 := by omega
        have n0 : (2 * (k : Int)).toNat = 2 * k := by omega
        have l1 : 2 * (k : Int) + 1 < (l.length : Int) := by omega
        have p1 : (0 : Int) ≤ 2 * (k : Int) + 1 := by omega
        have p0 : (0 : Int) ≤ 2 * (k : Int) := by omega
        clear hx0 hx1
        go_wp2
        go_roundg (h - (k + 1))
        case measure => omega
        case rel => exact ⟨k + 1, by omega, rfl, by rw [HNX.out], by go_num, HB.out.2⟩
      · have i1 : ¬ 2 * (k : Int) < (l.length : Int) := by omega
        obtain rfl : k = h := by omega
        by_cases q4 : ts = 4
        · have qq : (ts != 4) = false := by simpa using q4
          have HV : Hid (unevB l = false) := by
            have : unevB l = false := by rw [HU.out, ← HTS.out]; simp [q4]
            exact this
          clear q4
          go_wp2
          go_ret
          exact ⟨by rw [HV.out]; rfl, HB.out.1⟩
        · have qq : (ts != 4) = true := by simpa using q4
          have HV : Hid (unevB l = true) := by
            have : unevB l = true := by rw [HU.out, ← HTS.out]; simp [q4]
            exact this
          clear q4
          go_wp2
          go_ret
          exact ⟨by rw [HV.out]; rfl, HB.out.1⟩
set_option maxRecDepth 100000 in
set_option maxHeartbeats 1600000 in
theorem unbalanced_any (a : Option Addr) (c : Nat) (l : List Int) (w : World) (hl : Row w a l) (h8 : l.length ≤ 8) :
    Calls Tryd.prog 39 #[.slice a l.length c] w fun e w' => e = .returned (.bool (unbB l)) ∧ Below w.heap.size w w' := by
  have HL : Hid (Row w a l) := hl
  clear hl
  go_enter Tryd.func39, Tryd.ntmps39
  go_wp2
  go_loopg [3, 8] l.length (fun gk s3 s8 wx => ∃ k : Nat, k ≤ l.length ∧ gk = l.length - k ∧ s3 = .int .i64 (kbal l k) ∧ s8 = .int .i64 (k : Int) ∧ wx = w)
  case atStart => exact ⟨0, by omega, rfl, rfl, rfl, rfl⟩
  case round =>
    obtain ⟨k, hk, rfl, rfl, rfl, rfl⟩ := hrel
    have hts := kbal_bd l k
    obtain ⟨ts, hts2⟩ : ∃ z, z = kbal l k := ⟨_, rfl⟩
    rw [← hts2] at hts
    rw [← hts2]
    have HTS : Hid (ts = kbal l k) := hts2
    clear hts2
    by_cases h1 : k < l.length
    · have i1 : (k : Int) < (l.length : Int) := by omega
      have i0 : (0 : Int) ≤ (k : Int) := by omega
      obtain ⟨g, o, rfl, c0⟩ := HL.out k h1
      rw [getD_at] at c0
      obtain ⟨x0, hx0⟩ : ∃ z, z = l.getD k 0 := ⟨_, rfl⟩
      have HNX : Hid (kbal l (k + 1) = ts + if x0 = 1 then 1 else -1) := by
        have : kbal l (k + 1) = ts + if x0 = 1 then 1 else -1 := by rw [HTS.out, hx0]; rfl
        exact this
      rw [← hx0] at c0
      have zg : g < wr.heap.size := World.block_lt_of_cell? _ _ c0
      clear hx0
      by_cases q : x0 = 1
      · have qb : (x0 == 1) = true := by simpa using q
        have HN2 : Hid (kbal l (k + 1) = ts + 1) := by
          have : kbal l (k + 1) = ts + 1 := by rw [HNX.out, if_pos q]
          exact this
        clear q
        go_wp2
        go_roundg (l.length - (k + 1))
        case measure => omega
        case rel => exact ⟨k + 1, by omega, rfl, by rw [HN2.out], by go_num, rfl⟩
      · have qb : (x0 == 1) = false := by simpa using q
        have HN2 : Hid (kbal l (k + 1) = ts - 1) := by
          have : kbal l (k + 1) = ts - 1 := by rw [HNX.out, if_neg q]; omega
          exact this
        clear q
        go_wp2
        go_roundg (l.length - (k + 1))
        case measure => omega
        case rel => exact ⟨k + 1, by omega, rfl, by rw [HN2.out], by go_num, rfl⟩
    · have i1 : ¬ (k : Int) < (l.length : Int) := by omega
      obtain rfl : k = l.length := by omega
      by_cases q2 : ts = 2
      · have qq : (ts != 2) = false := by simpa using q2
        have HV : Hid (unbB l = false) := by
          have : unbB l = false := by rw [unbB, ← HTS.out]; simp [q2]
          exact this
        clear q2
        go_wp2
        go_ret
        exact ⟨by rw [HV.out]; rfl, bl_refl _⟩
      · have qq : (ts != 2) = true := by simpa using q2
        by_cases q3 : ts = -2
        · have qr : (ts != -2) = false := by simpa using q3
          have HV : Hid (unbB l = false) := by
            have : unbB l = false := by rw [unbB, ← HTS.out]; simp [q3]
            exact this
          clear q2 q3
          go_wp2
          go_ret
          exact ⟨by rw [HV.out]; rfl, bl_refl _⟩
        · have qr : (ts != -2) = true := by simpa using q3
          have HV : Hid (unbB l = true) := by
            have : unbB l = true := by rw [unbB, ← HTS.out]; simp [q2, q3]
            exact this
          clear q2 q3
          go_wp2
          go_ret
          exact ⟨by rw [HV.out]; rfl, bl_refl _⟩
end Go.Proofs.YtoedcefbmbfnhabDoor
namespace Go.Proofs.YtoedcefbmbfnhabDoor
open Go.RowKit Go.ChangeMaps

theorem infTr : (Tryd.prog.info? 52).map (fun i => (i.zero, i.size, i.bytes)) = some (some (.agg #[.int .i64 0, .int .i64 0, .int .i64 0]), 3, 24) := by kernel_rfl
/-- Troubles while they are gathered. -/
def QT (w2 wx : World) (v : Value) (T : List (Int × Int × Int)) : Prop := wx.ownsRow w2.heap.size 52 3 v T.length (flatV T) ∧ Below w2.heap.size w2 wx
theorem QT.kept {w2 wx w' : World} {v : Value} {T : List (Int × Int × Int)} (h : QT w2 wx v T) (hb : Below wx.heap.size wx w') : QT w2 w' v T := ⟨own_below h.1 hb, bl_via h.2 hb⟩
theorem QT.start (w : World) : QT w w (.slice none 0 0) [] := ⟨⟨rfl, Or.inl ⟨rfl, rfl⟩⟩, bl_refl _⟩
theorem QT.more {w2 wx w3 : World} {v v' : Value} {T : List (Int × Int × Int)} {x y k : Int} (h : QT w2 wx v T) (hg : wx.grownBy w3 v.ownBlock) (ho : w3.ownsRow w2.heap.size 52 3 v' (T.length + 1) (flatV T ++ [.int .i64 x, .int .i64 y, .int .i64 k])) : QT w2 w3 v' (T ++ [(x, y, k)]) := by
  refine ⟨?_, h.2.grown hg h.2.size (fun q hq => own_base h.1 q hq)⟩
  rw [List.length_append, flatV_add]
  simpa [flatV] using ho
theorem QT.row {w2 wx : World} {v : Value} {T : List (Int × Int × Int)} (h : QT w2 wx v T) : ∃ a c, v = .slice a T.length c ∧ TRow wx a T := by
  rcases h.1.2 with ⟨rfl, h0⟩ | ⟨g, cap, cur, rfl, _⟩
  · exact ⟨none, 0, by rw [h0], fun i hi => by omega⟩
  · refine ⟨some ⟨g, 0, none⟩, cap, rfl, fun i hi => ⟨g, rfl, ?_⟩⟩
    have f := flatV_at T i hi
    exact ⟨(h.1.cellAt _ (by omega)).trans f.1, (h.1.cellAt _ (by omega)).trans f.2.1, (h.1.cellAt _ (by omega)).trans f.2.2⟩
theorem cell_three_trb (w : World) (a b c : Int) : ∀ j u, ([Value.int .i64 a, .int .i64 b, .int .i64 c])[j]? = some u → (w.alloc (.cells #[.int .i64 a, .int .i64 b, .int .i64 c] 52)).cell? ((⟨w.heap.size, 0, none⟩ : Addr).add j) = some u := by
  intro j u hu
  match j, hu with
  | 0, hu => simp at hu; subst hu; simp [Addr.add, go_sem]
  | 1, hu => simp at hu; subst hu; simp [Addr.add, go_sem]
  | 2, hu => simp at hu; subst hu; simp [Addr.add, go_sem]
theorem three_trb (a b c : Int) : ∀ u ∈ [Value.int .i64 a, .int .i64 b, .int .i64 c], u.oneCell' = true := by
  intro u hu
  simp only [List.mem_cons, List.not_mem_nil, or_false] at hu
  rcases hu with rfl | rfl | rfl <;> rfl
theorem trob_all (f : Int × Int → Nat → Int) : ∀ K : List (Int × Int), (K.flatMap (trob f)).length ≤ 2 * K.length
  | [] => by simp
  | pt :: K => by
    rw [List.flatMap_cons, List.length_append, List.length_cons]
    have h1 := trob_len f pt
    have h2 := trob_all f K
    omega
set_option maxRecDepth 100000 in
set_option maxHeartbeats 3200000 in
theorem Troubles_yes (W H : Int) (a c : Option Addr) (n1 n2 ca cc : Nat) (w : World) (K : List (Int × Int)) (F : Int × Int → Nat → Int) (hK : K.length ≤ 800) (hcall : ∀ W' : World, Below w.heap.size w W' → Calls Tryd.prog 14 #[.agg #[.int .i64 W, .int .i64 H, .slice a n1 ca, .slice c n2 cc]] W' fun e w' => ∃ a3 c3, e = .returned (.tuple #[.slice a3 K.length c3, .int .i64 0]) ∧ SRk w' a3 K F ∧ Below W'.heap.size W' w') :
    Calls Tryd.prog 17 #[.agg #[.int .i64 W, .int .i64 H, .slice a n1 ca, .slice c n2 cc]] w fun e w' => ∃ a4 c4, e = .returned (.tuple #[.slice a4 (K.flatMap (trob F)).length c4, .int .i64 0]) ∧ TRow w' a4 (K.flatMap (trob F)) ∧ Below w.heap.size w w' := by
  have HC : Hid (∀ W' : World, Below w.heap.size w W' → Calls Tryd.prog 14 #[.agg #[.int .i64 W, .int .i64 H, .slice a n1 ca, .slice c n2 cc]] W' fun e w' => ∃ a3 c3, e = .returned (.tuple #[.slice a3 K.length c3, .int .i64 0]) ∧ SRk w' a3 K F ∧ Below W'.heap.size W' w') := hcall
  clear hcall
  obtain ⟨TT, hTT⟩ : ∃ q, q = K.flatMap (trob F) := ⟨_, rfl⟩
  have HTT : Hid (TT = K.flatMap (trob F)) := hTT
  rw [← hTT]
  clear hTT
  obtain ⟨iT, hI⟩ := info_parts infTr
  have HI : Hid (Tryd.prog.info? 52 = some iT ∧ iT.zero = some (.agg #[.int .i64 0, .int .i64 0, .int .i64 0]) ∧ iT.size = 3 ∧ iT.bytes = 24) := hI
  clear hI
  go_enter Tryd.func17, Tryd.ntmps17
  go_wp2_with (go_at_call 14; refine (HC.out _ (by with_reducible exact bl_alloc (bl_refl _))).mono ?_; rintro e w2 ⟨a3, c3, rfl, hS, hb⟩; have HS : Hid (SRk w2 a3 K F ∧ Below w.heap.size w w2) := ⟨hS, bl_via (bl_alloc (bl_refl _)) hb⟩; clear hS hb)
  go_loopg [6, 19] K.length (fun gk s6 s19 wx => ∃ (i : Nat) (T : List (Int × Int × Int)), i ≤ K.length ∧ gk = K.length - i ∧ s19 = .int .i64 (i : Int) ∧ T = (K.take i).flatMap (trob F) ∧ QT w2 wx s6 T)
  case atStart => exact ⟨0, [], by omega, rfl, rfl, by simp, QT.start w2⟩
  case round =>
    obtain ⟨i, T, hi, rfl, rfl, hT, hQ⟩ := hrel
    obtain ⟨a6, c6, rfl⟩ := own_slice hQ.1
    have HQ : Hid (QT w2 wr (.slice a6 T.length c6) T) := hQ
    have HT : Hid (T = (K.take i).flatMap (trob F)) := hT
    have hT9 : T.length ≤ 1600 := by
      have h8 := trob_all F (K.take i)
      rw [← hT, List.length_take] at h8
      omega
    clear hT hQ
    by_cases h1 : i < K.length
    · have i1 : (i : Int) < (K.length : Int) := by omega
      have i0 : (0 : Int) ≤ (i : Int) := by omega
      obtain ⟨g, dA, dC, kA, kC, ea, y0, y1, y2, y3, rD, rK⟩ := HS.out.1 i h1
      subst ea
      have hd8 := (sdirs_len (F K[i]) 8).2
      have hk8 : (skinds (F K[i]) 8).length ≤ 8 := by rw [← (sdirs_len (F K[i]) 8).1]; exact hd8
      obtain ⟨bu, hbu⟩ : ∃ q, q = unevB (sdirs (F K[i]) 8) := ⟨_, rfl⟩
      obtain ⟨bv, hbv⟩ : ∃ q, q = unbB (skinds (F K[i]) 8) := ⟨_, rfl⟩
      have CU : Hid (∀ W' : World, Below w2.heap.size w2 W' → Calls Tryd.prog 38 #[.slice dA (sdirs (F K[i]) 8).length dC] W' fun e w' => e = .returned (.bool bu) ∧ Below W'.heap.size W' w') := fun W' hW' => by
        rw [hbu]
        exact uneven_any dA dC _ W' (rD.kept hW') hd8 (sdirs_bd _)
      have CB : Hid (∀ W' : World, Below w2.heap.size w2 W' → Calls Tryd.prog 39 #[.slice kA (skinds (F K[i]) 8).length kC] W' fun e w' => e = .returned (.bool bv) ∧ Below W'.heap.size W' w') := fun W' hW' => by
        rw [hbv]
        exact unbalanced_any kA kC _ W' (rK.kept hW') hk8
      obtain ⟨px, hpx⟩ : ∃ q, q = K[i].1 := ⟨_, rfl⟩
      obtain ⟨py, hpy⟩ : ∃ q, q = K[i].2 := ⟨_, rfl⟩
      have HTB : Hid (trob F K[i] = (if bu = true then [(px, py, 1)] else []) ++ (if bv = true then [(px, py, 2)] else [])) := by
        have : trob F K[i] = (if bu = true then [(px, py, 1)] else []) ++ (if bv = true then [(px, py, 2)] else []) := by rw [hbu, hbv, hpx, hpy]; rfl
        exact this
      obtain ⟨nD, hnD⟩ : ∃ q, q = (sdirs (F K[i]) 8).length := ⟨_, rfl⟩
      obtain ⟨nK, hnK⟩ : ∃ q, q = (skinds (F K[i]) 8).length := ⟨_, rfl⟩
      rw [← hnD] at CU y2
      rw [← hnK] at CB y3
      rw [← hpx] at y0
      rw [← hpy] at y1
      replace y0 := cl_kept HQ.out.2 y0
      replace y1 := cl_kept HQ.out.2 y1
      replace y2 := cl_kept HQ.out.2 y2
      replace y3 := cl_kept HQ.out.2 y3
      have zg : g < wr.heap.size := World.block_lt_of_cell? _ _ y0
      clear rD rK hnD hnK hpx hpy hbu hbv hd8 hk8
      go_upto_region 8 with (fail)
      refine wp_named (fun W1 hW1 => ?_)
      obtain ⟨B8, hB8⟩ : ∃ b, b = wr.heap.size := ⟨_, rfl⟩
      have HQ1 : Hid (QT w2 W1 (.slice a6 T.length c6) T) := HQ.out.kept (by rw [hW1]; exact bl_alloc (bl_refl _))
      have x0 : W1.cell? ⟨B8, 0, none⟩ = some (.int .i64 px) := by rw [hW1, hB8]; simp [go_sem]
      have x1 : W1.cell? ⟨B8, 1, none⟩ = some (.int .i64 py) := by rw [hW1, hB8]; simp [go_sem]
      have x2 : W1.cell? ⟨B8, 2, none⟩ = some (.slice dA nD dC) := by rw [hW1, hB8]; simp [go_sem]
      have x3 : W1.cell? ⟨B8, 3, none⟩ = some (.slice kA nK kC) := by rw [hW1, hB8]; simp [go_sem]
      have z8 : B8 < W1.heap.size := World.block_lt_of_cell? _ _ x0
      have HNB : Hid (∀ q, (Value.slice a6 T.length c6).ownBlock = some q → q < B8) := fun q hq => by
        have := (HQ.out.1.lt q hq).2
        rw [hB8]
        exact this
      rw [← hB8]
      clear hW1 hB8 y0 y1 y2 y3 zg
      cases bu
      · go_upto_region 10 with (go_at_call 38; refine (CU.out _ (HQ1.out.2)).mono ?_; rintro e w5 ⟨rfl, hb5⟩; have HQ5 : Hid (QT w2 w5 (.slice a6 T.length c6) T) := HQ1.out.kept hb5; have x0 := cl_kept hb5 x0; have x1 := cl_kept hb5 x1; have x2 := cl_kept hb5 x2; have x3 := cl_kept hb5 x3; have z8 : B8 < w5.heap.size := World.block_lt_of_cell? _ _ x0; clear hb5)
        cases bv
        · go_wp2_with (go_at_call 39; refine (CB.out _ (HQ5.out.2)).mono ?_; rintro e w7 ⟨rfl, hb7⟩; have HQ7 : Hid (QT w2 w7 (.slice a6 T.length c6) (T)) := HQ5.out.kept hb7; have x0 := cl_kept hb7 x0; have x1 := cl_kept hb7 x1; have x2 := cl_kept hb7 x2; have x3 := cl_kept hb7 x3; have z8 : B8 < w7.heap.size := World.block_lt_of_cell? _ _ x0; clear hb7)
          go_roundg (K.length - (i + 1))
          case measure => omega
          case rel =>
            refine ⟨i + 1, T, by omega, rfl, by go_num, ?_, HQ7.out⟩
            rw [List.take_succ_eq_append_getElem h1, List.flatMap_append, ← HT.out]
            simp [HTB.out]
        · go_upto_region 11 with (go_at_call 39; refine (CB.out _ (HQ5.out.2)).mono ?_; rintro e w7 ⟨rfl, hb7⟩; have HQ7 : Hid (QT w2 w7 (.slice a6 T.length c6) (T)) := HQ5.out.kept hb7; have x0 := cl_kept hb7 x0; have x1 := cl_kept hb7 x1; have x2 := cl_kept hb7 x2; have x3 := cl_kept hb7 x3; have z8 : B8 < w7.heap.size := World.block_lt_of_cell? _ _ x0; clear hb7)
          have HQ8 : Hid (QT w2 (w7.alloc (.cells #[.int .i64 px, .int .i64 py, .int .i64 2] 52)) (.slice a6 T.length c6) (T)) := HQ7.out.kept (bl_alloc (bl_refl _))
          go_wp2_with (at_builtin; refine wpList_append_own_at _ rfl (.tmp 35) (.tmp 39) 47 rfl w2.heap.size 52 iT (.agg #[.int .i64 0, .int .i64 0, .int .i64 0]) 3 24 Tryd.underlying47 HI.out.1 HI.out.2.1 HI.out.2.2.1 HI.out.2.2.2 rfl (by decide) (.slice a6 T.length c6) T.length _ rfl HQ8.out.1 ⟨w7.heap.size, 0, none⟩ 1 1 [.int .i64 px, .int .i64 py, .int .i64 2] rfl rfl (cell_three_trb _ _ _ _) (three_trb _ _ _) (by unfold maxLen; omega) (by omega) (by have := HQ8.out.2.size; omega) ?growB)
          case growB =>
            intro v2 w9 hown2 hgrow2 _ _
            have HQ9 : Hid (QT w2 w9 v2 (T ++ [(px, py, 2)])) := HQ8.out.more hgrow2 hown2
            obtain ⟨a9, c9, rfl⟩ := own_slice HQ9.out.1
            clear hown2 hgrow2 HQ8
            go_wp2
            go_roundg (K.length - (i + 1))
            case measure => omega
            case rel =>
              refine ⟨i + 1, T ++ [(px, py, 2)], by omega, rfl, by go_num, ?_, HQ9.out⟩
              rw [List.take_succ_eq_append_getElem h1, List.flatMap_append, ← HT.out]
              simp [HTB.out]
      · go_upto_region 9 with (go_at_call 38; refine (CU.out _ (HQ1.out.2)).mono ?_; rintro e w5 ⟨rfl, hb5⟩; have HQ5 : Hid (QT w2 w5 (.slice a6 T.length c6) T) := HQ1.out.kept hb5; have x0 := cl_kept hb5 x0; have x1 := cl_kept hb5 x1; have x2 := cl_kept hb5 x2; have x3 := cl_kept hb5 x3; have z8 : B8 < w5.heap.size := World.block_lt_of_cell? _ _ x0; clear hb5)
        have HQ6 : Hid (QT w2 (w5.alloc (.cells #[.int .i64 px, .int .i64 py, .int .i64 1] 52)) (.slice a6 T.length c6) T) := HQ5.out.kept (bl_alloc (bl_refl _))
        go_wp2_with (at_builtin; refine wpList_append_own_at _ rfl (.tmp 26) (.tmp 30) 47 rfl w2.heap.size 52 iT (.agg #[.int .i64 0, .int .i64 0, .int .i64 0]) 3 24 Tryd.underlying47 HI.out.1 HI.out.2.1 HI.out.2.2.1 HI.out.2.2.2 rfl (by decide) (.slice a6 T.length c6) T.length _ rfl HQ6.out.1 ⟨w5.heap.size, 0, none⟩ 1 1 [.int .i64 px, .int .i64 py, .int .i64 1] rfl rfl (cell_three_trb _ _ _ _) (three_trb _ _ _) (by unfold maxLen; omega) (by omega) (by have := HQ6.out.2.size; omega) ?growA)
        case growA =>
          intro v1 w6 hown1 hgrow1 _ _
          have HQA : Hid (QT w2 w6 v1 (T ++ [(px, py, 1)])) := HQ6.out.more hgrow1 hown1
          have hne : some B8 ≠ (Value.slice a6 T.length c6).ownBlock := fun e => by
            have := HNB.out B8 e.symm
            omega
          replace x0 := hgrow1.cell (al_old (o := .cells #[.int .i64 px, .int .i64 py, .int .i64 1] 52) x0) hne
          replace x1 := hgrow1.cell (al_old (o := .cells #[.int .i64 px, .int .i64 py, .int .i64 1] 52) x1) hne
          replace x2 := hgrow1.cell (al_old (o := .cells #[.int .i64 px, .int .i64 py, .int .i64 1] 52) x2) hne
          replace x3 := hgrow1.cell (al_old (o := .cells #[.int .i64 px, .int .i64 py, .int .i64 1] 52) x3) hne
          have z8 : B8 < w6.heap.size := World.block_lt_of_cell? _ _ x0
          obtain ⟨T1, hT1⟩ : ∃ q, q = T ++ [(px, py, 1)] := ⟨_, rfl⟩
          rw [← hT1] at HQA
          obtain ⟨a7, c7, rfl⟩ := own_slice HQA.out.1
          have HT1 : Hid (T1 = T ++ [(px, py, 1)]) := hT1
          have hT19 : T1.length ≤ 1601 := by rw [hT1, List.length_append]; simp; omega
          clear hown1 hgrow1 HQ6 HQ5 hne hT1
          go_upto_region 10 with (fail)
          cases bv
          · go_wp2_with (go_at_call 39; refine (CB.out _ (HQA.out.2)).mono ?_; rintro e w7 ⟨rfl, hb7⟩; have HQ7 : Hid (QT w2 w7 (.slice a7 T1.length c7) (T1)) := HQA.out.kept hb7; have x0 := cl_kept hb7 x0; have x1 := cl_kept hb7 x1; have x2 := cl_kept hb7 x2; have x3 := cl_kept hb7 x3; have z8 : B8 < w7.heap.size := World.block_lt_of_cell? _ _ x0; clear hb7)
            go_roundg (K.length - (i + 1))
            case measure => omega
            case rel =>
              refine ⟨i + 1, T1, by omega, rfl, by go_num, ?_, HQ7.out⟩
              rw [List.take_succ_eq_append_getElem h1, List.flatMap_append, ← HT.out]
              simp [HTB.out, HT1.out]
          · go_upto_region 11 with (go_at_call 39; refine (CB.out _ (HQA.out.2)).mono ?_; rintro e w7 ⟨rfl, hb7⟩; have HQ7 : Hid (QT w2 w7 (.slice a7 T1.length c7) (T1)) := HQA.out.kept hb7; have x0 := cl_kept hb7 x0; have x1 := cl_kept hb7 x1; have x2 := cl_kept hb7 x2; have x3 := cl_kept hb7 x3; have z8 : B8 < w7.heap.size := World.block_lt_of_cell? _ _ x0; clear hb7)
            have HQ8 : Hid (QT w2 (w7.alloc (.cells #[.int .i64 px, .int .i64 py, .int .i64 2] 52)) (.slice a7 T1.length c7) (T1)) := HQ7.out.kept (bl_alloc (bl_refl _))
            go_wp2_with (at_builtin; refine wpList_append_own_at _ rfl (.tmp 35) (.tmp 39) 47 rfl w2.heap.size 52 iT (.agg #[.int .i64 0, .int .i64 0, .int .i64 0]) 3 24 Tryd.underlying47 HI.out.1 HI.out.2.1 HI.out.2.2.1 HI.out.2.2.2 rfl (by decide) (.slice a7 T1.length c7) T1.length _ rfl HQ8.out.1 ⟨w7.heap.size, 0, none⟩ 1 1 [.int .i64 px, .int .i64 py, .int .i64 2] rfl rfl (cell_three_trb _ _ _ _) (three_trb _ _ _) (by unfold maxLen; omega) (by omega) (by have := HQ8.out.2.size; omega) ?growB)
            case growB =>
              intro v2 w9 hown2 hgrow2 _ _
              have HQ9 : Hid (QT w2 w9 v2 (T1 ++ [(px, py, 2)])) := HQ8.out.more hgrow2 hown2
              obtain ⟨a9, c9, rfl⟩ := own_slice HQ9.out.1
              clear hown2 hgrow2 HQ8
              go_wp2
              go_roundg (K.length - (i + 1))
              case measure => omega
              case rel =>
                refine ⟨i + 1, T1 ++ [(px, py, 2)], by omega, rfl, by go_num, ?_, HQ9.out⟩
                rw [List.take_succ_eq_append_getElem h1, List.flatMap_append, ← HT.out]
                simp [HTB.out, HT1.out]
    · have i1 : ¬ (i : Int) < (K.length : Int) := by omega
      obtain rfl : i = K.length := by omega
      have HT2 : T = TT := by
        have h9 := HT.out
        rw [List.take_length] at h9
        rw [HTT.out]
        exact h9
      subst HT2
      obtain ⟨a9, c9, e9, hrow⟩ := HQ.out.row
      have HRW : Hid (TRow wr a6 T) := by
        simp only [Value.slice.injEq] at e9
        rw [e9.1]
        exact hrow
      clear e9 hrow
      go_wp2
      exact bodyPost_ret (v := .tuple #[.slice a6 T.length c6, .int .i64 0]) (by simp [results, Tryd.results17, go_sem]) rfl ⟨a6, ⟨c6, rfl⟩, HRW.out, bl_via HS.out.2 HQ.out.2⟩
set_option maxRecDepth 100000 in
set_option maxHeartbeats 3200000 in
theorem refTroubles_any (W H : Int) (a c : Option Addr) (n1 n2 ca cc : Nat) (w : World) (K : List (Int × Int)) (F : Int × Int → Nat → Int) (hK : K.length ≤ 800) (hcall : ∀ W' : World, Below w.heap.size w W' → Calls Tryd.prog 15 #[.agg #[.int .i64 W, .int .i64 H, .slice a n1 ca, .slice c n2 cc]] W' fun e w' => ∃ a3 c3, e = .returned (.slice a3 K.length c3) ∧ SRk w' a3 K F ∧ Below W'.heap.size W' w') :
    Calls Tryd.prog 18 #[.agg #[.int .i64 W, .int .i64 H, .slice a n1 ca, .slice c n2 cc]] w fun e w' => ∃ a4 c4, e = .returned (.slice a4 (K.flatMap (trob F)).length c4) ∧ TRow w' a4 (K.flatMap (trob F)) ∧ Below w.heap.size w w' := by
  have HC : Hid (∀ W' : World, Below w.heap.size w W' → Calls Tryd.prog 15 #[.agg #[.int .i64 W, .int .i64 H, .slice a n1 ca, .slice c n2 cc]] W' fun e w' => ∃ a3 c3, e = .returned (.slice a3 K.length c3) ∧ SRk w' a3 K F ∧ Below W'.heap.size W' w') := hcall
  clear hcall
  obtain ⟨TT, hTT⟩ : ∃ q, q = K.flatMap (trob F) := ⟨_, rfl⟩
  have HTT : Hid (TT = K.flatMap (trob F)) := hTT
  rw [← hTT]
  clear hTT
  obtain ⟨iT, hI⟩ := info_parts infTr
  have HI : Hid (Tryd.prog.info? 52 = some iT ∧ iT.zero = some (.agg #[.int .i64 0, .int .i64 0, .int .i64 0]) ∧ iT.size = 3 ∧ iT.bytes = 24) := hI
  clear hI
  go_enter Tryd.func18, Tryd.ntmps18
  go_wp2_with (go_at_call 15; refine (HC.out _ (by with_reducible exact bl_alloc (bl_refl _))).mono ?_; rintro e w2 ⟨a3, c3, rfl, hS, hb⟩; have HS : Hid (SRk w2 a3 K F ∧ Below w.heap.size w w2) := ⟨hS, bl_via (bl_alloc (bl_refl _)) hb⟩; clear hS hb)
  go_loopg [4, 5] K.length (fun gk s4 s5 wx => ∃ (i : Nat) (T : List (Int × Int × Int)), i ≤ K.length ∧ gk = K.length - i ∧ s5 = .int .i64 (i : Int) ∧ T = (K.take i).flatMap (trob F) ∧ QT w2 wx s4 T)
  case atStart => exact ⟨0, [], by omega, rfl, rfl, by simp, QT.start w2⟩
  case round =>
    obtain ⟨i, T, hi, rfl, rfl, hT, hQ⟩ := hrel
    obtain ⟨a4, c4, rfl⟩ := own_slice hQ.1
    have HQ : Hid (QT w2 wr (.slice a4 T.length c4) T) := hQ
    have HT : Hid (T = (K.take i).flatMap (trob F)) := hT
    have hT9 : T.length ≤ 1600 := by
      have h8 := trob_all F (K.take i)
      rw [← hT, List.length_take] at h8
      omega
    clear hT hQ
    by_cases h1 : i < K.length
    · have i1 : (i : Int) < (K.length : Int) := by omega
      have i0 : (0 : Int) ≤ (i : Int) := by omega
      obtain ⟨g, dA, dC, kA, kC, ea, y0, y1, y2, y3, rD, rK⟩ := HS.out.1 i h1
      subst ea
      have hd8 := (sdirs_len (F K[i]) 8).2
      have hk8 : (skinds (F K[i]) 8).length ≤ 8 := by rw [← (sdirs_len (F K[i]) 8).1]; exact hd8
      obtain ⟨bu, hbu⟩ : ∃ q, q = unevB (sdirs (F K[i]) 8) := ⟨_, rfl⟩
      obtain ⟨px, hpx⟩ : ∃ q, q = K[i].1 := ⟨_, rfl⟩
      obtain ⟨py, hpy⟩ : ∃ q, q = K[i].2 := ⟨_, rfl⟩
      obtain ⟨lk, hlk⟩ : ∃ q, q = skinds (F K[i]) 8 := ⟨_, rfl⟩
      obtain ⟨nD, hnD⟩ : ∃ q, q = (sdirs (F K[i]) 8).length := ⟨_, rfl⟩
      obtain ⟨nK, hnK⟩ : ∃ q, q = lk.length := ⟨_, rfl⟩
      obtain ⟨bv, hbv⟩ : ∃ q, q = unbB lk := ⟨_, rfl⟩
      rw [← hlk] at hk8 rK y3
      have CU : Hid (∀ W' : World, Below w2.heap.size w2 W' → Calls Tryd.prog 40 #[.agg #[.int .i64 px, .int .i64 py, .slice dA nD dC, .slice kA nK kC]] W' fun e w' => e = .returned (.bool bu) ∧ Below W'.heap.size W' w') := fun W' hW' => by
        rw [hbu, hnD]
        exact unevenIs_any dA kA dC nK kC px py _ W' (rD.kept hW') hd8 (sdirs_bd _)
      have HRK : Hid (∀ W' : World, Below w2.heap.size w2 W' → Row W' kA lk) := fun W' hW' => rK.kept hW'
      have HBV : Hid (bv = unbB lk) := hbv
      have HNK : Hid (nK = lk.length) := hnK
      have hnk8 : nK ≤ 8 := by omega
      have HTB : Hid (trob F K[i] = (if bu = true then [(px, py, 1)] else []) ++ (if bv = true then [(px, py, 2)] else [])) := by
        have : trob F K[i] = (if bu = true then [(px, py, 1)] else []) ++ (if bv = true then [(px, py, 2)] else []) := by rw [hbu, hbv, hlk, hpx, hpy]; rfl
        exact this
      rw [← hnD] at y2
      rw [← hnK] at y3
      rw [← hpx] at y0
      rw [← hpy] at y1
      replace y0 := cl_kept HQ.out.2 y0
      replace y1 := cl_kept HQ.out.2 y1
      replace y2 := cl_kept HQ.out.2 y2
      replace y3 := cl_kept HQ.out.2 y3
      have zg : g < wr.heap.size := World.block_lt_of_cell? _ _ y0
      have HNB : Hid (g < w2.heap.size) := by
        obtain ⟨g', _, _, _, _, e', y', _⟩ := HS.out.1 i h1
        simp only [Option.some.injEq, Addr.mk.injEq, and_true] at e'
        have := World.block_lt_of_cell? _ _ y'
        rw [← e'] at this
        exact this
      clear rD rK hnD hnK hpx hpy hbu hbv hlk hd8 hk8
      cases bu
      · go_upto_region 8 with (go_at_call 40; refine (CU.out _ (HQ.out.2)).mono ?_; rintro e w5 ⟨rfl, hb5⟩; have HQ5 : Hid (QT w2 w5 (.slice a4 T.length c4) T) := HQ.out.kept hb5; have y0 := cl_kept hb5 y0; have y1 := cl_kept hb5 y1; have y2 := cl_kept hb5 y2; have y3 := cl_kept hb5 y3; have zg : g < w5.heap.size := World.block_lt_of_cell? _ _ y0; clear hb5)
        go_wp2
        go_loopg [6, 7] nK (fun gk s6 s7 wx => ∃ k : Nat, k ≤ nK ∧ gk = nK - k ∧ s6 = .int .i64 (kbal lk k) ∧ s7 = .int .i64 (k : Int) ∧ wx = w5)
        case atStart => exact ⟨0, by omega, rfl, rfl, rfl, rfl⟩
        case round =>
          obtain ⟨k, hk, rfl, rfl, rfl, rfl⟩ := hrel
          have hts := kbal_bd lk k
          obtain ⟨ts, hts2⟩ : ∃ z, z = kbal lk k := ⟨_, rfl⟩
          rw [← hts2] at hts
          rw [← hts2]
          have HTS : Hid (ts = kbal lk k) := hts2
          clear hts2
          by_cases hk1 : k < nK
          · have ik1 : (k : Int) < (nK : Int) := by omega
            have ik0 : (0 : Int) ≤ (k : Int) := by omega
            obtain ⟨gk2, ok2, rfl, c0⟩ := (HRK.out _ HQ5.out.2) k (by have := HNK.out; omega)
            rw [getD_at] at c0
            obtain ⟨x0, hx0⟩ : ∃ z, z = lk.getD k 0 := ⟨_, rfl⟩
            have HNX : Hid (kbal lk (k + 1) = ts + if x0 = 1 then 1 else -1) := by
              have : kbal lk (k + 1) = ts + if x0 = 1 then 1 else -1 := by rw [HTS.out, hx0]; rfl
              exact this
            rw [← hx0] at c0
            have zk : gk2 < wr.heap.size := World.block_lt_of_cell? _ _ c0
            clear hx0
            by_cases q : x0 = 1
            · have qb : (x0 == 1) = true := by simpa using q
              have HN2 : Hid (kbal lk (k + 1) = ts + 1) := by
                have : kbal lk (k + 1) = ts + 1 := by rw [HNX.out, if_pos q]
                exact this
              clear q
              go_wp2
              go_roundg (nK - (k + 1))
              case measure => omega
              case rel => exact ⟨k + 1, by omega, rfl, by rw [HN2.out], by go_num, rfl⟩
            · have qb : (x0 == 1) = false := by simpa using q
              have HN2 : Hid (kbal lk (k + 1) = ts - 1) := by
                have : kbal lk (k + 1) = ts - 1 := by rw [HNX.out, if_neg q]; omega
                exact this
              clear q
              go_wp2
              go_roundg (nK - (k + 1))
              case measure => omega
              case rel => exact ⟨k + 1, by omega, rfl, by rw [HN2.out], by go_num, rfl⟩
          · have ik1 : ¬ (k : Int) < (nK : Int) := by omega
            obtain rfl : k = nK := by omega
            have hbv2 : bv = (decide (ts ≠ 2) && decide (ts ≠ -2)) := by rw [HBV.out, unbB, ← HNK.out, ← HTS.out]
            by_cases q2 : ts = 2
            · have qq : (ts != 2) = false := by simpa using q2
              obtain rfl : bv = false := by rw [hbv2]; simp [q2]
              clear q2 hbv2
              go_wp2
              go_roundg (K.length - (i + 1))
              case measure => omega
              case rel =>
                refine ⟨i + 1, T, by omega, rfl, by go_num, ?_, HQ5.out⟩
                rw [List.take_succ_eq_append_getElem h1, List.flatMap_append, ← HT.out]
                simp [HTB.out]
            · have qq : (ts != 2) = true := by simpa using q2
              by_cases q3 : ts = -2
              · have qr : (ts != -2) = false := by simpa using q3
                obtain rfl : bv = false := by rw [hbv2]; simp [q3]
                clear q2 q3 hbv2
                go_wp2
                go_roundg (K.length - (i + 1))
                case measure => omega
                case rel =>
                  refine ⟨i + 1, T, by omega, rfl, by go_num, ?_, HQ5.out⟩
                  rw [List.take_succ_eq_append_getElem h1, List.flatMap_append, ← HT.out]
                  simp [HTB.out]
              · have qr : (ts != -2) = true := by simpa using q3
                obtain rfl : bv = true := by rw [hbv2]; simp [q2, q3]
                clear q2 q3 hbv2
                go_upto_region 16 with (fail)
                have HQ8 : Hid (QT w2 (wr.alloc (.cells #[.int .i64 px, .int .i64 py, .int .i64 2] 52)) (.slice a4 T.length c4) (T)) := HQ5.out.kept (bl_alloc (bl_refl _))
                go_wp2_with (at_builtin; refine wpList_append_own_at _ rfl (.tmp 59) (.tmp 66) 47 rfl w2.heap.size 52 iT (.agg #[.int .i64 0, .int .i64 0, .int .i64 0]) 3 24 Tryd.underlying47 HI.out.1 HI.out.2.1 HI.out.2.2.1 HI.out.2.2.2 rfl (by decide) (.slice a4 T.length c4) T.length _ rfl HQ8.out.1 ⟨wr.heap.size, 0, none⟩ 1 1 [.int .i64 px, .int .i64 py, .int .i64 2] rfl rfl (cell_three_trb _ _ _ _) (three_trb _ _ _) (by unfold maxLen; omega) (by omega) (by have := HQ8.out.2.size; omega) ?growB)
                case growB =>
                  intro v2 w9 hown2 hgrow2 _ _
                  have HQ9 : Hid (QT w2 w9 v2 (T ++ [(px, py, 2)])) := HQ8.out.more hgrow2 hown2
                  obtain ⟨a9, c9, rfl⟩ := own_slice HQ9.out.1
                  clear hown2 hgrow2 HQ8
                  go_wp2
                  go_roundg (K.length - (i + 1))
                  case measure => omega
                  case rel =>
                    refine ⟨i + 1, T ++ [(px, py, 2)], by omega, rfl, by go_num, ?_, HQ9.out⟩
                    rw [List.take_succ_eq_append_getElem h1, List.flatMap_append, ← HT.out]
                    simp [HTB.out]
      · go_upto_region 7 with (go_at_call 40; refine (CU.out _ (HQ.out.2)).mono ?_; rintro e w5 ⟨rfl, hb5⟩; have HQ5 : Hid (QT w2 w5 (.slice a4 T.length c4) T) := HQ.out.kept hb5; have y0 := cl_kept hb5 y0; have y1 := cl_kept hb5 y1; have y2 := cl_kept hb5 y2; have y3 := cl_kept hb5 y3; have zg : g < w5.heap.size := World.block_lt_of_cell? _ _ y0; clear hb5)
        have HQ6 : Hid (QT w2 (w5.alloc (.cells #[.int .i64 px, .int .i64 py, .int .i64 1] 52)) (.slice a4 T.length c4) T) := HQ5.out.kept (bl_alloc (bl_refl _))
        go_wp2_with (at_builtin; refine wpList_append_own_at _ rfl (.tmp 21) (.tmp 28) 47 rfl w2.heap.size 52 iT (.agg #[.int .i64 0, .int .i64 0, .int .i64 0]) 3 24 Tryd.underlying47 HI.out.1 HI.out.2.1 HI.out.2.2.1 HI.out.2.2.2 rfl (by decide) (.slice a4 T.length c4) T.length _ rfl HQ6.out.1 ⟨w5.heap.size, 0, none⟩ 1 1 [.int .i64 px, .int .i64 py, .int .i64 1] rfl rfl (cell_three_trb _ _ _ _) (three_trb _ _ _) (by unfold maxLen; omega) (by omega) (by have := HQ6.out.2.size; omega) ?growA)
        case growA =>
          intro v1 w6 hown1 hgrow1 _ _
          have HQA : Hid (QT w2 w6 v1 (T ++ [(px, py, 1)])) := HQ6.out.more hgrow1 hown1
          have hne : some g ≠ (Value.slice a4 T.length c4).ownBlock := fun e => by
            have := own_base HQ6.out.1 g e.symm
            have := HNB.out
            omega
          replace y0 := hgrow1.cell (al_old (o := .cells #[.int .i64 px, .int .i64 py, .int .i64 1] 52) y0) hne
          replace y1 := hgrow1.cell (al_old (o := .cells #[.int .i64 px, .int .i64 py, .int .i64 1] 52) y1) hne
          replace y2 := hgrow1.cell (al_old (o := .cells #[.int .i64 px, .int .i64 py, .int .i64 1] 52) y2) hne
          replace y3 := hgrow1.cell (al_old (o := .cells #[.int .i64 px, .int .i64 py, .int .i64 1] 52) y3) hne
          have zg : g < w6.heap.size := World.block_lt_of_cell? _ _ y0
          obtain ⟨T1, hT1⟩ : ∃ q, q = T ++ [(px, py, 1)] := ⟨_, rfl⟩
          rw [← hT1] at HQA
          obtain ⟨a7, c7, rfl⟩ := own_slice HQA.out.1
          have HT1 : Hid (T1 = T ++ [(px, py, 1)]) := hT1
          have hT19 : T1.length ≤ 1601 := by rw [hT1, List.length_append]; simp; omega
          clear hown1 hgrow1 HQ6 HQ5 hne hT1
          go_wp2
          go_loopg [6, 7] nK (fun gk s6 s7 wx => ∃ k : Nat, k ≤ nK ∧ gk = nK - k ∧ s6 = .int .i64 (kbal lk k) ∧ s7 = .int .i64 (k : Int) ∧ wx = w6)
          case atStart => exact ⟨0, by omega, rfl, rfl, rfl, rfl⟩
          case round =>
            obtain ⟨k, hk, rfl, rfl, rfl, rfl⟩ := hrel
            have hts := kbal_bd lk k
            obtain ⟨ts, hts2⟩ : ∃ z, z = kbal lk k := ⟨_, rfl⟩
            rw [← hts2] at hts
            rw [← hts2]
            have HTS : Hid (ts = kbal lk k) := hts2
            clear hts2
            by_cases hk1 : k < nK
            · have ik1 : (k : Int) < (nK : Int) := by omega
              have ik0 : (0 : Int) ≤ (k : Int) := by omega
              obtain ⟨gk2, ok2, rfl, c0⟩ := (HRK.out _ HQA.out.2) k (by have := HNK.out; omega)
              rw [getD_at] at c0
              obtain ⟨x0, hx0⟩ : ∃ z, z = lk.getD k 0 := ⟨_, rfl⟩
              have HNX : Hid (kbal lk (k + 1) = ts + if x0 = 1 then 1 else -1) := by
                have : kbal lk (k + 1) = ts + if x0 = 1 then 1 else -1 := by rw [HTS.out, hx0]; rfl
                exact this
              rw [← hx0] at c0
              have zk : gk2 < wr.heap.size := World.block_lt_of_cell? _ _ c0
              clear hx0
              by_cases q : x0 = 1
              · have qb : (x0 == 1) = true := by simpa using q
                have HN2 : Hid (kbal lk (k + 1) = ts + 1) := by
                  have : kbal lk (k + 1) = ts + 1 := by rw [HNX.out, if_pos q]
                  exact this
                clear q
                go_wp2
                go_roundg (nK - (k + 1))
                case measure => omega
                case rel => exact ⟨k + 1, by omega, rfl, by rw [HN2.out], by go_num, rfl⟩
              · have qb : (x0 == 1) = false := by simpa using q
                have HN2 : Hid (kbal lk (k + 1) = ts - 1) := by
                  have : kbal lk (k + 1) = ts - 1 := by rw [HNX.out, if_neg q]; omega
                  exact this
                clear q
                go_wp2
                go_roundg (nK - (k + 1))
                case measure => omega
                case rel => exact ⟨k + 1, by omega, rfl, by rw [HN2.out], by go_num, rfl⟩
            · have ik1 : ¬ (k : Int) < (nK : Int) := by omega
              obtain rfl : k = nK := by omega
              have hbv2 : bv = (decide (ts ≠ 2) && decide (ts ≠ -2)) := by rw [HBV.out, unbB, ← HNK.out, ← HTS.out]
              by_cases q2 : ts = 2
              · have qq : (ts != 2) = false := by simpa using q2
                obtain rfl : bv = false := by rw [hbv2]; simp [q2]
                clear q2 hbv2
                go_wp2
                go_roundg (K.length - (i + 1))
                case measure => omega
                case rel =>
                  refine ⟨i + 1, T1, by omega, rfl, by go_num, ?_, HQA.out⟩
                  rw [List.take_succ_eq_append_getElem h1, List.flatMap_append, ← HT.out]
                  simp [HTB.out, HT1.out]
              · have qq : (ts != 2) = true := by simpa using q2
                by_cases q3 : ts = -2
                · have qr : (ts != -2) = false := by simpa using q3
                  obtain rfl : bv = false := by rw [hbv2]; simp [q3]
                  clear q2 q3 hbv2
                  go_wp2
                  go_roundg (K.length - (i + 1))
                  case measure => omega
                  case rel =>
                    refine ⟨i + 1, T1, by omega, rfl, by go_num, ?_, HQA.out⟩
                    rw [List.take_succ_eq_append_getElem h1, List.flatMap_append, ← HT.out]
                    simp [HTB.out, HT1.out]
                · have qr : (ts != -2) = true := by simpa using q3
                  obtain rfl : bv = true := by rw [hbv2]; simp [q2, q3]
                  clear q2 q3 hbv2
                  go_upto_region 16 with (fail)
                  have HQ8 : Hid (QT w2 (wr.alloc (.cells #[.int .i64 px, .int .i64 py, .int .i64 2] 52)) (.slice a7 T1.length c7) (T1)) := HQA.out.kept (bl_alloc (bl_refl _))
                  go_wp2_with (at_builtin; refine wpList_append_own_at _ rfl (.tmp 59) (.tmp 66) 47 rfl w2.heap.size 52 iT (.agg #[.int .i64 0, .int .i64 0, .int .i64 0]) 3 24 Tryd.underlying47 HI.out.1 HI.out.2.1 HI.out.2.2.1 HI.out.2.2.2 rfl (by decide) (.slice a7 T1.length c7) T1.length _ rfl HQ8.out.1 ⟨wr.heap.size, 0, none⟩ 1 1 [.int .i64 px, .int .i64 py, .int .i64 2] rfl rfl (cell_three_trb _ _ _ _) (three_trb _ _ _) (by unfold maxLen; omega) (by omega) (by have := HQ8.out.2.size; omega) ?growB)
                  case growB =>
                    intro v2 w9 hown2 hgrow2 _ _
                    have HQ9 : Hid (QT w2 w9 v2 (T1 ++ [(px, py, 2)])) := HQ8.out.more hgrow2 hown2
                    obtain ⟨a9, c9, rfl⟩ := own_slice HQ9.out.1
                    clear hown2 hgrow2 HQ8
                    go_wp2
                    go_roundg (K.length - (i + 1))
                    case measure => omega
                    case rel =>
                      refine ⟨i + 1, T1 ++ [(px, py, 2)], by omega, rfl, by go_num, ?_, HQ9.out⟩
                      rw [List.take_succ_eq_append_getElem h1, List.flatMap_append, ← HT.out]
                      simp [HTB.out, HT1.out]
    · have i1 : ¬ (i : Int) < (K.length : Int) := by omega
      obtain rfl : i = K.length := by omega
      have HT2 : T = TT := by
        have h9 := HT.out
        rw [List.take_length] at h9
        rw [HTT.out]
        exact h9
      subst HT2
      obtain ⟨a9, c9, e9, hrow⟩ := HQ.out.row
      have HRW : Hid (TRow wr a4 T) := by
        simp only [Value.slice.injEq] at e9
        rw [e9.1]
        exact hrow
      clear e9 hrow
      go_wp2
      go_ret
      exact ⟨a4, ⟨c4, rfl⟩, HRW.out, bl_via HS.out.2 HQ.out.2⟩
end Go.Proofs.YtoedcefbmbfnhabDoor
namespace Go.Proofs.YtoedcefbmbfnhabDoor
open Go.RowKit Go.ChangeMaps

theorem Troubles_no (W H : Int) (a c : Option Addr) (n1 n2 ca cc : Nat) (w : World) (hcall : ∀ W' : World, Below w.heap.size w W' → Calls Tryd.prog 21 #[.agg #[.int .i64 W, .int .i64 H, .slice a n1 ca, .slice c n2 cc]] W' fun e w' => e = .returned (.tuple #[.agg #[.slice none 0 0, .map none, .map none], .bool false]) ∧ Below W'.heap.size W' w') :
    Calls Tryd.prog 17 #[.agg #[.int .i64 W, .int .i64 H, .slice a n1 ca, .slice c n2 cc]] w fun e w' => e = .returned (.tuple #[.slice none 0 0, .int .i64 10]) ∧ Below w.heap.size w w' := by
  have HC : Hid (∀ W' : World, Below w.heap.size w W' → Calls Tryd.prog 14 #[.agg #[.int .i64 W, .int .i64 H, .slice a n1 ca, .slice c n2 cc]] W' fun e w' => e = .returned (.tuple #[.slice none 0 0, .int .i64 10]) ∧ Below W'.heap.size W' w') := fun W' hW' => Stars_no W H a c n1 n2 ca cc W' (fun W2 h2 => hcall W2 (bl_via hW' h2))
  clear hcall
  go_enter Tryd.func17, Tryd.ntmps17
  go_wp2_with (go_at_call 14; refine (HC.out _ (by with_reducible exact bl_alloc (bl_refl _))).mono ?_; rintro e w2 ⟨rfl, hb⟩; have HB : Hid (Below w.heap.size w w2) := bl_via (bl_alloc (bl_refl _)) hb; clear hb)
  exact bodyPost_ret (v := .tuple #[.slice none 0 0, .int .i64 10]) (by simp [results, Tryd.results17, go_sem]) rfl ⟨rfl, by with_reducible repeat (first | exact HB.out | refine bl_alloc ?_)⟩
theorem TRow.keptH {w wx : World} {a : Option Addr} {T : List (Int × Int × Int)} (h : TRow w a T) (hb : Below w.heap.size w wx) : Hid (TRow wx a T) := h.kept hb
theorem neqT_same (a b c : Int) (w : World) : (binOp .neq 52 (.agg #[.int .i64 a, .int .i64 b, .int .i64 c]) (.agg #[.int .i64 a, .int .i64 b, .int .i64 c])).run Tryd.prog w = .ok (.bool false) w := by
  simp [go_sem]
set_option maxRecDepth 100000 in
set_option maxHeartbeats 3200000 in
theorem flatTroubles_no (W H : Int) (a c : Option Addr) (ca cc n : Nat) (zs ks : List Int) (w : World) (hz : Row w a zs) (hk : Row w c ks) (hn : ks.length = n * 5) (h1 : zs.length ≤ 17592186044416) (h2 : n ≤ 3518437208883) (hLay : LayNo w W H zs ks n) (hMay : MayIs w W H a c ca cc zs n false) :
    Calls Tryd.prog 5 #[.agg #[.int .i64 W, .int .i64 H, .slice a zs.length ca, .slice c n cc]] w fun e w' => e = .returned (.bool true) ∧ Below w.heap.size w w' := by
  have HZ : Hid (Row w a zs) := hz
  have HK : Hid (Row w c ks) := hk
  have HN : Hid (ks.length = n * 5 ∧ zs.length ≤ 17592186044416 ∧ n ≤ 3518437208883) := ⟨hn, h1, h2⟩
  have HLAY : Hid (LayNo w W H zs ks n) := hLay
  have HMAY : Hid (MayIs w W H a c ca cc zs n false) := hMay
  clear hz hk hn h1 h2 hLay hMay
  go_enter Tryd.func5, Tryd.ntmps5
  go_wp2_with (first
    | (go_at_call 8; refine (sheetOf_any W H a c ca cc n zs ks _ (HZ.out.kept (by with_reducible (first | exact HB.out | exact bl_alloc (bl_refl _)))) (HK.out.kept (by with_reducible (first | exact HB.out | exact bl_alloc (bl_refl _)))) HN.out.1 HN.out.2.1 HN.out.2.2).mono ?_; rintro e w2 ⟨a', ca', b', cb', rfl, hrow, hrk, hb⟩; have s0 : w2.cell? ⟨w.heap.size, 0, none⟩ = some (.int .i64 W) := cl_kept hb (by first | (with_reducible assumption) | (simp [go_sem]; done)); have s1 : w2.cell? ⟨w.heap.size, 1, none⟩ = some (.int .i64 H) := cl_kept hb (by first | (with_reducible assumption) | (simp [go_sem]; done)); have s2 : w2.cell? ⟨w.heap.size, 2, none⟩ = some (.slice a zs.length ca) := cl_kept hb (by first | (with_reducible assumption) | (simp [go_sem]; done)); have s3 : w2.cell? ⟨w.heap.size, 3, none⟩ = some (.slice c n cc) := cl_kept hb (by first | (with_reducible assumption) | (simp [go_sem]; done)); have HRow : Hid (Row w2 a' zs ∧ Row w2 b' ks) := ⟨hrow.row, hrk.row⟩; clear hrow hrk; have hq : Below w.heap.size w w2 := (by with_reducible (first | exact bl_via HB.out hb | exact bl_via (bl_alloc (bl_refl _)) hb)); have HB : Hid (Below w.heap.size w w2) := hq; have zs0 : w.heap.size < w2.heap.size := World.block_lt_of_cell? _ _ s0; clear hb hq)
    | (go_at_call 17; refine (Troubles_no W H _ _ _ _ _ _ _ (fun W' hW' => HLAY.out W' _ _ _ _ (bl_via HB.out hW') (HRow.out.1.kept hW') (HRow.out.2.kept hW'))).mono ?_; rintro e w2 ⟨rfl, hb⟩; have s0 : w2.cell? ⟨w.heap.size, 0, none⟩ = some (.int .i64 W) := cl_kept hb (by first | (with_reducible assumption) | (simp [go_sem]; done)); have s1 : w2.cell? ⟨w.heap.size, 1, none⟩ = some (.int .i64 H) := cl_kept hb (by first | (with_reducible assumption) | (simp [go_sem]; done)); have s2 : w2.cell? ⟨w.heap.size, 2, none⟩ = some (.slice a zs.length ca) := cl_kept hb (by first | (with_reducible assumption) | (simp [go_sem]; done)); have s3 : w2.cell? ⟨w.heap.size, 3, none⟩ = some (.slice c n cc) := cl_kept hb (by first | (with_reducible assumption) | (simp [go_sem]; done)); have hq : Below w.heap.size w w2 := (by with_reducible (first | exact bl_via HB.out hb | exact bl_via (bl_alloc (bl_refl _)) hb)); have HB : Hid (Below w.heap.size w w2) := hq; have zs0 : w.heap.size < w2.heap.size := World.block_lt_of_cell? _ _ s0; clear hb hq)
    | (go_at_call 10; refine (HMAY.out _ (by with_reducible (first | exact HB.out | exact bl_alloc (bl_refl _)))).mono ?_; rintro e w2 ⟨rfl, hb⟩; have s0 : w2.cell? ⟨w.heap.size, 0, none⟩ = some (.int .i64 W) := cl_kept hb (by first | (with_reducible assumption) | (simp [go_sem]; done)); have s1 : w2.cell? ⟨w.heap.size, 1, none⟩ = some (.int .i64 H) := cl_kept hb (by first | (with_reducible assumption) | (simp [go_sem]; done)); have s2 : w2.cell? ⟨w.heap.size, 2, none⟩ = some (.slice a zs.length ca) := cl_kept hb (by first | (with_reducible assumption) | (simp [go_sem]; done)); have s3 : w2.cell? ⟨w.heap.size, 3, none⟩ = some (.slice c n cc) := cl_kept hb (by first | (with_reducible assumption) | (simp [go_sem]; done)); have hq : Below w.heap.size w w2 := (by with_reducible (first | exact bl_via HB.out hb | exact bl_via (bl_alloc (bl_refl _)) hb)); have HB : Hid (Below w.heap.size w w2) := hq; have zs0 : w.heap.size < w2.heap.size := World.block_lt_of_cell? _ _ s0; clear hb hq))
  go_ret
  exact ⟨rfl, HB.out⟩

set_option maxRecDepth 100000 in
set_option maxHeartbeats 3200000 in
theorem flatTroubles_yes (Wn Hn b off ca n cc : Nat) (c : Option Addr) (zs ks : List Int) (w : World) (hr : Row w (some ⟨b, off, none⟩) zs) (hW : 1 ≤ Wn ∧ Wn ≤ 8) (hH : 1 ≤ Hn ∧ Hn ≤ 8) (hl : zs.length = Wn * Hn) (hm : maskB zs = true) (hk : Row w c ks) (hn : ks.length = n * 5) (hn2 : n ≤ 3518437208883) (hs : Steps w) (hJ : Joined (ty zs Wn Hn)) (hC : ∀ i, i < n → CrOk (ty zs Wn Hn) ks i) (hMay : MayIs w (Wn : Int) (Hn : Int) (some ⟨b, off, none⟩) c ca cc zs n true) :
    Calls Tryd.prog 5 #[.agg #[.int .i64 (Wn : Int), .int .i64 (Hn : Int), .slice (some ⟨b, off, none⟩) zs.length ca, .slice c n cc]] w fun e w' => e = .returned (.bool true) ∧ Below w.heap.size w w' := by
  have HZ : Hid (Row w (some ⟨b, off, none⟩) zs) := hr
  have HK : Hid (Row w c ks) := hk
  have h64 : zs.length ≤ 64 := by rw [hl]; exact Nat.le_trans (Nat.mul_le_mul hW.2 hH.2) (by decide)
  have HN : Hid (ks.length = n * 5 ∧ zs.length ≤ 17592186044416 ∧ n ≤ 3518437208883) := ⟨hn, by omega, hn2⟩
  have h0 : 0 < zs.length := by
    rw [hl]
    exact Nat.mul_pos (by omega) (by omega)
  have HN0 : Hid (0 < zs.length) := h0
  have HMAY : Hid (MayIs w (Wn : Int) (Hn : Int) (some ⟨b, off, none⟩) c ca cc zs n true) := hMay
  have hlen : (ty zs Wn Hn).length ≤ 256 := by have := ty_len zs Wn Hn hW.2; omega
  have hkd : ∀ t ∈ ty zs Wn Hn, Kd t := fun t ht => (ty_bd hW.2 hH.2 t ht).2.2
  have hnd := ty_nodup zs Wn Hn
  have hge : ∀ i, i < n → GE (ck ks i 0, ck ks i 1, ck ks i 2, ck ks i 3) := fun i hi => ge_crease (hC i hi) hkd
  obtain ⟨pts, hpts, hpl0⟩ := spt_is ((ty zs Wn Hn).flatMap cnr)
  have hpl : pts.length ≤ 3 * (ty zs Wn Hn).length := by
    refine Nat.le_trans hpl0 (Nat.le_of_eq ?_)
    generalize ty zs Wn Hn = l
    induction l with
    | nil => rfl
    | cons t l ih =>
      rw [List.flatMap_cons, List.length_append, ih, List.length_cons]
      simp [cnr]
      omega
  obtain ⟨F, hF⟩ : ∃ F : Int × Int → Nat → Int, F = fun pt d => kdn ks n (eP pt d) := ⟨_, rfl⟩
  obtain ⟨K, hK⟩ : ∃ K, K = pts.filter (gref (ty zs Wn Hn) F) := ⟨_, rfl⟩
  have hKl : K.length ≤ 800 := by
    have h9 : K.length ≤ pts.length := by rw [hK]; exact List.length_filter_le ..
    omega
  have CF : Hid (∀ (W' : World) (ba oa ca' : Nat) (c' : Option Addr) (cc' : Nat), Below w.heap.size w W' → Row W' (some ⟨ba, oa, none⟩) zs → Row W' c' ks → Calls Tryd.prog 14 #[.agg #[.int .i64 (Wn : Int), .int .i64 (Hn : Int), .slice (some ⟨ba, oa, none⟩) zs.length ca', .slice c' n cc']] W' fun e w' => ∃ a3 c3, e = .returned (.tuple #[.slice a3 K.length c3, .int .i64 0]) ∧ SRk w' a3 K F ∧ Below W'.heap.size W' w') := fun W' ba oa ca' c' cc' hb q1 q2 => by
    rw [hK, hF]
    exact (Stars_yes Wn Hn ba oa ca' n cc' c' zs ks W' q1 hW hH hl hm q2 hn hn2 (hs.kept hb) hJ hC).mono fun e w' h => stars_to h hnd hkd hge hpts
  have CR : Hid (∀ W' : World, Below w.heap.size w W' → Calls Tryd.prog 15 #[.agg #[.int .i64 (Wn : Int), .int .i64 (Hn : Int), .slice (some ⟨b, off, none⟩) zs.length ca, .slice c n cc]] W' fun e w' => ∃ a4 c4, e = .returned (.slice a4 K.length c4) ∧ SRk w' a4 K F ∧ Below W'.heap.size W' w') := fun W' hb => by
    rw [hK, hF]
    exact (refStars_any Wn Hn b off ca n cc c zs ks W' (hr.kept hb) hW hH hl hm (hk.kept hb) hn hn2 (cr_one hC)).mono fun e w' h => ref_to (RefR.ofA h) hpts
  obtain ⟨T, hT⟩ : ∃ T, T = K.flatMap (trob F) := ⟨_, rfl⟩
  have hTl : T.length ≤ 1600 := by
    have h9 := trob_all F K
    rw [← hT] at h9
    omega
  have CFT : Hid (∀ (W' : World) (ba oa ca' : Nat) (c' : Option Addr) (cc' : Nat), Below w.heap.size w W' → Row W' (some ⟨ba, oa, none⟩) zs → Row W' c' ks → Calls Tryd.prog 17 #[.agg #[.int .i64 (Wn : Int), .int .i64 (Hn : Int), .slice (some ⟨ba, oa, none⟩) zs.length ca', .slice c' n cc']] W' fun e w' => ∃ a3 c3, e = .returned (.tuple #[.slice a3 T.length c3, .int .i64 0]) ∧ TRow w' a3 T ∧ Below W'.heap.size W' w') := fun W' ba oa ca' c' cc' hb q1 q2 => by
    rw [hT]
    exact Troubles_yes _ _ _ _ _ _ _ _ W' K F hKl (fun W2 h2 => CF.out W2 ba oa ca' c' cc' (bl_via hb h2) (q1.kept h2) (q2.kept h2))
  have CRT : Hid (∀ W' : World, Below w.heap.size w W' → Calls Tryd.prog 18 #[.agg #[.int .i64 (Wn : Int), .int .i64 (Hn : Int), .slice (some ⟨b, off, none⟩) zs.length ca, .slice c n cc]] W' fun e w' => ∃ a4 c4, e = .returned (.slice a4 T.length c4) ∧ TRow w' a4 T ∧ Below W'.heap.size W' w') := fun W' hb => by
    rw [hT]
    exact refTroubles_any _ _ _ _ _ _ _ _ W' K F hKl (fun W2 h2 => CR.out W2 (bl_via hb h2))
  clear CF CR hT hKl
  clear hr hk hl hm hW hH hn hs hJ hC hMay h0 h64 hkd hnd hpts hpl0 hpl hge hlen hK hF
  go_enter Tryd.func5, Tryd.ntmps5
  go_wp2_with (first
    | (go_at_call 8; refine (sheetOf_any (Wn : Int) (Hn : Int) (some ⟨b, off, none⟩) c ca cc n zs ks _ (HZ.out.kept (by with_reducible (first | exact HB.out | exact bl_alloc (bl_refl _)))) (HK.out.kept (by with_reducible (first | exact HB.out | exact bl_alloc (bl_refl _)))) HN.out.1 HN.out.2.1 HN.out.2.2).mono ?_; rintro e w2 ⟨a', ca', b', cb', rfl, hrow, hrk, hb⟩; have s0 : w2.cell? ⟨w.heap.size, 0, none⟩ = some (.int .i64 (Wn : Int)) := cl_kept hb (by first | (with_reducible assumption) | (simp [go_sem]; done)); have s1 : w2.cell? ⟨w.heap.size, 1, none⟩ = some (.int .i64 (Hn : Int)) := cl_kept hb (by first | (with_reducible assumption) | (simp [go_sem]; done)); have s2 : w2.cell? ⟨w.heap.size, 2, none⟩ = some (.slice (some ⟨b, off, none⟩) zs.length ca) := cl_kept hb (by first | (with_reducible assumption) | (simp [go_sem]; done)); have s3 : w2.cell? ⟨w.heap.size, 3, none⟩ = some (.slice c n cc) := cl_kept hb (by first | (with_reducible assumption) | (simp [go_sem]; done)); obtain ⟨ba, oa, rfl, _⟩ := hrow.row 0 HN0.out; have HRow : Hid (Row w2 (some ⟨ba, oa, none⟩) zs ∧ Row w2 b' ks) := ⟨hrow.row, hrk.row⟩; clear hrow hrk; (try (have HM := HM.out.keptH hb)); have hq : Below w.heap.size w w2 := (by with_reducible (first | exact bl_via HB.out hb | exact bl_via (bl_alloc (bl_refl _)) hb)); have HB : Hid (Below w.heap.size w w2) := hq; have zs0 : w.heap.size < w2.heap.size := World.block_lt_of_cell? _ _ s0; clear hb hq)
    | (go_at_call 17; refine (CFT.out _ _ _ _ _ _ HB.out HRow.out.1 HRow.out.2).mono ?_; rintro e w2 ⟨a3, c3, rfl, hnr, hb⟩; have s0 : w2.cell? ⟨w.heap.size, 0, none⟩ = some (.int .i64 (Wn : Int)) := cl_kept hb (by first | (with_reducible assumption) | (simp [go_sem]; done)); have s1 : w2.cell? ⟨w.heap.size, 1, none⟩ = some (.int .i64 (Hn : Int)) := cl_kept hb (by first | (with_reducible assumption) | (simp [go_sem]; done)); have s2 : w2.cell? ⟨w.heap.size, 2, none⟩ = some (.slice (some ⟨b, off, none⟩) zs.length ca) := cl_kept hb (by first | (with_reducible assumption) | (simp [go_sem]; done)); have s3 : w2.cell? ⟨w.heap.size, 3, none⟩ = some (.slice c n cc) := cl_kept hb (by first | (with_reducible assumption) | (simp [go_sem]; done)); have HM : Hid (TRow w2 a3 T) := hnr; clear hnr; have hq : Below w.heap.size w w2 := (by with_reducible (first | exact bl_via HB.out hb | exact bl_via (bl_alloc (bl_refl _)) hb)); have HB : Hid (Below w.heap.size w w2) := hq; have zs0 : w.heap.size < w2.heap.size := World.block_lt_of_cell? _ _ s0; clear hb hq)
    | (go_at_call 10; refine (HMAY.out _ (by with_reducible (first | exact HB.out | exact bl_alloc (bl_refl _)))).mono ?_; rintro e w2 ⟨rfl, hb⟩; have s0 : w2.cell? ⟨w.heap.size, 0, none⟩ = some (.int .i64 (Wn : Int)) := cl_kept hb (by first | (with_reducible assumption) | (simp [go_sem]; done)); have s1 : w2.cell? ⟨w.heap.size, 1, none⟩ = some (.int .i64 (Hn : Int)) := cl_kept hb (by first | (with_reducible assumption) | (simp [go_sem]; done)); have s2 : w2.cell? ⟨w.heap.size, 2, none⟩ = some (.slice (some ⟨b, off, none⟩) zs.length ca) := cl_kept hb (by first | (with_reducible assumption) | (simp [go_sem]; done)); have s3 : w2.cell? ⟨w.heap.size, 3, none⟩ = some (.slice c n cc) := cl_kept hb (by first | (with_reducible assumption) | (simp [go_sem]; done)); have HM := HM.out.keptH hb; have hq : Below w.heap.size w w2 := (by with_reducible (first | exact bl_via HB.out hb | exact bl_via (bl_alloc (bl_refl _)) hb)); have HB : Hid (Below w.heap.size w w2) := hq; have zs0 : w.heap.size < w2.heap.size := World.block_lt_of_cell? _ _ s0; clear hb hq)
    | (go_at_call 18; refine (CRT.out _ HB.out).mono ?_; rintro e w2 ⟨a4, c4, rfl, hnr, hb⟩; have s0 : w2.cell? ⟨w.heap.size, 0, none⟩ = some (.int .i64 (Wn : Int)) := cl_kept hb (by first | (with_reducible assumption) | (simp [go_sem]; done)); have s1 : w2.cell? ⟨w.heap.size, 1, none⟩ = some (.int .i64 (Hn : Int)) := cl_kept hb (by first | (with_reducible assumption) | (simp [go_sem]; done)); have s2 : w2.cell? ⟨w.heap.size, 2, none⟩ = some (.slice (some ⟨b, off, none⟩) zs.length ca) := cl_kept hb (by first | (with_reducible assumption) | (simp [go_sem]; done)); have s3 : w2.cell? ⟨w.heap.size, 3, none⟩ = some (.slice c n cc) := cl_kept hb (by first | (with_reducible assumption) | (simp [go_sem]; done)); have HM := HM.out.keptH hb; have HM2 : Hid (TRow w2 a4 T) := hnr; clear hnr; have hq : Below w.heap.size w w2 := (by with_reducible (first | exact bl_via HB.out hb | exact bl_via (bl_alloc (bl_refl _)) hb)); have HB : Hid (Below w.heap.size w w2) := hq; have zs0 : w.heap.size < w2.heap.size := World.block_lt_of_cell? _ _ s0; clear hb hq))
  clear s0 s1 s2 s3 zs0
  go_loopg [6] T.length (fun gk s6 wx => ∃ i : Nat, i ≤ T.length ∧ gk = T.length - i ∧ s6 = .int .i64 (i : Int) ∧ TRow wx a3 T ∧ TRow wx a4 T ∧ Below w.heap.size w wx)
  case atStart => exact ⟨0, by omega, rfl, rfl, HM.out, HM2.out, HB.out⟩
  case round =>
    obtain ⟨i, hi, rfl, rfl, hr1, hr2, hbw⟩ := hrel
    have HR : Hid (TRow wr a3 T ∧ TRow wr a4 T ∧ Below w.heap.size w wr) := ⟨hr1, hr2, hbw⟩
    clear hr1 hr2 hbw
    by_cases hi1 : i < T.length
    · have i1 : (i : Int) < (T.length : Int) := by omega
      have i0 : (0 : Int) ≤ (i : Int) := by omega
      obtain ⟨g1, ea3, y0, y1, y2⟩ := HR.out.1 i hi1
      obtain ⟨g2, ea4, x0, x1, x2⟩ := HR.out.2.1 i hi1
      subst ea3
      subst ea4
      have z1 : g1 < wr.heap.size := World.block_lt_of_cell? _ _ y0
      have z2 : g2 < wr.heap.size := World.block_lt_of_cell? _ _ x0
      obtain ⟨px, hpx⟩ : ∃ q, q = T[i].1 := ⟨_, rfl⟩
      obtain ⟨py, hpy⟩ : ∃ q, q = T[i].2.1 := ⟨_, rfl⟩
      obtain ⟨pk, hpk⟩ : ∃ q, q = T[i].2.2 := ⟨_, rfl⟩
      rw [← hpx] at y0 x0
      rw [← hpy] at y1 x1
      rw [← hpk] at y2 x2
      clear hpx hpy hpk
      have hne := neqT_same px py pk
      have kc := Kin.cells wr
      have kn : Nonempty (Kin wr) := ⟨⟨wr, bl_refl _⟩⟩
      go_wp2
      refine wp_region_kin (by kernel_rfl) (by kernel_rfl) ?_
      repeat (go_big_quiet_step (fail))
      refine wpQuiet_nil ?_
      intro wq hw'
      obtain ⟨nq, hw''⟩ := hw'
      have hq : Below wr.heap.size wr wq := hw'' ▸ nq.h
      have HQ : Hid (TRow wq (some ⟨g1, 0, none⟩) T ∧ TRow wq (some ⟨g2, 0, none⟩) T ∧ Below w.heap.size w wq) := ⟨HR.out.1.kept hq, HR.out.2.1.kept hq, bl_via HR.out.2.2 hq⟩
      clear hw'' nq hq kc kn z1 z2 y0 x0 y1 x1 y2 x2
      go_wp2
      go_roundg (T.length - (i + 1))
      case measure => omega
      case rel => exact ⟨i + 1, by omega, rfl, by go_num, HQ.out.1, HQ.out.2.1, HQ.out.2.2⟩
    · have i1 : ¬ (i : Int) < (T.length : Int) := by omega
      go_wp2
      go_ret
      exact ⟨rfl, HR.out.2.2⟩

theorem flatTroubles_any (W H : Int) (a c : Option Addr) (ca cc n : Nat) (zs ks : List Int) (w : World) (hz : Row w a zs) (hk : Row w c ks) (hn : ks.length = n * 5) (h1 : zs.length ≤ 17592186044416) (h2 : n ≤ 3518437208883) (hs : Steps w) :
    Calls Tryd.prog 5 #[.agg #[.int .i64 W, .int .i64 H, .slice a zs.length ca, .slice c n cc]] w fun e w' => e = .returned (.bool true) ∧ Below w.heap.size w w' := by
  rcases sheet_either W H a c ca cc n zs ks w hz hk hn h2 hs with ⟨q1, q2⟩ | ⟨Wn, Hn, b, off, rfl, rfl, rfl, hW, hH, hl, hm, hJ, hC, hMay⟩
  · exact flatTroubles_no W H a c ca cc n zs ks w hz hk hn h1 h2 q1 q2
  · exact flatTroubles_yes Wn Hn b off ca n cc c zs ks w hz hW hH hl hm hk hn h2 hs hJ hC hMay
end Go.Proofs.YtoedcefbmbfnhabDoor
