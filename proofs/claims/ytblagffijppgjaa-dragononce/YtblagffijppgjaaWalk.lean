/- walked. -/
import Derived.Test.YtblagffijppgjaaStep
import Derived.Deep.RegionLaw
namespace Go.Proofs.Ytblagffijppgjaa
open Go.RowKit

/-- The way along a word. -/
def pthL (ws : List Int) : List (Int × Int) := (List.range (ws.length + 2)).map (pw ws)
theorem pthL_len (ws : List Int) : (pthL ws).length = ws.length + 2 := by simp [pthL]
theorem pthL_at {ws : List Int} {i : Nat} (h : i < ws.length + 2) : pt (pthL ws) i = pw ws i := by
  rw [pt_lt (by rw [pthL_len]; exact h)]
  simp [pthL]
theorem made_pt (n : Nat) : (madeCells (Value.agg #[.int .i64 0, .int .i64 0]).cells ((n + 1) * 2))[0]? = some (.int .i64 0) ∧ (madeCells (Value.agg #[.int .i64 0, .int .i64 0]).cells ((n + 1) * 2))[1]? = some (.int .i64 0) := by
  constructor
  · simp [madeCells, Value.cells]
  · simp [madeCells, Value.cells]
    refine ⟨1, ?_, rfl⟩
    rw [Array.getElem?_eq_getElem (by simp; omega)]
    simp
theorem five (w : World) (o1 o2 o3 o4 o5 : Obj) : (((((w.alloc o1).alloc o2).alloc o3).alloc o4).alloc o5).drew.heap[w.heap.size]? = some o1 ∧ (((((w.alloc o1).alloc o2).alloc o3).alloc o4).alloc o5).drew.heap[w.heap.size + 1]? = some o2 ∧ (((((w.alloc o1).alloc o2).alloc o3).alloc o4).alloc o5).drew.heap[w.heap.size + 1 + 1]? = some o3 ∧
    (((((w.alloc o1).alloc o2).alloc o3).alloc o4).alloc o5).drew.heap[w.heap.size + 1 + 1 + 1]? = some o4 ∧ (((((w.alloc o1).alloc o2).alloc o3).alloc o4).alloc o5).drew.heap[w.heap.size + 1 + 1 + 1 + 1]? = some o5 := by
  have e : (((((w.alloc o1).alloc o2).alloc o3).alloc o4).alloc o5).drew.heap = ((((w.heap.push o1).push o2).push o3).push o4).push o5 := rfl
  rw [e]
  refine ⟨?_, ?_, ?_, ?_, ?_⟩ <;> simp only [Array.getElem?_push, Array.size_push] <;> (repeat (first | rw [if_pos trivial] | rw [if_neg (by omega)] | rw [if_pos (by omega)]))
theorem cl_of {V : World} {b o : Nat} {cs : Array Value} {e : TypeId} {v : Value} (h : V.heap[b]? = some (.cells cs e (0, 0))) (hv : cs[o]? = some v) : Cl V b o v := by
  refine ⟨?_, ?_⟩
  · simp [World.cell?, h, hv]
  · simp [World.frozen?, h]
theorem wk_begin {w V : World} {b3 g n : Nat} {CC : Array Value} (hb : Below w.heap.size w V) (h1 : V.heap[w.heap.size]? = some (.cells #[.int .i64 0, .int .i64 0] 34 (0, 0))) (h2 : V.heap[w.heap.size + 1]? = some (.cells #[.int .i64 1, .int .i64 0] 34 (0, 0)))
    (h3 : V.heap[b3]? = some (.cells #[.slice (some ⟨g, 0, none⟩) 1 n] 27 (0, 0))) (h4 : V.heap[g]? = some (.cells ((CC.setIfInBounds 0 (.int .i64 0)).setIfInBounds 1 (.int .i64 0)) 34 (0, 0))) (hs : CC.size = n * 2) (hn : 1 ≤ n) (hm : n ≤ maxLen)
    (d1 : w.heap.size + 1 < b3) (d2 : w.heap.size + 1 < g) (d3 : g ≠ b3) : Wk w V w.heap.size (w.heap.size + 1) b3 (0, 0) (1, 0) (.slice (some ⟨g, 0, none⟩) 1 n) [(0, 0)] := by
  refine ⟨⟨cl_of h1 rfl, cl_of h1 rfl⟩, ⟨cl_of h2 rfl, cl_of h2 rfl⟩, cl_of h3 rfl, ⟨rfl, Or.inr ⟨g, n, _, rfl, by omega, h4, hn, hm, by simpa using hs, ?_⟩⟩, ⟨by omega, by omega, by omega⟩, ?_, ⟨by omega, by omega, by omega⟩, hb⟩
  · have h2 : 2 ≤ CC.toList.length := by rw [Array.length_toList]; omega
    rw [Array.toList_setIfInBounds, Array.toList_setIfInBounds]
    match CC.toList, h2 with
    | x :: y :: r, _ => rfl
  · simp [Value.ownBlock]
    omega
set_option maxRecDepth 100000 in
set_option maxHeartbeats 4000000 in
theorem walked20 (v : Value) (ws : List Int) (w : World) (hv : Sg w v ws) (hl : ws.length ≤ 1023) :
    Calls Try.prog 20 #[v] w fun e w' => ∃ u, e = .returned u ∧ PR w' u (pthL ws) ∧ Below w.heap.size w w' := by
  obtain ⟨a, c, rfl, hR⟩ := hv
  have HR : Hid (∀ i, i < ws.length → ∃ g off, a = some ⟨g, off, none⟩ ∧ w.cell? ⟨g, off + i, none⟩ = some (.int .i64 (gt ws i))) := hR
  clear hR
  obtain ⟨i34, hI⟩ := info_parts inf34
  obtain ⟨CC, hCC⟩ : ∃ CC : Array Value, CC = madeCells (Value.agg #[.int .i64 0, .int .i64 0]).cells ((ws.length + 2) * 2) := ⟨_, rfl⟩
  have HC : Hid (CC.size = (ws.length + 2) * 2) := by
    have : CC.size = (ws.length + 2) * 2 := by rw [hCC]; exact size_madeCells _ _
    exact this
  have k0 : CC[0]? = some (.int .i64 0) := by rw [hCC]; exact (made_pt (ws.length + 1)).1
  have k1 : CC[1]? = some (.int .i64 0) := by rw [hCC]; exact (made_pt (ws.length + 1)).2
  have mk : ∀ W : World, (Instr.makeSlice 27 (.int .i64 0) (.int .i64 (IntKind.i64.wrap ((ws.length : Int) + 2)))).run Try.prog W = .ok (.slice (some ⟨W.heap.size, 0, none⟩) 0 (ws.length + 2)) (W.alloc (.cells CC 34)) := fun W => by
    have hr := run_make (P := Try.prog) W 27 34 i34 _ Try.underlying27 hI.1 hI.2.1 .i64 .i64 0 ((ws.length : Int) + 2) (by omega) (by omega) (by rw [hI.2.2.2]; omega) (by omega)
    rw [hI.2.2.1] at hr
    rw [show IntKind.i64.wrap ((ws.length : Int) + 2) = (ws.length : Int) + 2 from by rw [IntKind.wrap_i64]; omega, hr, hCC]
    rfl
  clear hI hCC
  go_enter Try.func20, Try.ntmps20
  go_wp2
  go_cut [5] (fun s5 wx => ∃ b3 s, s5 = .pointer (some ⟨b3, 0, none⟩) ∧ Wk w wx w.heap.size (w.heap.size + 1) b3 (0, 0) (1, 0) s [(0, 0)])
  case first =>
    go_region_held3 (fun w' => w'.cell? ⟨w.heap.size, 0, none⟩ = some (.int .i64 0) ∧ w'.cell? ⟨w.heap.size, 1, none⟩ = some (.int .i64 0)) ((simp [go_sem]; done)) (fail)
    all_goals
      go_wp2_with fail
      go_meet
      exact ⟨_, _, rfl, wk_begin (by with_reducible repeat (first | exact bl_refl _ | refine bl_drew ?_ | refine bl_alloc ?_)) (five w _ _ _ _ _).1 (five w _ _ _ _ _).2.1 (by first | exact (five w _ _ _ _ _).2.2.1 | exact (five w _ _ _ _ _).2.2.2.1 | exact (five w _ _ _ _ _).2.2.2.2) (by first | exact (five w _ _ _ _ _).2.2.1 | exact (five w _ _ _ _ _).2.2.2.1 | exact (five w _ _ _ _ _).2.2.2.2) HC.out (by omega) (by unfold maxLen; omega) (by omega) (by omega) (by omega)⟩
  case rest =>
    clear mk k0 k1 HC
    obtain ⟨b3, s0, rfl, hk⟩ := hcut
    have HK : Hid (Wk w wc w.heap.size (w.heap.size + 1) b3 (0, 0) (1, 0) s0 [(0, 0)]) := hk
    clear hk
    go_wp2_with (go_at_call 28; refine (step28 w wc w.heap.size (w.heap.size + 1) b3 0 0 1 0 s0 [(0, 0)] HK.out (by omega) (by omega) (by simp)).mono ?_; rintro e w1 ⟨⟨v1, rfl⟩, s1, hk1⟩; have H1 : Hid (Wk w w1 w.heap.size (w.heap.size + 1) b3 (0 + 1, 0 + 0) (1, 0) s1 ([(0, 0)] ++ [(0 + 1, 0 + 0)])) := hk1; clear hk1)
    go_loopg [23] ws.length (fun gk s23 wx => ∃ i : Nat, i ≤ ws.length ∧ gk = ws.length - i ∧ s23 = .int .i64 (i : Int) ∧ ∃ s, Wk w wx w.heap.size (w.heap.size + 1) b3 (pw ws (i + 1)) (dw ws i) s ((List.range (i + 2)).map (pw ws)))
    case atStart => exact ⟨0, by omega, rfl, rfl, s1, H1.out⟩
    case round =>
      obtain ⟨i, hi, rfl, rfl, s, hkk⟩ := hrel
      have HW : Hid (Wk w wr w.heap.size (w.heap.size + 1) b3 (pw ws (i + 1)) (dw ws i) s ((List.range (i + 2)).map (pw ws))) := hkk
      clear hkk
      by_cases h1 : i < ws.length
      · have i1 : (i : Int) < (ws.length : Int) := by omega
        have i0 : (0 : Int) ≤ (i : Int) := by omega
        obtain ⟨g, off, rfl, c0⟩ := HR.out i h1
        replace c0 := (HW.out.2.2.2.2.2.2.2.cell (World.block_lt_of_cell? _ _ c0)).trans c0
        have zg : g < wr.heap.size := World.block_lt_of_cell? _ _ c0
        obtain ⟨vi, hvi⟩ : ∃ v, v = gt ws i := ⟨_, rfl⟩
        rw [← hvi] at c0
        obtain ⟨⟨x, y⟩, hp⟩ : ∃ p, p = pw ws (i + 1) := ⟨_, rfl⟩
        obtain ⟨⟨dx, dy⟩, hd⟩ : ∃ p, p = dw ws i := ⟨_, rfl⟩
        have hsm := pw_small ws (i + 1)
        have hD := isD_dw ws i
        rw [← hp] at hsm
        rw [← hd] at hD
        have HN : Hid (dw ws (i + 1) = tn (dx, dy) vi ∧ pw ws (i + 2) = (x + (tn (dx, dy) vi).1, y + (tn (dx, dy) vi).2)) := by
          have e1 : dw ws (i + 1) = tn (dx, dy) vi := by rw [dw, ← hd, hvi]
          refine ⟨e1, ?_⟩
          rw [pw, e1, ← hp]
        have HW2 : Hid (Wk w wr w.heap.size (w.heap.size + 1) b3 (x, y) (dx, dy) s ((List.range (i + 2)).map (pw ws))) := by
          have := HW.out
          rw [← hp, ← hd] at this
          exact this
        have HDD : Hid (isD (dx, dy) ∧ isD (tn (dx, dy) vi)) := ⟨hD, isD_tn hD vi⟩
        have HSM : Hid (-2000 ≤ x ∧ x ≤ 2000 ∧ -2000 ≤ y ∧ y ≤ 2000) := by
          have : -2000 ≤ x ∧ x ≤ 2000 ∧ -2000 ≤ y ∧ y ≤ 2000 := by simp only at hsm; omega
          exact this
        obtain ⟨⟨tx, ty⟩, ht⟩ : ∃ p, p = tn (dx, dy) vi := ⟨_, rfl⟩
        have C29 : Hid (∀ W : World, Calls Try.prog 29 #[.agg #[.int .i64 dx, .int .i64 dy], .int .i64 vi] W fun e w' => e = .returned (.agg #[.int .i64 tx, .int .i64 ty]) ∧ Below W.heap.size W w') := fun W => by
          have := turned29 dx dy vi HDD.out.1 W
          rw [← ht] at this
          exact this
        rw [← ht] at HN HDD
        have c1 := HW2.out.2.1.1.1
        have c2 := HW2.out.2.1.2.1
        have z1 : w.heap.size + 1 < wr.heap.size := World.block_lt_of_cell? _ _ c1
        clear hp hd hsm hD hvi ht HW
        go_wp2_with (first
          | (go_at_call 29; refine (C29.out _).mono ?_; rintro e w2 ⟨rfl, hb2⟩; have H2 : Hid (Wk w w2 w.heap.size (w.heap.size + 1) b3 (x, y) (dx, dy) s ((List.range (i + 2)).map (pw ws))) := HW2.out.kept hb2; have d1 := H2.out.2.1.1.1; have f1 := H2.out.2.1.1.2; have d2 := H2.out.2.1.2.1; have f2 := H2.out.2.1.2.2; have z2 : w.heap.size + 1 < w2.heap.size := World.block_lt_of_cell? _ _ d1; clear hb2)
          | (go_at_call 28; refine (step28 w _ w.heap.size (w.heap.size + 1) b3 x y tx ty s ((List.range (i + 2)).map (pw ws)) (H2.out.way (tx, ty)) HSM.out (isD_small HDD.out.2) (by simp; omega)).mono ?_; rintro e w3 ⟨⟨v3, rfl⟩, s3, hk3⟩; have H3 : Hid (Wk w w3 w.heap.size (w.heap.size + 1) b3 (x + tx, y + ty) (tx, ty) s3 ((List.range (i + 2)).map (pw ws) ++ [(x + tx, y + ty)])) := hk3; clear hk3))
        go_roundg (ws.length - (i + 1))
        case measure => omega
        case rel =>
          refine ⟨i + 1, by omega, rfl, by go_num, s3, ?_⟩
          have h := H3.out
          rw [HN.out.2, HN.out.1, List.range_succ, List.map_append, List.map_singleton, HN.out.2]
          exact h
      · have i1 : ¬ (i : Int) < (ws.length : Int) := by omega
        obtain rfl : i = ws.length := by omega
        have c5 := HW.out.2.2.1.1
        have z5 : b3 < wr.heap.size := World.block_lt_of_cell? _ _ c5
        have HF : Hid (PR wr s (pthL ws) ∧ Below w.heap.size w wr) := by
          have h := HW.out.2.2.2.1
          exact ⟨pr_of h, HW.out.2.2.2.2.2.2.2⟩
        clear HW
        go_wp2
        go_ret
        exact ⟨_, rfl, HF.out.1, HF.out.2⟩
end Go.Proofs.Ytblagffijppgjaa
