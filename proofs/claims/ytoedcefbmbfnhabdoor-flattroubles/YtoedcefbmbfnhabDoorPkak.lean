import Derived.Test.YtoedcefbmbfnhabDoorPkai
import Derived.Test.YtoedcefbmbfnhabDoorPkaj
import Derived.Shelf.Bits.Mul64
import Derived.Test.YtoedcefbmbfnhabDoorProg
import Derived.Test.YtoedcefbmbfnhabDoorPkab
import Derived.Laws.CopyOwn
import Derived.Deep.RegionHeld3
/- A triangle's joints: the edges, and which triangles lie beyond them. -/
namespace Go.Proofs.YtoedcefbmbfnhabDoor
open Go.RowKit Go.ChangeMaps

/-- The joints at one edge, of those that have it. -/
def jE (i : Nat) (e : Int × Int × Int × Int) (G : List Int) : List ((Int × Int × Int × Int) × Int) := (G.filter fun j => decide (j ≠ (i : Int))).map fun j => (e, j)
theorem jE_yes {i : Nat} {e : Int × Int × Int × Int} {G : List Int} {m : Nat} (hm : m < G.length) (h : G[m] ≠ (i : Int)) : jE i e (G.take (m + 1)) = jE i e (G.take m) ++ [(e, G[m])] := by
  unfold jE
  rw [List.take_succ_eq_append_getElem hm, List.filter_append, List.map_append]
  simp [h]
theorem jE_no {i : Nat} {e : Int × Int × Int × Int} {G : List Int} {m : Nat} (hm : m < G.length) (h : G[m] = (i : Int)) : jE i e (G.take (m + 1)) = jE i e (G.take m) := by
  unfold jE
  rw [List.take_succ_eq_append_getElem hm, List.filter_append, List.map_append]
  simp [h]
theorem jE_len (i : Nat) (e : Int × Int × Int × Int) (G : List Int) : (jE i e G).length ≤ G.length := by
  unfold jE
  rw [List.length_map]
  exact List.length_filter_le _ _
/-- The joints of triangle i at its first n edges. -/
def jl (L : List (Int × Int × Int)) (t : Int × Int × Int) (i n : Nat) : List ((Int × Int × Int × Int) × Int) := (List.range n).flatMap fun k => jE i (edg t k) (gix L (edg t k))
theorem jl_zero (L : List (Int × Int × Int)) (t : Int × Int × Int) (i : Nat) : jl L t i 0 = [] := by simp [jl]
theorem jl_succ (L : List (Int × Int × Int)) (t : Int × Int × Int) (i n : Nat) : jl L t i (n + 1) = jl L t i n ++ jE i (edg t n) (gix L (edg t n)) := by simp [jl, List.range_succ, List.flatMap_append]
theorem jl_len (L : List (Int × Int × Int)) (t : Int × Int × Int) (i n : Nat) : (jl L t i n).length ≤ n * L.length := by
  induction n with
  | zero => simp [jl]
  | succ n ih =>
    rw [jl_succ, List.length_append, Nat.succ_mul]
    have := jE_len i (edg t n) (gix L (edg t n))
    have := gix_len L (edg t n)
    omega
theorem jl_mem {L : List (Int × Int × Int)} {t : Int × Int × Int} {i n : Nat} {e : Int × Int × Int × Int} {j : Int} : (e, j) ∈ jl L t i n ↔ ∃ k, k < n ∧ e = edg t k ∧ ∃ m : Nat, ∃ h : m < L.length, j = (m : Int) ∧ m ≠ i ∧ hasT L[m] e = true := by
  simp only [jl, jE, List.mem_flatMap, List.mem_range, List.mem_map, List.mem_filter, decide_eq_true_eq, gix_mem]
  constructor
  · rintro ⟨k, hk, a, ⟨⟨m, hm, rfl, ht⟩, hne⟩, he⟩
    simp only [Prod.mk.injEq] at he
    obtain ⟨rfl, rfl⟩ := he
    exact ⟨k, hk, rfl, m, hm, rfl, by omega, ht⟩
  · rintro ⟨k, hk, rfl, m, hm, rfl, hne, ht⟩
    exact ⟨k, hk, (m : Int), ⟨⟨m, hm, rfl, ht⟩, by omega⟩, rfl⟩

/-- Joints, number by number. -/
def flatJ (l : List ((Int × Int × Int × Int) × Int)) : List Value := l.flatMap fun t => [.int .i64 t.1.1, .int .i64 t.1.2.1, .int .i64 t.1.2.2.1, .int .i64 t.1.2.2.2, .int .i64 t.2]
theorem flatJ_add (l m : List ((Int × Int × Int × Int) × Int)) : flatJ (l ++ m) = flatJ l ++ flatJ m := by simp [flatJ, List.flatMap_append]
theorem flatJ_at : ∀ (l : List ((Int × Int × Int × Int) × Int)) (i : Nat) (h : i < l.length), (flatJ l)[i * 5]? = some (.int .i64 l[i].1.1) ∧ (flatJ l)[i * 5 + 1]? = some (.int .i64 l[i].1.2.1) ∧ (flatJ l)[i * 5 + 2]? = some (.int .i64 l[i].1.2.2.1) ∧ (flatJ l)[i * 5 + 3]? = some (.int .i64 l[i].1.2.2.2) ∧ (flatJ l)[i * 5 + 4]? = some (.int .i64 l[i].2)
  | [], i, h => by simp at h
  | t :: l, 0, h => by simp [flatJ]
  | t :: l, i + 1, h => by
    have ih := flatJ_at l i (by simpa using h)
    have e : flatJ (t :: l) = [Value.int .i64 t.1.1, .int .i64 t.1.2.1, .int .i64 t.1.2.2.1, .int .i64 t.1.2.2.2, .int .i64 t.2] ++ flatJ l := by simp [flatJ]
    have q : ∀ o, (flatJ (t :: l))[(i + 1) * 5 + o]? = (flatJ l)[i * 5 + o]? := fun o => by
      rw [e, List.getElem?_append_right (by simp; omega)]
      congr 1
      simp
      omega
    have q0 := q 0
    simp only [Nat.add_zero] at q0
    simp only [List.getElem_cons_succ]
    rw [q0, q 1, q 2, q 3, q 4]
    exact ih
/-- Joints in a row of memory, as a slice has them. -/
def JRow (w : World) (a : Option Addr) (l : List ((Int × Int × Int × Int) × Int)) : Prop := ∀ i (h : i < l.length), ∃ g, a = some ⟨g, 0, none⟩ ∧ w.cell? ⟨g, i * 5, none⟩ = some (.int .i64 l[i].1.1) ∧ w.cell? ⟨g, i * 5 + 1, none⟩ = some (.int .i64 l[i].1.2.1) ∧ w.cell? ⟨g, i * 5 + 2, none⟩ = some (.int .i64 l[i].1.2.2.1) ∧ w.cell? ⟨g, i * 5 + 3, none⟩ = some (.int .i64 l[i].1.2.2.2) ∧ w.cell? ⟨g, i * 5 + 4, none⟩ = some (.int .i64 l[i].2)
theorem JRow.kept {w w' : World} {a : Option Addr} {l : List ((Int × Int × Int × Int) × Int)} (h : JRow w a l) (hb : Below w.heap.size w w') : JRow w' a l := fun i hi => by
  obtain ⟨g, e, h0, h1, h2, h3, h4⟩ := h i hi
  exact ⟨g, e, cl_kept hb h0, cl_kept hb h1, cl_kept hb h2, cl_kept hb h3, cl_kept hb h4⟩
theorem own_joints {w : World} {base : Nat} {v : Value} {l : List ((Int × Int × Int × Int) × Int)} (h : w.ownsRow base 125 5 v l.length (flatJ l)) : ∃ a cap, v = .slice a l.length cap ∧ JRow w a l := by
  rcases h.2 with ⟨rfl, h0⟩ | ⟨g, cap, cur, rfl, _⟩
  · exact ⟨none, 0, by rw [h0], fun i hi => by omega⟩
  · refine ⟨some ⟨g, 0, none⟩, cap, rfl, fun i hi => ⟨g, rfl, ?_⟩⟩
    have f := flatJ_at l i hi
    exact ⟨(h.cellAt _ (by omega)).trans f.1, (h.cellAt _ (by omega)).trans f.2.1, (h.cellAt _ (by omega)).trans f.2.2.1, (h.cellAt _ (by omega)).trans f.2.2.2.1, (h.cellAt _ (by omega)).trans f.2.2.2.2⟩

/-- Joints in a row of memory that is their own. -/
def JW (w : World) (base : Nat) (a : Option Addr) (l : List ((Int × Int × Int × Int) × Int)) : Prop := JRow w a l ∧ ∀ g, a = some ⟨g, 0, none⟩ → base ≤ g ∧ ∃ cur, w.heap[g]? = some (.cells cur 125)
theorem own_jw {w : World} {base : Nat} {v : Value} {l : List ((Int × Int × Int × Int) × Int)} (h : w.ownsRow base 125 5 v l.length (flatJ l)) : ∃ a cap, v = .slice a l.length cap ∧ JW w base a l := by
  obtain ⟨a, cap, e, hr⟩ := own_joints h
  refine ⟨a, cap, e, hr, fun g hg => ?_⟩
  subst e hg
  rcases h.2 with ⟨e1, _⟩ | ⟨b, cap', cur, e1, hb, hc, _⟩
  · simp at e1
  · simp only [Value.slice.injEq, Option.some.injEq, Addr.mk.injEq] at e1
    obtain ⟨⟨rfl, _⟩, _⟩ := e1
    exact ⟨hb, cur, hc⟩
theorem JW.grown {w w' : World} {base : Nat} {a : Option Addr} {l : List ((Int × Int × Int × Int) × Int)} {row : Option Nat} (h : JW w base a l) (hg : w.grownBy w' row) (hne : ∀ g, row = some g → a ≠ some ⟨g, 0, none⟩) : JW w' base a l := by
  refine ⟨fun i hi => ?_, fun g he => ?_⟩
  · obtain ⟨g, e, h0, h1, h2, h3, h4⟩ := h.1 i hi
    have hn : some g ≠ row := fun e1 => hne g e1.symm e
    exact ⟨g, e, hg.cell h0 hn, hg.cell h1 hn, hg.cell h2 hn, hg.cell h3 hn, hg.cell h4 hn⟩
  · obtain ⟨h1, cur, h2⟩ := h.2 g he
    exact ⟨h1, cur, (hg.block g (Array.getElem?_eq_some_iff.1 h2).1 (fun e1 => hne g e1.symm he)).trans h2⟩
theorem JW.kept {w w' : World} {base : Nat} {a : Option Addr} {l : List ((Int × Int × Int × Int) × Int)} (h : JW w base a l) (hb : Below w.heap.size w w') : JW w' base a l := h.grown (bl_grown hb) (by simp)
theorem JW.mono {w : World} {base base' : Nat} {a : Option Addr} {l : List ((Int × Int × Int × Int) × Int)} (h : JW w base a l) (hb : base' ≤ base) : JW w base' a l := ⟨h.1, fun g he => ⟨Nat.le_trans hb (h.2 g he).1, (h.2 g he).2⟩⟩
theorem JW.not_row {w : World} {base b2 n : Nat} {a : Option Addr} {l : List ((Int × Int × Int × Int) × Int)} {v : Value} {xs : List Value} (h : JW w base a l) (ho : w.ownsRow b2 3 1 v n xs) : ∀ g, v.ownBlock = some g → a ≠ some ⟨g, 0, none⟩ := fun g hg ha => by
  obtain ⟨_, cur, h2⟩ := h.2 g ha
  rcases ho.2 with ⟨rfl, _⟩ | ⟨b, cap, cur', rfl, _, hgb, _⟩
  · simp [Value.ownBlock] at hg
  · obtain rfl : b = g := by simpa [Value.ownBlock] using hg
    rw [h2] at hgb
    simp at hgb

/-- An edge's box. -/
def EB (w : World) (B : Nat) (p q r s : Int) : Prop := w.heap[B]? = some (.cells #[.int .i64 p, .int .i64 q, .int .i64 r, .int .i64 s] 71)
theorem EB.cells {w : World} {B : Nat} {p q r s : Int} (h : EB w B p q r s) : w.cell? ⟨B, 0, none⟩ = some (.int .i64 p) ∧ w.cell? ⟨B, 1, none⟩ = some (.int .i64 q) ∧ w.cell? ⟨B, 2, none⟩ = some (.int .i64 r) ∧ w.cell? ⟨B, 3, none⟩ = some (.int .i64 s) := by
  unfold EB at h
  simp [World.cell?, h]
theorem EB.lt {w : World} {B : Nat} {p q r s : Int} (h : EB w B p q r s) : B < w.heap.size := (Array.getElem?_eq_some_iff.1 h).1
theorem EB.grown {w w' : World} {B : Nat} {p q r s : Int} {row : Option Nat} (h : EB w B p q r s) (hg : w.grownBy w' row) (hne : some B ≠ row) : EB w' B p q r s := (hg.block B h.lt hne).trans h
theorem EB.kept {w w' : World} {B : Nat} {p q r s : Int} (h : EB w B p q r s) (hb : Below w.heap.size w w') : EB w' B p q r s := h.grown (bl_grown hb) (by simp)
theorem EB.not_row {w : World} {B base n : Nat} {p q r s : Int} {v : Value} {xs : List Value} (h : EB w B p q r s) (ho : w.ownsRow base 125 5 v n xs) : some B ≠ v.ownBlock := by
  rcases ho.2 with ⟨rfl, _⟩ | ⟨g, cap, cur, rfl, _, hgb, _⟩
  · simp [Value.ownBlock]
  · intro e
    obtain rfl : B = g := by simpa [Value.ownBlock] using e
    unfold EB at h
    rw [h] at hgb
    simp at hgb
/-- A paper's box. -/
def PB (w : World) (B : Nat) (ad : Option Addr) (n cc ra rk : Nat) : Prop := w.cell? ⟨B, 0, none⟩ = some (.slice ad n cc) ∧ w.cell? ⟨B, 1, none⟩ = some (.map (some ra)) ∧ w.cell? ⟨B, 2, none⟩ = some (.map (some rk))
theorem PB.kept {w w' : World} {B n cc ra rk : Nat} {ad : Option Addr} (h : PB w B ad n cc ra rk) (hb : Below w.heap.size w w') : PB w' B ad n cc ra rk := ⟨cl_kept hb h.1, cl_kept hb h.2.1, cl_kept hb h.2.2⟩
/-- What Joints keeps in memory. -/
def JM (w wx : World) (ad : Option Addr) (n cc ra rk : Nat) (J : List ((Int × Int × Int × Int) × Int)) (v : Value) : Prop :=
  wx.ownsRow (w.heap.size + 1) 125 5 v J.length (flatJ J) ∧ Below w.heap.size w wx ∧ PB wx w.heap.size ad n cc ra rk ∧ w.heap.size + 1 ≤ wx.heap.size
theorem JM.kept {w wx w' : World} {ad : Option Addr} {n cc ra rk : Nat} {J : List ((Int × Int × Int × Int) × Int)} {v : Value} (h : JM w wx ad n cc ra rk J v) (hb : Below wx.heap.size wx w') : JM w w' ad n cc ra rk J v :=
  ⟨own_below h.1 hb, bl_via h.2.1 hb, h.2.2.1.kept hb, Nat.le_trans h.2.2.2 hb.size⟩
theorem JM.more {w wx w2 w3 : World} {ad : Option Addr} {n cc ra rk : Nat} {J : List ((Int × Int × Int × Int) × Int)} {v v' : Value} {e : Int × Int × Int × Int} {j : Int} (h : JM w wx ad n cc ra rk J v) (hb : Below wx.heap.size wx w2) (hg : w2.grownBy w3 v.ownBlock) (hown : w3.ownsRow (w.heap.size + 1) 125 5 v' (J.length + 1) (flatJ J ++ [.int .i64 e.1, .int .i64 e.2.1, .int .i64 e.2.2.1, .int .i64 e.2.2.2, .int .i64 j])) : JM w w3 ad n cc ra rk (J ++ [(e, j)]) v' := by
  have h' := h.kept hb
  have hgb := Below.grown (Below.refl (w.heap.size + 1) w2) hg h'.2.2.2 (own_base h'.1)
  have q := hgb.size
  refine ⟨?_, h'.2.1.trans (hgb.mono (by omega)), ⟨?_, ?_, ?_⟩, by have := h'.2.2.2; omega⟩
  · rw [flatJ_add, List.length_append]
    simpa [flatJ] using hown
  · exact (hgb.cell (p := ⟨w.heap.size, 0, none⟩) (by dsimp only; omega)).trans h'.2.2.1.1
  · exact (hgb.cell (p := ⟨w.heap.size, 1, none⟩) (by dsimp only; omega)).trans h'.2.2.1.2.1
  · exact (hgb.cell (p := ⟨w.heap.size, 2, none⟩) (by dsimp only; omega)).trans h'.2.2.1.2.2
theorem infJ : (Tryd.prog.info? 125).map (fun i => (i.zero, i.size, i.bytes)) = some (some (.agg #[.int .i64 0, .int .i64 0, .int .i64 0, .int .i64 0, .int .i64 0]), 5, 40) := by kernel_rfl
theorem cell_five_new (w : World) (T : TypeId) (a b c d e : Int) : ∀ j u, ([Value.int .i64 a, .int .i64 b, .int .i64 c, .int .i64 d, .int .i64 e])[j]? = some u → (w.alloc (.cells #[.int .i64 a, .int .i64 b, .int .i64 c, .int .i64 d, .int .i64 e] T)).cell? ((⟨w.heap.size, 0, none⟩ : Addr).add j) = some u := by
  intro j u hu
  match j, hu with
  | 0, hu => simp at hu; subst hu; simp [go_sem, Addr.add]
  | 1, hu => simp at hu; subst hu; simp [go_sem, Addr.add]
  | 2, hu => simp at hu; subst hu; simp [go_sem, Addr.add]
  | 3, hu => simp at hu; subst hu; simp [go_sem, Addr.add]
  | 4, hu => simp at hu; subst hu; simp [go_sem, Addr.add]

set_option maxRecDepth 100000 in
set_option maxHeartbeats 6400000 in
theorem joints_any (w : World) (cc ra rk i : Nat) (ad : Option Addr) (L : List (Int × Int × Int)) (x y k : Int) (hs : Steps w) (hPA : PA w ad ra L) (hi : i < L.length) (ht : (x, y, k) = L[i]) (hL : L.length ≤ 300) (hbd : (0 ≤ x ∧ x ≤ 8) ∧ (0 ≤ y ∧ y ≤ 8) ∧ (0 ≤ k ∧ k ≤ 3)) :
    Calls Tryd.prog 66 #[.agg #[.slice ad L.length cc, .map (some ra), .map (some rk)], .int .i64 (i : Int)] w fun e w' => ∃ v, e = .returned v ∧ w'.ownsRow (w.heap.size + 1) 125 5 v (jl L (x, y, k) i 3).length (flatJ (jl L (x, y, k) i 3)) ∧ Below w.heap.size w w' := by
  have HST : Hid (Steps w) := hs
  have HPA : Hid (PA w ad ra L) := hPA
  obtain ⟨i5, hi5, hz0, hz1, hz2⟩ := info_parts infJ
  have HI : Hid (Tryd.prog.info? 125 = some i5 ∧ i5.zero = some (.agg #[.int .i64 0, .int .i64 0, .int .i64 0, .int .i64 0, .int .i64 0]) ∧ i5.size = 5 ∧ i5.bytes = 40) := ⟨hi5, hz0, hz1, hz2⟩
  obtain ⟨tg, rfl, t0, t1, t2⟩ := hPA.1 i hi
  rw [← ht] at t0 t1 t2
  dsimp only at t0 t1 t2
  have zt : tg < w.heap.size := World.block_lt_of_cell? _ _ t0
  have htri : triB x y k = true := by simp [triB]; omega
  have HTRI : Hid (triB x y k = true) := htri
  have j1 : (i : Int) < (L.length : Int) := by omega
  have j0 : (0 : Int) ≤ (i : Int) := by omega
  clear hs hPA hi5 hz0 hz1 hz2 htri hbd ht
  go_enter Tryd.func66, Tryd.ntmps66
  go_wp2_with (go_at_call 87; refine (paperEdges_any _ _ _ _ HTRI.out (HST.out.kept (by with_reducible exact bl_alloc (bl_refl _)))).mono ?_; rintro e wq ⟨rfl, hb⟩; have hJ0 : JM w wq (some ⟨tg, 0, none⟩) L.length cc ra rk [] (.slice none 0 0) := ⟨by simpa [flatJ] using World.ownsRow_nil _ _ _ _, bl_via (bl_alloc (bl_refl _)) hb, PB.kept (by simp [PB, go_sem]) hb, by have := hb.size; simp at this; omega⟩; have HQ : Hid (JM w wq (some ⟨tg, 0, none⟩) L.length cc ra rk [] (.slice none 0 0)) := hJ0; clear hb hJ0 t0 t1 t2 zt)
  go_loopg [5, 16] 3 (fun gk s5 s16 wx => ∃ e : Nat, e ≤ 3 ∧ gk = 3 - e ∧ s16 = .int .i64 (e : Int) ∧ JM w wx (some ⟨tg, 0, none⟩) L.length cc ra rk (jl L (x, y, k) i e) s5)
  case atStart => exact ⟨0, by omega, rfl, rfl, by rw [jl_zero]; exact HQ.out⟩
  case round =>
    clear HQ
    obtain ⟨e, he, rfl, rfl, hM⟩ := hrel
    obtain ⟨vA, hvA⟩ : ∃ u, u = u5 := ⟨_, rfl⟩
    subst hvA
    have HM : Hid (JM w wr (some ⟨tg, 0, none⟩) L.length cc ra rk (jl L (x, y, k) i e) vA) := hM
    obtain ⟨p0, p1, p2⟩ := hM.2.2.1
    have zp : w.heap.size < wr.heap.size := World.block_lt_of_cell? _ _ p0
    have zp1 : w.heap.size < wr.heap.size + 1 := by omega
    clear hM
    by_cases he1 : e < 3
    · have ie : (e : Int) < 3 := by omega
      obtain ⟨q0, q1, q2, q3, hq⟩ : ∃ q0 q1 q2 q3, edg (x, y, k) e = (q0, q1, q2, q3) := ⟨_, _, _, _, rfl⟩
      have hx : (Instr.index 145 (.agg #[.int .i64 (ue0 x y k), .int .i64 (ue1 x y k), .int .i64 (ue2 x y k), .int .i64 (ue3 x y k), .int .i64 (ue4 x y k), .int .i64 (ue5 x y k), .int .i64 (ue6 x y k), .int .i64 (ue7 x y k), .int .i64 (ue8 x y k), .int .i64 (ue9 x y k), .int .i64 (ue10 x y k), .int .i64 (ue11 x y k)]) (.int .i64 (e : Int))).run Tryd.prog wr = .ok (.agg #[.int .i64 q0, .int .i64 q1, .int .i64 q2, .int .i64 q3]) wr := by
        obtain ⟨a0, a1, a2⟩ := idx32 (ue0 x y k) (ue1 x y k) (ue2 x y k) (ue3 x y k) (ue4 x y k) (ue5 x y k) (ue6 x y k) (ue7 x y k) (ue8 x y k) (ue9 x y k) (ue10 x y k) (ue11 x y k) wr
        have h3 : e = 0 ∨ e = 1 ∨ e = 2 := by omega
        rcases h3 with rfl | rfl | rfl
        · simp only [edg, if_true, Prod.mk.injEq] at hq
          obtain ⟨rfl, rfl, rfl, rfl⟩ := hq
          exact a0
        · simp only [edg, if_true, if_false, Nat.one_ne_zero, Prod.mk.injEq] at hq
          obtain ⟨rfl, rfl, rfl, rfl⟩ := hq
          exact a1
        · simp only [edg, if_false, show ¬ (2 : Nat) = 0 by omega, show ¬ (2 : Nat) = 1 by omega, Prod.mk.injEq] at hq
          obtain ⟨rfl, rfl, rfl, rfl⟩ := hq
          exact a2
      have HQ : Hid (edg (x, y, k) e = (q0, q1, q2, q3)) := hq
      clear hq
      obtain ⟨ga, gc, hgr, hlook⟩ := HPA.out.2 (q0, q1, q2, q3)
      have HGR : Hid (Row w ga (gix L (q0, q1, q2, q3))) := hgr
      have HEB : Hid (EB (wr.alloc (.cells #[.int .i64 q0, .int .i64 q1, .int .i64 q2, .int .i64 q3] 71)) wr.heap.size q0 q1 q2 q3) := by
        have : EB (wr.alloc (.cells #[.int .i64 q0, .int .i64 q1, .int .i64 q2, .int .i64 q3] 71)) wr.heap.size q0 q1 q2 q3 := heap_alloc_new wr _
        exact this
      have lk5 : (Instr.lookup 60 (.map (some ra)) (.agg #[.int .i64 q0, .int .i64 q1, .int .i64 q2, .int .i64 q3]) false).run Tryd.prog (wr.alloc (.cells #[.int .i64 q0, .int .i64 q1, .int .i64 q2, .int .i64 q3] 71)) = .ok (.slice ga (gix L (q0, q1, q2, q3)).length gc) (wr.alloc (.cells #[.int .i64 q0, .int .i64 q1, .int .i64 q2, .int .i64 q3] 71)) := hlook _ (bl_alloc HM.out.2.1)
      have HM2 : Hid (JM w (wr.alloc (.cells #[.int .i64 q0, .int .i64 q1, .int .i64 q2, .int .i64 q3] 71)) (some ⟨tg, 0, none⟩) L.length cc ra rk (jl L (x, y, k) i e) vA) := HM.out.kept (bl_alloc (bl_refl _))
      obtain ⟨eb, heb⟩ : ∃ b, b = wr.heap.size := ⟨_, rfl⟩
      clear hgr hlook
      go_wp2
      obtain ⟨G, hG⟩ : ∃ G, G = gix L (q0, q1, q2, q3) := ⟨_, rfl⟩
      have HG : Hid (G = gix L (q0, q1, q2, q3)) := hG
      rw [← hG] at HGR
      have hGl : G.length ≤ 300 := by rw [hG]; exact Nat.le_trans (gix_len _ _) hL
      rw [← hG]
      rw [← heb] at HEB ⊢
      clear hG lk5 hx heb
      go_loopg [5, 24] G.length (fun gk s5 s24 wx => ∃ m : Nat, m ≤ G.length ∧ gk = G.length - m ∧ s24 = .int .i64 (m : Int) ∧ JM w wx (some ⟨tg, 0, none⟩) L.length cc ra rk (jl L (x, y, k) i e ++ jE i (q0, q1, q2, q3) (G.take m)) s5 ∧ EB wx eb q0 q1 q2 q3)
      case atStart => exact ⟨0, by omega, rfl, rfl, by simpa [jE] using HM2.out, HEB.out⟩
      case round =>
        clear HM HM2 HEB p0 p1 p2 zp zp1
        obtain ⟨m, hm, rfl, rfl, hM, hE⟩ := hrel
        obtain ⟨vB, hvB⟩ : ∃ u, u = u5 := ⟨_, rfl⟩
        subst hvB
        have HM : Hid (JM w wr (some ⟨tg, 0, none⟩) L.length cc ra rk (jl L (x, y, k) i e ++ jE i (q0, q1, q2, q3) (G.take m)) vB) := hM
        have HE : Hid (EB wr eb q0 q1 q2 q3) := hE
        obtain ⟨d0, d1, d2, d3⟩ := hE.cells
        have zd : eb < wr.heap.size := hE.lt
        clear hM hE
        by_cases hm1 : m < G.length
        · have im : (m : Int) < (G.length : Int) := by omega
          have im0 : (0 : Int) ≤ (m : Int) := by omega
          obtain ⟨gb, go, rfl, gcell⟩ := (HGR.out.kept HM.out.2.1) m hm1
          have zgb : gb < wr.heap.size := World.block_lt_of_cell? _ _ gcell
          obtain ⟨j, hj⟩ : ∃ j, j = G[m] := ⟨_, rfl⟩
          rw [← hj] at gcell
          have HJ : Hid (j = G[m]) := hj
          clear hj
          by_cases hne : j = (i : Int)
          · subst hne
            go_wp2
            go_roundg (G.length - (m + 1))
            case measure => omega
            case rel => exact ⟨m + 1, by omega, rfl, by go_num, by rw [jE_no hm1 HJ.out.symm]; exact HM.out, HE.out⟩
          · have hlen : (jl L (x, y, k) i e ++ jE i (q0, q1, q2, q3) (G.take m)).length + 1 ≤ 2000 := by
              have a1 := jl_len L (x, y, k) i e
              have a2 := jE_len i (q0, q1, q2, q3) (G.take m)
              have a3 : e * L.length ≤ 3 * 300 := Nat.mul_le_mul he hL
              rw [List.length_append]
              simp only [List.length_take] at a2
              omega
            go_wp2_with (at_builtin; refine wpList_append_own _ rfl (.tmp 31) (.tmp 35) 122 rfl (w.heap.size + 1) 125 i5 (.agg #[.int .i64 0, .int .i64 0, .int .i64 0, .int .i64 0, .int .i64 0]) 5 40 Tryd.underlying122 HI.out.1 HI.out.2.1 HI.out.2.2.1 HI.out.2.2.2 rfl (by decide) vB (jl L (x, y, k) i e ++ jE i (q0, q1, q2, q3) (G.take m)).length (flatJ (jl L (x, y, k) i e ++ jE i (q0, q1, q2, q3) (G.take m))) rfl ?own ⟨wr.heap.size, 0, none⟩ 1 1 [.int .i64 q0, .int .i64 q1, .int .i64 q2, .int .i64 q3, .int .i64 j] rfl rfl ?c1 ?c2 ?b1 ?b2 ?b3 ?grow)
            case own => exact own_below HM.out.1 (bl_alloc (bl_refl _))
            case c1 => exact cell_five_new _ _ _ _ _ _ _
            case c2 =>
              intro u hu
              simp at hu
              rcases hu with rfl | rfl | rfl | rfl | rfl <;> rfl
            case b1 =>
              unfold maxLen
              omega
            case b2 => omega
            case b3 =>
              have := HM.out.2.2.2
              simp
              omega
            case grow =>
              intro v' w3 hown hgrow hnil
              rw [← List.length_append] at hown
              have HM3 : Hid (JM w w3 (some ⟨tg, 0, none⟩) L.length cc ra rk (jl L (x, y, k) i e ++ jE i (q0, q1, q2, q3) (G.take (m + 1))) v') := by
                have h1 := HM.out.more (e := (q0, q1, q2, q3)) (j := j) (bl_alloc (bl_refl _)) hgrow hown
                rw [jE_yes hm1 (by rw [← HJ.out]; exact hne), ← HJ.out, ← List.append_assoc]
                exact h1
              have HE3 : Hid (EB w3 eb q0 q1 q2 q3) := by
                have h1 : EB w3 eb q0 q1 q2 q3 := (HE.out.kept (bl_alloc (bl_refl _))).grown hgrow (HE.out.not_row HM.out.1)
                exact h1
              clear hown hgrow hnil
              go_wp2
              go_roundg (G.length - (m + 1))
              case measure => omega
              case rel => exact ⟨m + 1, by omega, rfl, by go_num, HM3.out, HE3.out⟩
        · have im : ¬ (m : Int) < (G.length : Int) := by omega
          obtain rfl : m = G.length := by omega
          go_wp2
          go_roundg (3 - (e + 1))
          case measure => omega
          case rel =>
            refine ⟨e + 1, by omega, rfl, by go_num, ?_⟩
            have h1 := HM.out
            rw [List.take_length, HG.out] at h1
            rw [jl_succ, HQ.out]
            exact h1
    · have ie : ¬ (e : Int) < 3 := by omega
      obtain rfl : e = 3 := by omega
      go_wp2
      go_ret
      exact ⟨vA, rfl, HM.out.1, HM.out.2.1⟩
end Go.Proofs.YtoedcefbmbfnhabDoor

/- The number of a part is spread over all that belong to it. -/
namespace Go.Proofs.YtoedcefbmbfnhabDoor
open Go.RowKit Go.ChangeMaps

/-- A list of places as numbers in memory. -/
def rowN (R : List Nat) : List Value := R.map fun (i : Nat) => Value.int .i64 (i : Int)
/-- What the search keeps in memory: the labels, the list of what was found, the paper's box. -/
def SpM (wE wx w : World) (g : Nat) (ad : Option Addr) (cc ra rk : Nat) (L : List (Int × Int × Int)) (part : Nat → Int) (num : Int) (R : List Nat) (v : Value) : Prop :=
  ZRow wx g L.length (lab part num R) ∧ wx.ownsRow (w.heap.size + 1) 3 1 v R.length (rowN R) ∧ Below wE.heap.size wE wx ∧ (wx.cell? ⟨w.heap.size, 0, none⟩ = some (.slice ad L.length cc) ∧ wx.cell? ⟨w.heap.size, 1, none⟩ = some (.map (some ra)) ∧ wx.cell? ⟨w.heap.size, 2, none⟩ = some (.map (some rk))) ∧ w.heap.size + 1 ≤ wx.heap.size
theorem SpM.kept {wE wx w w' : World} {g cc ra rk : Nat} {ad : Option Addr} {L : List (Int × Int × Int)} {part : Nat → Int} {num : Int} {R : List Nat} {v : Value} (h : SpM wE wx w g ad cc ra rk L part num R v) (hb : Below wx.heap.size wx w') : SpM wE w' w g ad cc ra rk L part num R v :=
  ⟨h.1.kept hb, own_below h.2.1 hb, bl_via h.2.2.1 hb, ⟨cl_kept hb h.2.2.2.1.1, cl_kept hb h.2.2.2.1.2.1, cl_kept hb h.2.2.2.1.2.2⟩, Nat.le_trans h.2.2.2.2 hb.size⟩
theorem rowN_at (R : List Nat) (i : Nat) (h : i < R.length) : (rowN R)[i]? = some (.int .i64 ((R[i] : Nat) : Int)) := by simp [rowN, h]
theorem SpM.slice {wE wx w : World} {g cc ra rk : Nat} {ad : Option Addr} {L : List (Int × Int × Int)} {part : Nat → Int} {num : Int} {R : List Nat} {v : Value} (h : SpM wE wx w g ad cc ra rk L part num R v) (hn : 0 < R.length) : ∃ b cap, v = .slice (some ⟨b, 0, none⟩) R.length cap ∧ w.heap.size + 1 ≤ b ∧ ∀ i (hi : i < R.length), wx.cell? ⟨b, i, none⟩ = some (.int .i64 ((R[i] : Nat) : Int)) := by
  rcases h.2.1.2 with ⟨_, h0⟩ | ⟨b, cap, cur, hv, h2, h3⟩
  · omega
  · refine ⟨b, cap, hv, h2, fun i hi => ?_⟩
    subst hv
    have := h.2.1.cellAt i (by omega)
    rw [this, rowN_at R i hi]

/-- A label is written, and its place put on the list. -/
theorem SpM.more {wE wx w w2 w3 : World} {g cc ra rk j : Nat} {ad : Option Addr} {L : List (Int × Int × Int)} {part : Nat → Int} {num : Int} {R : List Nat} {v v' : Value} (h : SpM wE wx w g ad cc ra rk L part num R v) (hgw : g < w.heap.size) (hgE : wE.heap.size ≤ g) (hj : j < L.length)
    (hb : Below (wx.setCell ⟨g, j, none⟩ (.int .i64 num)).heap.size (wx.setCell ⟨g, j, none⟩ (.int .i64 num)) w2) (hg : w2.grownBy w3 v.ownBlock) (hown : w3.ownsRow (w.heap.size + 1) 3 1 v' (R.length + 1) (rowN R ++ [.int .i64 (j : Int)])) :
    SpM wE w3 w g ad cc ra rk L part num (R ++ [j]) v' := by
  obtain ⟨h1, h2, h3, ⟨p0, p1, p2⟩, h5⟩ := h
  have hrow : ∀ k, v.ownBlock = some k → w.heap.size + 1 ≤ k := fun k hk => (h2.lt k hk).1
  have hgv : some g ≠ v.ownBlock := fun e => by
    have := hrow g e.symm
    omega
  have hbv : some w.heap.size ≠ v.ownBlock := fun e => by
    have := hrow _ e.symm
    omega
  have z1 := ((h1.set num hj).kept hb).grown hg hgv
  have q : ∀ {o : Nat} {u : Value}, wx.cell? ⟨w.heap.size, o, none⟩ = some u → w3.cell? ⟨w.heap.size, o, none⟩ = some u := fun {o u} hu => by
    refine hg.cell (cl_kept hb ?_) hbv
    rw [World.cell?_setCell_other _ _ _ _ (by simp <;> omega)]
    exact hu
  refine ⟨?_, ?_, ?_, ⟨q p0, q p1, q p2⟩, ?_⟩
  · rw [lab_found]
    exact z1
  · rw [List.length_append, List.length_singleton]
    have : rowN (R ++ [j]) = rowN R ++ [.int .i64 (j : Int)] := by simp [rowN]
    rw [this]
    exact hown
  · have k1 : Below wE.heap.size wE (wx.setCell ⟨g, j, none⟩ (.int .i64 num)) := h3.setCell hgE _
    have k2 := k1.trans (hb.mono k1.size)
    have := h3.size
    exact k2.grown hg k2.size (fun k hk => by
      have := hrow k hk
      have := World.block_lt_of_cell? _ _ p0
      omega)
  · have q1 := hb.size
    have q2 := hg.size
    rw [World.size_setCell] at q1
    omega

theorem owns_one (w : World) (base : Nat) (v : Value) (h : base ≤ w.heap.size) : (w.alloc (.cells #[v] 3)).ownsRow base 3 1 (.slice (some ⟨w.heap.size, 0, none⟩) 1 1) 1 [v] :=
  ⟨by simp, .inr ⟨w.heap.size, 1, #[v], rfl, h, heap_alloc_new w _, Nat.le_refl _, by unfold maxLen; omega, by simp, by simp⟩⟩
/-- All joints of a triangle that may be crossed have been looked at. -/
theorem DoneT.joints {cr : Int × Int × Int × Int → Bool} {L : List (Int × Int × Int)} {part : Nat → Int} {R : List Nat} {t : Int × Int × Int} {i : Nat} (hi : i ∈ R) (h : ∀ m (hm : m < (jl L t i 3).length), ∀ j : Nat, (jl L t i 3)[m].2 = (j : Int) → cr (jl L t i 3)[m].1 = true → j ∈ R ∨ 0 ≤ part j) : DoneT cr L part R t 3 := fun k hk hc j hj ht => by
  by_cases e : j = i
  · subst e
    exact Or.inl hi
  · have hm : (edg t k, (j : Int)) ∈ jl L t i 3 := jl_mem.2 ⟨k, hk, rfl, j, hj, rfl, e, ht⟩
    obtain ⟨m, hm, e1⟩ := List.getElem_of_mem hm
    exact h m hm j (by rw [e1]) (by rw [e1]; exact hc)

set_option maxRecDepth 100000 in
set_option maxHeartbeats 6400000 in
theorem spread_all (wE w : World) (g cc ra rk f : Nat) (ad : Option Addr) (L : List (Int × Int × Int)) (part : Nat → Int) (num : Int) (cr : Int × Int × Int × Int → Bool) (hs : Steps wE) (hPA : PA wE ad ra L) (hB : Below wE.heap.size wE w) (hgE : wE.heap.size ≤ g) (hZ : ZRow w g L.length part) (hf : f < L.length) (hp : part f < 0) (hnum : 0 ≤ num ∧ num ≤ 1000) (hL : L.length ≤ 300) (hnd : L.Nodup) (hbd : ∀ t ∈ L, (0 ≤ t.1 ∧ t.1 ≤ 8) ∧ (0 ≤ t.2.1 ∧ t.2.1 ≤ 8) ∧ (0 ≤ t.2.2 ∧ t.2.2 ≤ 3))
    (hCL : ∀ (q0 q1 q2 q3 : Int) (W' : World), Below wE.heap.size wE W' → Calls Tryd.prog 72 #[.agg #[.int .i64 q0, .int .i64 q1, .int .i64 q2, .int .i64 q3]] W' fun e w' => e = .returned (.bool (cr (q0, q1, q2, q3))) ∧ Below W'.heap.size W' w') :
    Calls Tryd.prog 92 #[.agg #[.slice ad L.length cc, .map (some ra), .map (some rk)], .slice (some ⟨g, 0, none⟩) L.length L.length, .int .i64 (f : Int), .int .i64 num, .func (.func 72) #[] #[]] w fun e w' => e = .returned (.tuple #[]) ∧ ∃ R, Sp cr L part f R ∧ ZRow w' g L.length (lab part num R) ∧ (∀ i ∈ R, ∀ h : i < L.length, DoneT cr L part R L[i] 3) ∧ Below wE.heap.size wE w' := by
  have HCL : Hid (∀ (q0 q1 q2 q3 : Int) (W' : World), Below wE.heap.size wE W' → Calls Tryd.prog 72 #[.agg #[.int .i64 q0, .int .i64 q1, .int .i64 q2, .int .i64 q3]] W' fun e w' => e = .returned (.bool (cr (q0, q1, q2, q3))) ∧ Below W'.heap.size W' w') := hCL
  have HJN : Hid (∀ (W' : World) (i : Nat) (hi : i < L.length), Below wE.heap.size wE W' → Calls Tryd.prog 66 #[.agg #[.slice ad L.length cc, .map (some ra), .map (some rk)], .int .i64 (i : Int)] W' fun e w' => ∃ v, e = .returned v ∧ w'.ownsRow (W'.heap.size + 1) 125 5 v (jl L L[i] i 3).length (flatJ (jl L L[i] i 3)) ∧ Below W'.heap.size W' w') := fun W' i hi hW' => joints_any W' cc ra rk i ad L L[i].1 L[i].2.1 L[i].2.2 (hs.kept hW') (hPA.kept hW') hi rfl hL (hbd _ (List.getElem_mem hi))
  have HND : Hid (L.Nodup) := hnd
  obtain ⟨z0, zf⟩ := hZ f hf
  have hgw : g < w.heap.size := World.block_lt_of_cell? _ _ z0
  have HZ : Hid (ZRow w g L.length part ∧ Below wE.heap.size wE w) := ⟨hZ, hB⟩
  have HS0 : Hid (Sp cr L part f [f]) := ⟨by simp, by simp, fun i hi => by
    simp at hi
    subst hi
    exact ⟨hf, hp, hf, .here (List.getElem_mem hf)⟩⟩
  obtain ⟨i3, hi3, hz30, hz31, hz32⟩ := info_parts inf3
  have HI : Hid (Tryd.prog.info? 3 = some i3 ∧ i3.zero = some (.int .i64 0) ∧ i3.size = 1 ∧ i3.bytes = 8) := ⟨hi3, hz30, hz31, hz32⟩
  obtain ⟨n0, n1⟩ := hnum
  have if1 : (f : Int) < (L.length : Int) := by omega
  have if0 : (0 : Int) ≤ (f : Int) := by omega
  clear hs hPA hbd hnd hZ hB hi3 hz30 hz31 hz32 hp hCL
  go_enter Tryd.func92, Tryd.ntmps92
  go_wp2
  go_loopg [10, 11] L.length (fun gk s10 s11 wx => ∃ (n : Nat) (R : List Nat), n ≤ R.length ∧ L.length - n ≤ gk ∧ s11 = .int .i64 (n : Int) ∧ Sp cr L part f R ∧ (∀ m (hm : m < R.length), m < n → ∀ h : R[m] < L.length, DoneT cr L part R L[R[m]] 3) ∧ SpM wE wx w g ad cc ra rk L part num R s10)
  case atStart =>
    refine ⟨0, [f], by simp, by omega, rfl, HS0.out, fun m _ h => by omega, ?_⟩
    refine ⟨?_, ?_, ?_, ⟨?_, ?_, ?_⟩, ?_⟩
    · have hz := (HZ.out.1.set num hf).kept (bl_alloc (o := .cells #[.int .i64 (f : Int)] 3) (bl_alloc (o := .cells #[.slice ad L.length cc, .map (some ra), .map (some rk)] 63) (bl_refl _)))
      have e : lab part num [f] = fun j => if j = f then num else part j := by
        funext j
        simp [lab]
      rw [e]
      exact hz
    · have := owns_one ((w.setCell ⟨g, f, none⟩ (.int .i64 num)).alloc (.cells #[.slice ad L.length cc, .map (some ra), .map (some rk)] 63)) (w.heap.size + 1) (.int .i64 (f : Int)) (by simp)
      simpa [rowN] using this
    · have hb0 : Below wE.heap.size wE (w.setCell ⟨g, f, none⟩ (.int .i64 num)) := HZ.out.2.setCell (p := ⟨g, f, none⟩) hgE _
      exact bl_alloc (bl_alloc hb0)
    · simp [go_sem]
    · simp [go_sem]
    · simp [go_sem]
    · simp
  case round =>
    clear HS0 HZ z0 zf
    obtain ⟨n, R, hn, hgk, rfl, hSp, hD, hM⟩ := hrel
    obtain ⟨vA, hvA⟩ : ∃ u, u = u10 := ⟨_, rfl⟩
    subst hvA
    have hRp : 0 < R.length := List.length_pos_of_mem hSp.1
    obtain ⟨rb, rc, rfl, hrb, hrc⟩ := hM.slice hRp
    have hRL := hSp.len
    have HSP : Hid (Sp cr L part f R ∧ ∀ m (hm : m < R.length), m < n → ∀ h : R[m] < L.length, DoneT cr L part R L[R[m]] 3) := ⟨hSp, hD⟩
    have HM : Hid (SpM wE wr w g ad cc ra rk L part num R (.slice (some ⟨rb, 0, none⟩) R.length rc)) := hM
    obtain ⟨p0, p1, p2⟩ := hM.2.2.2.1
    have zp : w.heap.size < wr.heap.size := World.block_lt_of_cell? _ _ p0
    by_cases h1 : n < R.length
    · have rcn := hrc n h1
      have zr : rb < wr.heap.size := World.block_lt_of_cell? _ _ rcn
      have hRn : R[n] ∈ R := List.getElem_mem h1
      obtain ⟨hi, _⟩ := hSp.2.2 R[n] hRn
      obtain ⟨i, hie⟩ : ∃ i, i = R[n] := ⟨_, rfl⟩
      rw [← hie] at rcn hi
      have HIE : Hid (i = R[n]) := hie
      have HIR : Hid (i ∈ R) := by rw [hie]; exact hRn
      clear hSp hD hM hrc hie hRn
      have i1 : (n : Int) < (R.length : Int) := by omega
      have i0 : (0 : Int) ≤ (n : Int) := by omega
      obtain ⟨J, hJ⟩ : ∃ J, J = jl L L[i] i 3 := ⟨_, rfl⟩
      have hJl : J.length ≤ 900 := by
        have := jl_len L L[i] i 3
        rw [hJ]
        omega
      have CJ : Hid (∀ W' : World, Below wr.heap.size wr W' → Calls Tryd.prog 66 #[.agg #[.slice ad L.length cc, .map (some ra), .map (some rk)], .int .i64 (i : Int)] W' fun e w' => ∃ v, e = .returned v ∧ w'.ownsRow (W'.heap.size + 1) 125 5 v J.length (flatJ J) ∧ Below W'.heap.size W' w') := fun W' hW' => by
        rw [hJ]
        exact HJN.out W' i hi (bl_via HM.out.2.2.1 hW')
      have HJ : Hid (J = jl L L[i] i 3) := hJ
      clear hJ
      go_wp2
      go_cut [31, 32, 33] (fun s31 s32 s33 wx => ∃ ja jc, s31 = .slice ja J.length jc ∧ s32 = .int .i64 (J.length : Int) ∧ s33 = .int .i64 0 ∧ JW wx (w.heap.size + 1) ja J ∧ Below wr.heap.size wr wx)
      case first =>
        go_region_held3 (fun w' => w'.cell? ⟨w.heap.size, 0, none⟩ = some (.slice ad L.length cc) ∧ w'.cell? ⟨w.heap.size, 1, none⟩ = some (.map (some ra)) ∧ w'.cell? ⟨w.heap.size, 2, none⟩ = some (.map (some rk)) ∧ w'.cell? ⟨rb, n, none⟩ = some (.int .i64 (i : Int)))
          ((refine ⟨?_, ?_, ?_, ?_⟩ <;> (first | (with_reducible (repeat (first | assumption | refine al_old ?_ | refine dr_old ?_)); done) | (simp [go_sem]; done))))
          ((go_at_call 66; refine (CJ.out _ (by with_reducible repeat (first | exact bl_refl _ | refine bl_drew ?_))).mono ?_; rintro e w8 ⟨v8, rfl, hown, hb⟩; obtain ⟨ja, jc, rfl, hjr⟩ := own_jw hown; have hq8 : Below wr.heap.size wr w8 := bl_via (by with_reducible repeat (first | exact bl_refl _ | refine bl_drew ?_)) hb; have HQ : Hid (JW w8 wr.heap.size ja J ∧ Below wr.heap.size wr w8) := ⟨hjr.mono (by simp), hq8⟩; have p0_8 := cl_kept hq8 p0; have p1_8 := cl_kept hq8 p1; have p2_8 := cl_kept hq8 p2; have rc_8 := cl_kept hq8 rcn; clear hown hjr hb hq8))
        all_goals
          go_wp2
          go_meet
          case rel => exact ⟨_, _, rfl, rfl, rfl, (HQ.out.1.mono (by omega)).kept (by with_reducible repeat (first | exact bl_refl _ | refine bl_drew ?_)), by with_reducible repeat (first | exact HQ.out.2 | refine bl_drew ?_)⟩
      case rest =>
        obtain ⟨ja, jc, rfl, rfl, rfl, hjr, hBc⟩ := hcut
        have HJR : Hid (JW wc (w.heap.size + 1) ja J) := hjr
        have HWC : Hid (Below wc.heap.size wc wc) := bl_refl _
        have HMQ : Hid (SpM wE wc w g ad cc ra rk L part num R (.slice (some ⟨rb, 0, none⟩) R.length rc)) := HM.out.kept hBc
        obtain ⟨WC, hWC⟩ : ∃ W, W = wc := ⟨_, rfl⟩
        rw [← hWC] at HJR HMQ HWC
        clear hjr hBc p0 p1 p2 zp hrb zr rcn CJ HM
        have HWC' : Hid (Below WC.heap.size WC wc ∧ w.heap.size + 1 ≤ WC.heap.size) := ⟨by rw [hWC]; exact bl_refl _, HMQ.out.2.2.2.2⟩
        have HMR : Hid (SpM wE wc w g ad cc ra rk L part num R (.slice (some ⟨rb, 0, none⟩) R.length rc)) := by rw [← hWC]; exact HMQ.out
        clear HWC HMQ hWC
        go_wp2
        go_loopg [10, 33] J.length (fun gk s10 s33 wx => ∃ (m : Nat) (Y : List Nat), m ≤ J.length ∧ gk = J.length - m ∧ s33 = .int .i64 (m : Int) ∧ Sp cr L part f (R ++ Y) ∧ (∀ m' (h : m' < J.length), m' < m → ∀ j : Nat, J[m'].2 = (j : Int) → cr J[m'].1 = true → j ∈ R ++ Y ∨ 0 ≤ part j) ∧ SpM wE wx w g ad cc ra rk L part num (R ++ Y) s10 ∧ JW wx (w.heap.size + 1) ja J)
        case atStart => exact ⟨0, [], by omega, rfl, rfl, by simpa using HSP.out.1, fun m' _ h => by omega, by simpa using HMR.out, HJR.out.kept HWC'.out.1⟩
        case round =>
          clear HMR HWC'
          obtain ⟨m, Y, hm, rfl, rfl, hSp, hE, hM, hjr⟩ := hrel
          obtain ⟨vC, hvC⟩ : ∃ u, u = u10 := ⟨_, rfl⟩
          subst hvC
          have HS3 : Hid (Sp cr L part f (R ++ Y) ∧ (∀ m' (h : m' < J.length), m' < m → ∀ j : Nat, J[m'].2 = (j : Int) → cr J[m'].1 = true → j ∈ R ++ Y ∨ 0 ≤ part j)) := ⟨hSp, hE⟩
          have HM : Hid (SpM wE wr w g ad cc ra rk L part num (R ++ Y) vC) := hM
          have HR : Hid (JW wr (w.heap.size + 1) ja J) := hjr
          clear hSp hE hM hjr
          by_cases hm1 : m < J.length
          · have im : (m : Int) < (J.length : Int) := by omega
            have im0 : (0 : Int) ≤ (m : Int) := by omega
            obtain ⟨jb, rfl, c0, c1, c2, c3, c4⟩ := HR.out.1 m hm1
            have zjb : jb < wr.heap.size := World.block_lt_of_cell? _ _ c0
            obtain ⟨q, hq⟩ : ∃ q, q = J[m] := ⟨_, rfl⟩
            obtain ⟨⟨q0, q1, q2, q3⟩, qj⟩ := q
            rw [← hq] at c0 c1 c2 c3 c4
            dsimp only at c0 c1 c2 c3 c4
            have HQ : Hid (((q0, q1, q2, q3), qj) = J[m]) := hq
            have hmem : ((q0, q1, q2, q3), qj) ∈ jl L L[i] i 3 := by rw [← HJ.out, hq]; exact List.getElem_mem hm1
            obtain ⟨k, hk, hke, j, hj, rfl, hji, hjt⟩ := jl_mem.1 hmem
            have HJ2 : Hid ((q0, q1, q2, q3) = edg L[i] k ∧ hasT L[j] (q0, q1, q2, q3) = true) := ⟨hke, hjt⟩
            obtain ⟨lc, lf⟩ := HM.out.1 j hj
            have zg : g < wr.heap.size := World.block_lt_of_cell? _ _ lc
            have zg1 : g < wr.heap.size + 1 := by omega
            have ij : (j : Int) < (L.length : Int) := by omega
            have ij0 : (0 : Int) ≤ (j : Int) := by omega
            clear hmem hke hjt hq
            by_cases hlt : lab part num (R ++ Y) j < 0
            · have hjR : j ∉ R ++ Y := fun hh => by
                simp only [lab, if_pos hh] at hlt
                omega
              have hpj : part j < 0 := by simpa [lab, hjR] using hlt
              obtain ⟨lv, hlv⟩ : ∃ lv, lv = lab part num (R ++ Y) j := ⟨_, rfl⟩
              rw [← hlv] at lc hlt
              have HLV : Hid (lv = lab part num (R ++ Y) j) := hlv
              clear hlv
              cases hcr : cr (q0, q1, q2, q3)
              · have CC : Hid (∀ W' : World, Below wr.heap.size wr W' → Calls Tryd.prog 72 #[.agg #[.int .i64 q0, .int .i64 q1, .int .i64 q2, .int .i64 q3]] W' fun e w' => e = .returned (.bool false) ∧ Below W'.heap.size W' w') := fun W' hW' => hcr ▸ HCL.out q0 q1 q2 q3 W' (bl_via HM.out.2.2.1 hW')
                go_wp2_with (go_at_call 72; refine (CC.out _ (by with_reducible exact bl_alloc (bl_refl _))).mono ?_; rintro e5 w5 ⟨rfl, hb5⟩; have HM5 : Hid (SpM wE w5 w g ad cc ra rk L part num (R ++ Y) vC ∧ JW w5 (w.heap.size + 1) (some ⟨jb, 0, none⟩) J) := ⟨HM.out.kept (bl_via (bl_alloc (bl_refl _)) hb5), HR.out.kept (bl_via (bl_alloc (bl_refl _)) hb5)⟩; clear hb5)
                go_roundg (J.length - (m + 1))
                case measure => omega
                case rel =>
                  refine ⟨m + 1, Y, by omega, rfl, by go_num, HS3.out.1, fun m' h' hm' j' hj' hc' => ?_, HM5.out.1, HM5.out.2⟩
                  by_cases em : m' = m
                  · subst em
                    rw [← HQ.out] at hc'
                    simp only at hc'
                    rw [hcr] at hc'
                    exact absurd hc' (by simp)
                  · exact HS3.out.2 m' h' (by omega) j' hj' hc'
              · have CC : Hid (∀ W' : World, Below wr.heap.size wr W' → Calls Tryd.prog 72 #[.agg #[.int .i64 q0, .int .i64 q1, .int .i64 q2, .int .i64 q3]] W' fun e w' => e = .returned (.bool true) ∧ Below W'.heap.size W' w') := fun W' hW' => hcr ▸ HCL.out q0 q1 q2 q3 W' (bl_via HM.out.2.2.1 hW')
                have HF : Hid (Sp cr L part f (R ++ (Y ++ [j]))) := by
                  have := HS3.out.1.found HND.out (i := i) (j := j) (List.mem_append_left _ HIR.out) hj hjR hpj (e := (q0, q1, q2, q3)) hcr (fun hi' => by
                    rw [HJ2.out.1]
                    exact edg_own _ _) HJ2.out.2
                  rwa [List.append_assoc] at this
                have hlen : (R ++ Y).length + 1 ≤ 1000 := by
                  have := HS3.out.1.len
                  omega
                go_wp2_with (first
                  | (go_at_call 72; refine (CC.out _ (by with_reducible exact bl_alloc (bl_refl _))).mono ?_; rintro e5 w5 ⟨rfl, hb5⟩; have HM5 : Hid (SpM wE w5 w g ad cc ra rk L part num (R ++ Y) vC ∧ JW w5 (w.heap.size + 1) (some ⟨jb, 0, none⟩) J) := ⟨HM.out.kept (bl_via (bl_alloc (bl_refl _)) hb5), HR.out.kept (bl_via (bl_alloc (bl_refl _)) hb5)⟩; have d4 : w5.cell? ⟨wr.heap.size, 4, none⟩ = some (.int .i64 (j : Int)) := cl_kept hb5 (by simp [go_sem]); have zn : wr.heap.size < w5.heap.size := World.block_lt_of_cell? _ _ d4; have hl5 := HM5.out.1.1 j hj; obtain ⟨lc5, lf5⟩ := hl5; have zg5 : g < w5.heap.size := World.block_lt_of_cell? _ _ lc5; clear hb5)
                  | (at_builtin; refine wpList_append_own _ rfl (.tmp 54) (.tmp 57) 22 rfl (w.heap.size + 1) 3 i3 (.int .i64 0) 1 8 Tryd.underlying22 HI.out.1 HI.out.2.1 HI.out.2.2.1 HI.out.2.2.2 rfl (by decide) vC (R ++ Y).length (rowN (R ++ Y)) rfl ?own ⟨w5.heap.size, 0, none⟩ 1 1 [.int .i64 (j : Int)] rfl rfl ?c1 ?c2 ?b1 ?b2 ?b3 ?grow))
                case own =>
                  try rw [← List.length_append]
                  exact (HM5.out.1.2.1.kept (grown_cell _ g j _) (by
                    cases hu : vC.ownBlock with
                    | none => exact Or.inl rfl
                    | some q =>
                      refine Or.inr (fun e1 => ?_)
                      have := (HM5.out.1.2.1.lt q hu).1
                      simp at e1
                      omega)).alloc _
                case c1 => exact cell_one _ (by simp [go_sem])
                case c2 => exact one_cell _
                case b1 =>
                  unfold maxLen
                  first | omega | (rw [List.length_append] at hlen; omega)
                case b2 => first | omega | (rw [List.length_append] at hlen; omega)
                case b3 =>
                  have := HM5.out.1.2.2.2.2
                  simp
                  omega
                case grow =>
                  intro v' w3 hown hgrow _
                  rw [← List.length_append] at hown
                  have HM3 : Hid (SpM wE w3 w g ad cc ra rk L part num (R ++ (Y ++ [j])) v') := by
                    have := HM5.out.1.more hgw hgE hj (bl_alloc (bl_refl _)) hgrow hown
                    rwa [List.append_assoc] at this
                  have HR3 : Hid (JW w3 (w.heap.size + 1) (some ⟨jb, 0, none⟩) J) := by
                    have h0 := HM5.out.2.grown (grown_cell w5 g j (.int .i64 num)) (fun g' hg' e1 => by
                      have h2 := (HM5.out.2.2 g' e1).1
                      simp at hg'
                      omega)
                    have h1 : JW w3 (w.heap.size + 1) (some ⟨jb, 0, none⟩) J := (h0.kept (bl_alloc (bl_refl _))).grown hgrow (HM5.out.2.not_row HM5.out.1.2.1)
                    exact h1
                  clear hown hgrow
                  go_wp2
                  go_roundg (J.length - (m + 1))
                  case measure => omega
                  case rel =>
                    have hsub : ∀ q ∈ R ++ Y, q ∈ R ++ (Y ++ [j]) := fun q hq => by
                      rw [← List.append_assoc]
                      exact List.mem_append_left _ hq
                    refine ⟨m + 1, Y ++ [j], by omega, rfl, by go_num, HF.out, fun m' h' hm' j' hj' hc' => ?_, HM3.out, HR3.out⟩
                    by_cases em : m' = m
                    · subst em
                      rw [← HQ.out] at hj'
                      simp only at hj'
                      have : j' = j := by omega
                      subst this
                      exact Or.inl (by simp)
                    · exact (HS3.out.2 m' h' (by omega) j' hj' hc').imp (hsub j') id
            · have hdone : Hid (j ∈ R ++ Y ∨ 0 ≤ part j) := by
                by_cases hh : j ∈ R ++ Y
                · exact Or.inl hh
                · exact Or.inr (by simp only [lab, if_neg hh] at hlt; omega)
              obtain ⟨lv, hlv⟩ : ∃ lv, lv = lab part num (R ++ Y) j := ⟨_, rfl⟩
              rw [← hlv] at lc hlt
              clear hlv
              go_wp2
              go_roundg (J.length - (m + 1))
              case measure => omega
              case rel =>
                refine ⟨m + 1, Y, by omega, rfl, by go_num, HS3.out.1, fun m' h' hm' j' hj' hc' => ?_, HM.out.kept (bl_alloc (bl_refl _)), HR.out.kept (bl_alloc (bl_refl _))⟩
                by_cases em : m' = m
                · subst em
                  rw [← HQ.out] at hj'
                  simp only at hj'
                  have : j' = j := by omega
                  subst this
                  exact hdone.out
                · exact HS3.out.2 m' h' (by omega) j' hj' hc'
          · have im : ¬ (m : Int) < (J.length : Int) := by omega
            obtain rfl : m = J.length := by omega
            go_wp2
            go_roundg (L.length - (n + 1))
            case measure => omega
            case rel =>
              have hsub : ∀ q ∈ R, q ∈ R ++ Y := fun q hq => List.mem_append_left _ hq
              refine ⟨n + 1, R ++ Y, by rw [List.length_append]; omega, by omega, by go_num, HS3.out.1, fun m hm hmn hmL => ?_, HM.out⟩
              by_cases em : m = n
              · subst em
                have e1 : (R ++ Y)[m] = i := by rw [List.getElem_append_left h1]; exact HIE.out.symm
                simp only [e1]
                refine DoneT.joints (i := i) (List.mem_append_left _ HIR.out) (fun m' hm' j' hj' hc' => ?_)
                have h8 := HS3.out.2
                rw [HJ.out] at h8
                exact h8 m' hm' hm' j' hj' hc'
              · have hmR : m < R.length := by omega
                have e1 : (R ++ Y)[m] = R[m] := List.getElem_append_left hmR
                have h7 := (HSP.out.2 m hmR (by omega) (by rw [← e1]; exact hmL)).mono hsub
                simp only [e1]
                exact h7
    · have i1 : ¬ (n : Int) < (R.length : Int) := by omega
      clear hM hSp hD hrc
      go_wp2
      go_end0
      refine ⟨rfl, R, HSP.out.1, HM.out.1, fun i hi h => ?_, HM.out.2.2.1⟩
      obtain ⟨m, hm, he⟩ := List.getElem_of_mem hi
      subst he
      exact HSP.out.2 m hm (by omega) h
end Go.Proofs.YtoedcefbmbfnhabDoor

/-
  DERIVED: THE SHELF's CONTRACTS AT THIS DUMP, IN PLAIN WORDS (tools/lay-plain.mjs out of 'TrydShelf.lean', which tools/lay-shelf.mjs wrote): THE SAME DECLARATIONS UNDER THE SAME NAMES: 'import', 'namespace', 'open', 'def', 'theorem' AND NOTHING ELSE: no command of the shelf's: FOR A HAND-IN. Each laying: the table of numbers ('.._ren') and one theorem, a field a fact of the dump's own or the kernel's comparison; each contract: ONE APPLICATION.
-/
namespace Go.Proofs
open Go.Shelf
def Tryd.lays264_ren : Go.Shelf.Ren := ⟨fun | 264 => 132 | n => n, fun | 53 => 167 | 46 => 143 | n => n, fun | n => n⟩
theorem Tryd.lays264 : Go.Proofs.Lays.n264 Tryd.prog Tryd.lays264_ren := {
  mixed := by kernel_rfl
  f264 := Tryd.func132.trans (congrArg some (by kernel_rfl))
  t46 := Tryd.underlying143
  a46 := Tryd.isAgg143
  z46 := Tryd.sizeOf143
  v46 := Tryd.zeroValue143
  t53 := Tryd.underlying167
  a53 := Tryd.isAgg167
  z53 := Tryd.sizeOf167
  v53 := Tryd.zeroValue167 }
open Go.RowKit Go.Lib in
theorem Tryd.bits_Mul64 (x y : Nat) (hx : x < 18446744073709551616) (hy : y < 18446744073709551616) (w : World) :
    Calls Tryd.prog 132 #[.int .u64 x, .int .u64 y] w fun e w' => e = .returned (.tuple #[.int .u64 ((x * y / 18446744073709551616 : Nat) : Int), .int .u64 ((x * y % 18446744073709551616 : Nat) : Int)]) ∧ w' = w := Any.bits_Mul64 Tryd.lays264 x y hx hy w
def Tryd.lays212_ren : Go.Shelf.Ren := ⟨fun | 212 => 118 | 263 => 131 | 264 => 132 | n => n, fun | 46 => 143 | 51 => 165 | 146 => 185 | 53 => 167 | 148 => 187 | n => n, fun | n => n⟩
theorem Tryd.lays212 : Go.Proofs.Lays.n212 Tryd.prog Tryd.lays212_ren := {
  mixed := by kernel_rfl
  f212 := Tryd.func118.trans (congrArg some (by kernel_rfl))
  f263 := Tryd.func131.trans (congrArg some (by kernel_rfl))
  f264 := Tryd.func132.trans (congrArg some (by kernel_rfl))
  t46 := Tryd.underlying143
  a46 := Tryd.isAgg143
  z46 := Tryd.sizeOf143
  v46 := Tryd.zeroValue143
  t51 := Tryd.underlying165
  a51 := Tryd.isAgg165
  z51 := Tryd.sizeOf165
  v51 := Tryd.zeroValue165
  t53 := Tryd.underlying167
  a53 := Tryd.isAgg167
  z53 := Tryd.sizeOf167
  v53 := Tryd.zeroValue167
  t146 := Tryd.underlying185
  a146 := Tryd.isAgg185
  z146 := Tryd.sizeOf185
  v146 := Tryd.zeroValue185
  t148 := Tryd.underlying187
  a148 := Tryd.isAgg187
  z148 := Tryd.sizeOf187
  v148 := Tryd.zeroValue187 }
open Go.RowKit Go.Lib in
/-- math/bits.Mul: "Mul returns the full-width product of x and y": on a machine of 64 bits: Mul64's. (LAID: no walk: one application.) -/
theorem Tryd.bits_Mul (x y : Nat) (hx : x < 18446744073709551616) (hy : y < 18446744073709551616) (w : World) :
    Calls Tryd.prog 118 #[.int .u64 x, .int .u64 y] w fun e w' => e = .returned (.tuple #[.int .u64 ((x * y / 18446744073709551616 : Nat) : Int), .int .u64 ((x * y % 18446744073709551616 : Nat) : Int)]) ∧ w' = w := Any.bits_Mul Tryd.lays212 x y hx hy w
end Go.Proofs

/- slices.Repeat of one number. -/
namespace Go.Proofs.YtoedcefbmbfnhabDoor
open Go.RowKit

theorem mul_one_any (n : Nat) (h : n ≤ 1000000) (w : World) : Calls Tryd.prog 118 #[.int .u64 1, .int .u64 (n : Int)] w fun e w' => e = .returned (.tuple #[.int .u64 0, .int .u64 (n : Int)]) ∧ w' = w := by
  have := Tryd.bits_Mul 1 n (by omega) (by omega) w
  have e1 : 1 * n / 18446744073709551616 = 0 := by omega
  have e2 : 1 * n % 18446744073709551616 = n := by omega
  rw [e1, e2] at this
  exact this

/-- A row whose first m cells hold a number, the others nought. -/
def rp (z : Int) (m n : Nat) : List Value := List.replicate m (.int .i64 z) ++ List.replicate (n - m) (.int .i64 0)
theorem rp_len (z : Int) {m n : Nat} (h : m ≤ n) : (rp z m n).length = n := by simp [rp]; omega
theorem rp_splice (z : Int) {m c n : Nat} (_h : m + c ≤ n) : splice (rp z m n) m (List.replicate c (.int .i64 z)) = rp z (m + c) n := by
  unfold splice rp
  have e1 : List.take m (List.replicate m (Value.int .i64 z) ++ List.replicate (n - m) (Value.int .i64 0)) = List.replicate m (Value.int .i64 z) := by
    rw [List.take_append_of_le_length (by simp)]
    simp
  have e2 : List.drop (m + (List.replicate c (Value.int .i64 z)).length) (List.replicate m (Value.int .i64 z) ++ List.replicate (n - m) (Value.int .i64 0)) = List.replicate (n - (m + c)) (Value.int .i64 0) := by
    rw [List.drop_append, List.drop_eq_nil_of_le (by simp), List.nil_append, List.drop_replicate]
    congr 1
    simp
    omega
  rw [e1, e2, ← List.append_assoc, List.replicate_append_replicate]
theorem rp_cell {w : World} {g n : Nat} {z : Int} {m : Nat} (h : w.heap[g]? = some (.cells (rp z m n).toArray 3 (0, 0))) {c : Nat} (hc : c ≤ m) : ∀ j v, (List.replicate c (Value.int .i64 z))[j]? = some v → w.cell? ((⟨g, 0, none⟩ : Addr).add j) = some v := by
  intro j v hv
  have hj : j < c := by
    rcases Nat.lt_or_ge j c with hj | hj
    · exact hj
    · rw [List.getElem?_eq_none (by simpa using hj)] at hv
      cases hv
  have hv' : v = .int .i64 z := by
    rw [List.getElem?_eq_getElem (by simpa using hj)] at hv
    simpa using hv.symm
  subst hv'
  have ha : (⟨g, 0, none⟩ : Addr).add j = ⟨g, j, none⟩ := by unfold Addr.add; split <;> simp_all
  rw [ha]
  simp [World.cell?, h, rp]
  rw [List.getElem?_append_left (by simp; omega)]
  rw [List.getElem?_replicate, if_pos (by omega)]
theorem rep_one (c : Nat) (z : Int) : ∀ v ∈ List.replicate c (Value.int .i64 z), v.oneCell' = true := by
  intro v hv
  rw [List.eq_of_mem_replicate hv]
  rfl

theorem made_row {w : World} {base g n : Nat} (ho : w.ownsRow base 3 1 (.slice (some ⟨g, 0, none⟩) n n) n (madeCells #[Value.int .i64 0] n).toList) : w.heap[g]? = some (.cells (List.replicate n (Value.int .i64 0)).toArray 3 (0, 0)) := by
  rcases ho.2 with ⟨e, _⟩ | ⟨g', cap, cur, e, h2, h3, h4, h5, h6, h7⟩
  · cases e
  · simp only [Value.slice.injEq, Option.some.injEq, Addr.mk.injEq, and_true, true_and] at e
    obtain ⟨rfl, rfl⟩ := e
    have h8 : cur.toList = List.replicate n (Value.int .i64 0) := by
      rw [Nat.mul_one, List.take_of_length_le (by rw [Array.length_toList]; omega)] at h7
      rw [h7]
      apply List.ext_getElem
      · simp [madeCells]
      · intro i h1 h2
        simp [madeCells, Nat.mod_one]
    rw [h3, ← h8]

set_option maxRecDepth 100000 in
set_option maxHeartbeats 3200000 in
theorem repeat_any (z : Int) (sb n : Nat) (w : World) (hn : n ≤ 1000000) (hc : w.cell? ⟨sb, 0, none⟩ = some (.int .i64 z)) :
    Calls Tryd.prog 91 #[.slice (some ⟨sb, 0, none⟩) 1 1, .int .i64 (n : Int)] w fun e w' => e = .returned (.slice (some ⟨w.heap.size, 0, none⟩) n n) ∧ w'.heap[w.heap.size]? = some (.cells (rp z n n).toArray 3 (0, 0)) ∧ Below w.heap.size w w' := by
  obtain ⟨i3, hi3, hz0, hz1, hz2⟩ := info_parts inf3
  have HI3 : Hid (Tryd.prog.info? 3 = some i3 ∧ i3.zero = some (.int .i64 0) ∧ i3.size = 1 ∧ i3.bytes = 8) := ⟨hi3, hz0, hz1, hz2⟩
  have hsz : (Tryd.prog.info? 3).map (fun i => i.size) = some 1 := by rw [hi3]; simp [hz1]
  have HSZ : Hid ((Tryd.prog.info? 3).map (fun i => i.size) = some 1) := hsz
  clear hi3 hz0 hz1 hz2 hsz
  have n0 : (0 : Int) ≤ (n : Int) := by omega
  have n1 : (n : Int) ≤ 1000000 := by omega
  go_enter Tryd.func91, Tryd.ntmps91
  go_wp2_with (first
    | (go_at_call 118; refine (mul_one_any n hn _).mono ?_; rintro e w' ⟨rfl, hw⟩; have hw2 := hw.symm; clear hw; subst hw2)
    | (at_make; refine wpList_make_full _ rfl (.tmp 29) (.tmp 29) 22 rfl w.heap.size 3 i3 (.int .i64 0) 1 Tryd.underlying22 HI3.out.1 HI3.out.2.1 HI3.out.2.2.1 .i64 .i64 _ _ n rfl rfl rfl rfl ?b2 ?b3 ?b4 ?mk))
  case b2 =>
    rw [HI3.out.2.2.2]
    omega
  case b3 =>
    unfold maxLen
    omega
  case b4 => exact Nat.le_refl _
  case mk =>
    intro w2 ho hg
    have hbel : Below w.heap.size w w2 := (Below.refl _ _).grown hg (Nat.le_refl _) (fun k h => by cases h)
    have hrow : w2.heap[w.heap.size]? = some (.cells (rp z 0 n).toArray 3 (0, 0)) := by simpa [rp] using made_row ho
    clear ho hg
    have HB : Hid (Below w.heap.size w w2 ∧ w2.heap[w.heap.size]? = some (.cells (rp z 0 n).toArray 3 (0, 0))) := ⟨hbel, hrow⟩
    have hc2 : w2.cell? ⟨sb, 0, none⟩ = some (.int .i64 z) := cl_kept hbel hc
    have HC2 : Hid (w2.cell? ⟨sb, 0, none⟩ = some (.int .i64 z)) := hc2
    clear hbel hrow hc hc2
    obtain ⟨c, hcc⟩ : ∃ c, c = Nat.min 1 n := ⟨_, rfl⟩
    have hc1 : c ≤ 1 := by rw [hcc]; exact Nat.min_le_left _ _
    have hcn : c ≤ n := by rw [hcc]; exact Nat.min_le_right _ _
    have hcp : n = 0 ∨ c = 1 := by
      rcases Nat.eq_zero_or_pos n with h | h
      · exact Or.inl h
      · exact Or.inr (by rw [hcc]; exact Nat.min_eq_left h)
    have HPO : Hid (0 < (List.replicate c (Value.int .i64 z)).length → (some (⟨w.heap.size, 0, none⟩ : Addr)) = some ⟨w.heap.size, 0, none⟩ ∧ ∃ ad, (some (⟨sb, 0, none⟩ : Addr)) = some ad ∧ ∀ j v, (List.replicate c (Value.int .i64 z))[j]? = some v → w2.cell? (ad.add j) = some v) := fun _ => ⟨rfl, _, rfl, fun j v hv => by
      have hj : j < c := by
        rcases Nat.lt_or_ge j c with hj | hj
        · exact hj
        · rw [List.getElem?_eq_none (by simpa using hj)] at hv
          cases hv
      obtain rfl : j = 0 := by omega
      rw [List.getElem?_replicate, if_pos hj] at hv
      rw [← hv]
      simpa [Addr.add] using HC2.out⟩
    go_wp2_with (refine wpList_copy_splice (by rfl) (.tmp 31) (.tmp 32) 22 22 (by rfl) 3 Tryd.underlying22 HSZ.out (some ⟨w.heap.size, 0, none⟩) (some ⟨sb, 0, none⟩) n n 1 1 (by rfl) (by rfl) w.heap.size 0 (rp z 0 n) 3 HB.out.2 (List.replicate c (.int .i64 z)) (by rw [List.length_replicate]; exact hcc) HPO.out (by rw [List.length_replicate, rp_len z (Nat.zero_le n)]; omega) (rep_one c z) w.heap.size w HB.out.1 (Nat.le_refl _) ?_; intro w3 HG3 hb3)
    have HG : Hid (w3.heap[w.heap.size]? = some (.cells (rp z c n).toArray 3 (0, 0)) ∧ Below w.heap.size w w3) := by
      have := HG3.out
      rw [rp_splice z (by omega), Nat.zero_add] at this
      exact ⟨this, hb3⟩
    have HCC : Hid (c = Nat.min 1 n) := hcc
    clear HG3 hb3 HB HC2 hcc
    go_loopg [8] n (fun gk s8 wx => ∃ m : Nat, m ≤ n ∧ n - m ≤ gk ∧ s8 = .int .i64 (m : Int) ∧ (n = 0 ∨ 1 ≤ m) ∧ wx.heap[w.heap.size]? = some (.cells (rp z m n).toArray 3 (0, 0)) ∧ Below w.heap.size w wx)
    case atStart => exact ⟨c, hcn, by omega, by rw [HCC.out], hcp.imp id (fun h => by omega), HG.out⟩
    case round =>
      clear hcn hcp hc1 HG
      obtain ⟨m, hm, hgk, rfl, hm1, hr, hB⟩ := hrel
      have HR : Hid (wr.heap[w.heap.size]? = some (.cells (rp z m n).toArray 3 (0, 0)) ∧ Below w.heap.size w wr) := ⟨hr, hB⟩
      clear hr hB
      by_cases h1 : m < n
      · have i1 : (m : Int) < (n : Int) := by omega
        have i0 : (0 : Int) ≤ (m : Int) := by omega
        have i2 : (m : Int) ≤ (n : Int) := by omega
        obtain ⟨k, hk⟩ : ∃ k, k = Nat.min m (n - m) := ⟨_, rfl⟩
        have hk1 : k ≤ m := by rw [hk]; exact Nat.min_le_left _ _
        have hk2 : k ≤ n - m := by rw [hk]; exact Nat.min_le_right _ _
        have hk3 : 1 ≤ k := by rw [hk]; exact Nat.le_min.2 ⟨by omega, by omega⟩
        have hnm : ¬ n = m := by omega
        have HK : Hid (k = Nat.min m (n - m)) := hk
        clear hk
        go_wp2
        go_region_held3 (fun _ => True) (trivial) (((refine step_copy_splice (by rfl) (.tmp 41) (.tmp 44) 22 22 (by rfl) 3 Tryd.underlying22 HSZ.out (some ⟨w.heap.size, m, none⟩) (some ⟨w.heap.size, 0, none⟩) (n - m) (n - m) m n (by rfl) (by rfl) w.heap.size m (rp z m n) 3 HR.out.1 (List.replicate k (.int .i64 z)) (by rw [List.length_replicate]; exact HK.out) (fun _ => ⟨rfl, _, rfl, rp_cell HR.out.1 hk1⟩) (by rw [List.length_replicate, rp_len z hm]; omega) (rep_one k z) w.heap.size w (bl_drew HR.out.2) (Nat.le_refl _) ?_; intro w3 HG3 hb3)))
        all_goals
          go_wp2
          go_roundg (n - (m + k))
          case measure => omega
          case rel =>
            refine ⟨m + k, by omega, by omega, (congrArg _ (by first | omega | (rw [IntKind.wrap_i64]; omega))), Or.inr (by omega), ?_, hb3⟩
            have := HG3.out
            rw [rp_splice z (by omega)] at this
            exact this
      · have i1 : ¬ (m : Int) < (n : Int) := by omega
        obtain rfl : m = n := by omega
        go_wp2
        go_ret
        exact ⟨rfl, HR.out⟩
end Go.Proofs.YtoedcefbmbfnhabDoor

