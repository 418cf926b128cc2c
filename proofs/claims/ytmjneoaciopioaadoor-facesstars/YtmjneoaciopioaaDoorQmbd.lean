/- A part of the proof of a law on sheets. -/
import Derived.Test.YtmjneoaciopioaaDoorQmba
import Derived.Test.YtmjneoaciopioaaDoorQmbc
namespace Go.Proofs.YtmjneoaciopioaaDoor
open Go.RowKit Go.ChangeMaps

/-- The joints at one edge, of those that have it. -/
def jE (i : Nat) (e : Int × Int × Int × Int) (G : List Int) : List ((Int × Int × Int × Int) × Int) := (G.filter fun j => decide (j ≠ (i : Int))).map fun j => (e, j)
theorem jE_yes {i : Nat} {e : Int × Int × Int × Int} {G : List Int} {m : Nat} (hm : m < G.length) (h : G[m] ≠ (i : Int)) : jE i e (G.take (m + 1)) = jE i e (G.take m) ++ [(e, G[m])] := by
  unfold jE
  rw [List.take_succ_eq_append_getElem hm, List.filter_append, List.map_append]
  simp [h]
theorem jE_no {i : Nat} {e : Int × Int × Int × Int} {G : List Int} {m : Nat} (hm : m < G.length) (h : G[m] = (i : Int)) : jE i e (G.take (m + 1)) = jE i e (G.take m) := by
  unfold jE
  rw [List.take_succ_eq_append_getElem hm, List.filter_append, List.map_append]
  simp [h]
theorem jE_len (i : Nat) (e : Int × Int × Int × Int) (G : List Int) : (jE i e G).length ≤ G.length := by
  unfold jE
  rw [List.length_map]
  exact List.length_filter_le _ _
/-- The joints of triangle i at its first n edges. -/
def jl (L : List (Int × Int × Int)) (t : Int × Int × Int) (i n : Nat) : List ((Int × Int × Int × Int) × Int) := (List.range n).flatMap fun k => jE i (edg t k) (gix L (edg t k))
theorem jl_zero (L : List (Int × Int × Int)) (t : Int × Int × Int) (i : Nat) : jl L t i 0 = [] := by simp [jl]
theorem jl_succ (L : List (Int × Int × Int)) (t : Int × Int × Int) (i n : Nat) : jl L t i (n + 1) = jl L t i n ++ jE i (edg t n) (gix L (edg t n)) := by simp [jl, List.range_succ, List.flatMap_append]
theorem jl_len (L : List (Int × Int × Int)) (t : Int × Int × Int) (i n : Nat) : (jl L t i n).length ≤ n * L.length := by
  induction n with
  | zero => simp [jl]
  | succ n ih =>
    rw [jl_succ, List.length_append, Nat.succ_mul]
    have := jE_len i (edg t n) (gix L (edg t n))
    have := gix_len L (edg t n)
    omega
theorem jl_mem {L : List (Int × Int × Int)} {t : Int × Int × Int} {i n : Nat} {e : Int × Int × Int × Int} {j : Int} : (e, j) ∈ jl L t i n ↔ ∃ k, k < n ∧ e = edg t k ∧ ∃ m : Nat, ∃ h : m < L.length, j = (m : Int) ∧ m ≠ i ∧ hasT L[m] e = true := by
  simp only [jl, jE, List.mem_flatMap, List.mem_range, List.mem_map, List.mem_filter, decide_eq_true_eq, gix_mem]
  constructor
  · rintro ⟨k, hk, a, ⟨⟨m, hm, rfl, ht⟩, hne⟩, he⟩
    simp only [Prod.mk.injEq] at he
    obtain ⟨rfl, rfl⟩ := he
    exact ⟨k, hk, rfl, m, hm, rfl, by omega, ht⟩
  · rintro ⟨k, hk, rfl, m, hm, rfl, hne, ht⟩
    exact ⟨k, hk, (m : Int), ⟨⟨m, hm, rfl, ht⟩, by omega⟩, rfl⟩

/-- Joints, number by number. -/
def flatJ (l : List ((Int × Int × Int × Int) × Int)) : List Value := l.flatMap fun t => [.int .i64 t.1.1, .int .i64 t.1.2.1, .int .i64 t.1.2.2.1, .int .i64 t.1.2.2.2, .int .i64 t.2]
theorem flatJ_add (l m : List ((Int × Int × Int × Int) × Int)) : flatJ (l ++ m) = flatJ l ++ flatJ m := by simp [flatJ, List.flatMap_append]
theorem flatJ_at : ∀ (l : List ((Int × Int × Int × Int) × Int)) (i : Nat) (h : i < l.length), (flatJ l)[i * 5]? = some (.int .i64 l[i].1.1) ∧ (flatJ l)[i * 5 + 1]? = some (.int .i64 l[i].1.2.1) ∧ (flatJ l)[i * 5 + 2]? = some (.int .i64 l[i].1.2.2.1) ∧ (flatJ l)[i * 5 + 3]? = some (.int .i64 l[i].1.2.2.2) ∧ (flatJ l)[i * 5 + 4]? = some (.int .i64 l[i].2)
  | [], i, h => by simp at h
  | t :: l, 0, h => by simp [flatJ]
  | t :: l, i + 1, h => by
    have ih := flatJ_at l i (by simpa using h)
    have e : flatJ (t :: l) = [Value.int .i64 t.1.1, .int .i64 t.1.2.1, .int .i64 t.1.2.2.1, .int .i64 t.1.2.2.2, .int .i64 t.2] ++ flatJ l := by simp [flatJ]
    have q : ∀ o, (flatJ (t :: l))[(i + 1) * 5 + o]? = (flatJ l)[i * 5 + o]? := fun o => by
      rw [e, List.getElem?_append_right (by simp; omega)]
      congr 1
      simp
      omega
    have q0 := q 0
    simp only [Nat.add_zero] at q0
    simp only [List.getElem_cons_succ]
    rw [q0, q 1, q 2, q 3, q 4]
    exact ih
/-- Joints in a row of memory, as a slice has them. -/
def JRow (w : World) (a : Option Addr) (l : List ((Int × Int × Int × Int) × Int)) : Prop := ∀ i (h : i < l.length), ∃ g, a = some ⟨g, 0, none⟩ ∧ w.cell? ⟨g, i * 5, none⟩ = some (.int .i64 l[i].1.1) ∧ w.cell? ⟨g, i * 5 + 1, none⟩ = some (.int .i64 l[i].1.2.1) ∧ w.cell? ⟨g, i * 5 + 2, none⟩ = some (.int .i64 l[i].1.2.2.1) ∧ w.cell? ⟨g, i * 5 + 3, none⟩ = some (.int .i64 l[i].1.2.2.2) ∧ w.cell? ⟨g, i * 5 + 4, none⟩ = some (.int .i64 l[i].2)
theorem JRow.kept {w w' : World} {a : Option Addr} {l : List ((Int × Int × Int × Int) × Int)} (h : JRow w a l) (hb : Below w.heap.size w w') : JRow w' a l := fun i hi => by
  obtain ⟨g, e, h0, h1, h2, h3, h4⟩ := h i hi
  exact ⟨g, e, cl_kept hb h0, cl_kept hb h1, cl_kept hb h2, cl_kept hb h3, cl_kept hb h4⟩
theorem own_joints {w : World} {base : Nat} {v : Value} {l : List ((Int × Int × Int × Int) × Int)} (h : w.ownsRow base 108 5 v l.length (flatJ l)) : ∃ a cap, v = .slice a l.length cap ∧ JRow w a l := by
  rcases h.2 with ⟨rfl, h0⟩ | ⟨g, cap, cur, rfl, _⟩
  · exact ⟨none, 0, by rw [h0], fun i hi => by omega⟩
  · refine ⟨some ⟨g, 0, none⟩, cap, rfl, fun i hi => ⟨g, rfl, ?_⟩⟩
    have f := flatJ_at l i hi
    exact ⟨(h.cellAt _ (by omega)).trans f.1, (h.cellAt _ (by omega)).trans f.2.1, (h.cellAt _ (by omega)).trans f.2.2.1, (h.cellAt _ (by omega)).trans f.2.2.2.1, (h.cellAt _ (by omega)).trans f.2.2.2.2⟩

/-- Joints in a row of memory that is their own. -/
def JW (w : World) (base : Nat) (a : Option Addr) (l : List ((Int × Int × Int × Int) × Int)) : Prop := JRow w a l ∧ ∀ g, a = some ⟨g, 0, none⟩ → base ≤ g ∧ ∃ cur, w.heap[g]? = some (.cells cur 108)
theorem own_jw {w : World} {base : Nat} {v : Value} {l : List ((Int × Int × Int × Int) × Int)} (h : w.ownsRow base 108 5 v l.length (flatJ l)) : ∃ a cap, v = .slice a l.length cap ∧ JW w base a l := by
  obtain ⟨a, cap, e, hr⟩ := own_joints h
  refine ⟨a, cap, e, hr, fun g hg => ?_⟩
  subst e hg
  rcases h.2 with ⟨e1, _⟩ | ⟨b, cap', cur, e1, hb, hc, _⟩
  · simp at e1
  · simp only [Value.slice.injEq, Option.some.injEq, Addr.mk.injEq] at e1
    obtain ⟨⟨rfl, _⟩, _⟩ := e1
    exact ⟨hb, cur, hc⟩
theorem JW.grown {w w' : World} {base : Nat} {a : Option Addr} {l : List ((Int × Int × Int × Int) × Int)} {row : Option Nat} (h : JW w base a l) (hg : w.grownBy w' row) (hne : ∀ g, row = some g → a ≠ some ⟨g, 0, none⟩) : JW w' base a l := by
  refine ⟨fun i hi => ?_, fun g he => ?_⟩
  · obtain ⟨g, e, h0, h1, h2, h3, h4⟩ := h.1 i hi
    have hn : some g ≠ row := fun e1 => hne g e1.symm e
    exact ⟨g, e, hg.cell h0 hn, hg.cell h1 hn, hg.cell h2 hn, hg.cell h3 hn, hg.cell h4 hn⟩
  · obtain ⟨h1, cur, h2⟩ := h.2 g he
    exact ⟨h1, cur, (hg.block g (Array.getElem?_eq_some_iff.1 h2).1 (fun e1 => hne g e1.symm he)).trans h2⟩
theorem JW.kept {w w' : World} {base : Nat} {a : Option Addr} {l : List ((Int × Int × Int × Int) × Int)} (h : JW w base a l) (hb : Below w.heap.size w w') : JW w' base a l := h.grown (bl_grown hb) (by simp)
theorem JW.mono {w : World} {base base' : Nat} {a : Option Addr} {l : List ((Int × Int × Int × Int) × Int)} (h : JW w base a l) (hb : base' ≤ base) : JW w base' a l := ⟨h.1, fun g he => ⟨Nat.le_trans hb (h.2 g he).1, (h.2 g he).2⟩⟩
theorem JW.not_row {w : World} {base b2 n : Nat} {a : Option Addr} {l : List ((Int × Int × Int × Int) × Int)} {v : Value} {xs : List Value} (h : JW w base a l) (ho : w.ownsRow b2 3 1 v n xs) : ∀ g, v.ownBlock = some g → a ≠ some ⟨g, 0, none⟩ := fun g hg ha => by
  obtain ⟨_, cur, h2⟩ := h.2 g ha
  rcases ho.2 with ⟨rfl, _⟩ | ⟨b, cap, cur', rfl, _, hgb, _⟩
  · simp [Value.ownBlock] at hg
  · obtain rfl : b = g := by simpa [Value.ownBlock] using hg
    rw [h2] at hgb
    simp at hgb

/-- An edge's box. -/
def EB (w : World) (B : Nat) (p q r s : Int) : Prop := w.heap[B]? = some (.cells #[.int .i64 p, .int .i64 q, .int .i64 r, .int .i64 s] 72)
theorem EB.cells {w : World} {B : Nat} {p q r s : Int} (h : EB w B p q r s) : w.cell? ⟨B, 0, none⟩ = some (.int .i64 p) ∧ w.cell? ⟨B, 1, none⟩ = some (.int .i64 q) ∧ w.cell? ⟨B, 2, none⟩ = some (.int .i64 r) ∧ w.cell? ⟨B, 3, none⟩ = some (.int .i64 s) := by
  unfold EB at h
  simp [World.cell?, h]
theorem EB.lt {w : World} {B : Nat} {p q r s : Int} (h : EB w B p q r s) : B < w.heap.size := (Array.getElem?_eq_some_iff.1 h).1
theorem EB.grown {w w' : World} {B : Nat} {p q r s : Int} {row : Option Nat} (h : EB w B p q r s) (hg : w.grownBy w' row) (hne : some B ≠ row) : EB w' B p q r s := (hg.block B h.lt hne).trans h
theorem EB.kept {w w' : World} {B : Nat} {p q r s : Int} (h : EB w B p q r s) (hb : Below w.heap.size w w') : EB w' B p q r s := h.grown (bl_grown hb) (by simp)
theorem EB.not_row {w : World} {B base n : Nat} {p q r s : Int} {v : Value} {xs : List Value} (h : EB w B p q r s) (ho : w.ownsRow base 108 5 v n xs) : some B ≠ v.ownBlock := by
  rcases ho.2 with ⟨rfl, _⟩ | ⟨g, cap, cur, rfl, _, hgb, _⟩
  · simp [Value.ownBlock]
  · intro e
    obtain rfl : B = g := by simpa [Value.ownBlock] using e
    unfold EB at h
    rw [h] at hgb
    simp at hgb
/-- A paper's box. -/
def PB (w : World) (B : Nat) (ad : Option Addr) (n cc ra rk : Nat) : Prop := w.cell? ⟨B, 0, none⟩ = some (.slice ad n cc) ∧ w.cell? ⟨B, 1, none⟩ = some (.map (some ra)) ∧ w.cell? ⟨B, 2, none⟩ = some (.map (some rk))
theorem PB.kept {w w' : World} {B n cc ra rk : Nat} {ad : Option Addr} (h : PB w B ad n cc ra rk) (hb : Below w.heap.size w w') : PB w' B ad n cc ra rk := ⟨cl_kept hb h.1, cl_kept hb h.2.1, cl_kept hb h.2.2⟩
/-- What Joints keeps in memory. -/
def JM (w wx : World) (ad : Option Addr) (n cc ra rk : Nat) (J : List ((Int × Int × Int × Int) × Int)) (v : Value) : Prop :=
  wx.ownsRow (w.heap.size + 1) 108 5 v J.length (flatJ J) ∧ Below w.heap.size w wx ∧ PB wx w.heap.size ad n cc ra rk ∧ w.heap.size + 1 ≤ wx.heap.size
theorem JM.kept {w wx w' : World} {ad : Option Addr} {n cc ra rk : Nat} {J : List ((Int × Int × Int × Int) × Int)} {v : Value} (h : JM w wx ad n cc ra rk J v) (hb : Below wx.heap.size wx w') : JM w w' ad n cc ra rk J v :=
  ⟨own_below h.1 hb, bl_via h.2.1 hb, h.2.2.1.kept hb, Nat.le_trans h.2.2.2 hb.size⟩
theorem JM.more {w wx w2 w3 : World} {ad : Option Addr} {n cc ra rk : Nat} {J : List ((Int × Int × Int × Int) × Int)} {v v' : Value} {e : Int × Int × Int × Int} {j : Int} (h : JM w wx ad n cc ra rk J v) (hb : Below wx.heap.size wx w2) (hg : w2.grownBy w3 v.ownBlock) (hown : w3.ownsRow (w.heap.size + 1) 108 5 v' (J.length + 1) (flatJ J ++ [.int .i64 e.1, .int .i64 e.2.1, .int .i64 e.2.2.1, .int .i64 e.2.2.2, .int .i64 j])) : JM w w3 ad n cc ra rk (J ++ [(e, j)]) v' := by
  have h' := h.kept hb
  have hgb := Below.grown (Below.refl (w.heap.size + 1) w2) hg h'.2.2.2 (own_base h'.1)
  have q := hgb.size
  refine ⟨?_, h'.2.1.trans (hgb.mono (by omega)), ⟨?_, ?_, ?_⟩, by have := h'.2.2.2; omega⟩
  · rw [flatJ_add, List.length_append]
    simpa [flatJ] using hown
  · exact (hgb.cell (p := ⟨w.heap.size, 0, none⟩) (by dsimp only; omega)).trans h'.2.2.1.1
  · exact (hgb.cell (p := ⟨w.heap.size, 1, none⟩) (by dsimp only; omega)).trans h'.2.2.1.2.1
  · exact (hgb.cell (p := ⟨w.heap.size, 2, none⟩) (by dsimp only; omega)).trans h'.2.2.1.2.2
theorem infJ : (Tryd.prog.info? 108).map (fun i => (i.zero, i.size, i.bytes)) = some (some (.agg #[.int .i64 0, .int .i64 0, .int .i64 0, .int .i64 0, .int .i64 0]), 5, 40) := by kernel_rfl
theorem cell_five_new (w : World) (T : TypeId) (a b c d e : Int) : ∀ j u, ([Value.int .i64 a, .int .i64 b, .int .i64 c, .int .i64 d, .int .i64 e])[j]? = some u → (w.alloc (.cells #[.int .i64 a, .int .i64 b, .int .i64 c, .int .i64 d, .int .i64 e] T)).cell? ((⟨w.heap.size, 0, none⟩ : Addr).add j) = some u := by
  intro j u hu
  match j, hu with
  | 0, hu => simp at hu; subst hu; simp [go_sem, Addr.add]
  | 1, hu => simp at hu; subst hu; simp [go_sem, Addr.add]
  | 2, hu => simp at hu; subst hu; simp [go_sem, Addr.add]
  | 3, hu => simp at hu; subst hu; simp [go_sem, Addr.add]
  | 4, hu => simp at hu; subst hu; simp [go_sem, Addr.add]

set_option maxRecDepth 100000 in
set_option maxHeartbeats 6400000 in
theorem joints_any (w : World) (cc ra rk i : Nat) (ad : Option Addr) (L : List (Int × Int × Int)) (x y k : Int) (hs : Steps w) (hPA : PA w ad ra L) (hi : i < L.length) (ht : (x, y, k) = L[i]) (hL : L.length ≤ 300) (hbd : (0 ≤ x ∧ x ≤ 8) ∧ (0 ≤ y ∧ y ≤ 8) ∧ (0 ≤ k ∧ k ≤ 3)) :
    Calls Tryd.prog 69 #[.agg #[.slice ad L.length cc, .map (some ra), .map (some rk)], .int .i64 (i : Int)] w fun e w' => ∃ v, e = .returned v ∧ w'.ownsRow (w.heap.size + 1) 108 5 v (jl L (x, y, k) i 3).length (flatJ (jl L (x, y, k) i 3)) ∧ Below w.heap.size w w' := by
  have HST : Hid (Steps w) := hs
  have HPA : Hid (PA w ad ra L) := hPA
  obtain ⟨i5, hi5, hz0, hz1, hz2⟩ := info_parts infJ
  have HI : Hid (Tryd.prog.info? 108 = some i5 ∧ i5.zero = some (.agg #[.int .i64 0, .int .i64 0, .int .i64 0, .int .i64 0, .int .i64 0]) ∧ i5.size = 5 ∧ i5.bytes = 40) := ⟨hi5, hz0, hz1, hz2⟩
  obtain ⟨tg, rfl, t0, t1, t2⟩ := hPA.1 i hi
  rw [← ht] at t0 t1 t2
  dsimp only at t0 t1 t2
  have zt : tg < w.heap.size := World.block_lt_of_cell? _ _ t0
  have htri : triB x y k = true := by simp [triB]; omega
  have HTRI : Hid (triB x y k = true) := htri
  have j1 : (i : Int) < (L.length : Int) := by omega
  have j0 : (0 : Int) ≤ (i : Int) := by omega
  clear hs hPA hi5 hz0 hz1 hz2 htri hbd ht
  go_enter Tryd.func69, Tryd.ntmps69
  go_wp2_with (go_at_call 89; refine (paperEdges_any _ _ _ _ HTRI.out (HST.out.kept (by with_reducible exact bl_alloc (bl_refl _)))).mono ?_; rintro e wq ⟨rfl, hb⟩; have hJ0 : JM w wq (some ⟨tg, 0, none⟩) L.length cc ra rk [] (.slice none 0 0) := ⟨by simpa [flatJ] using World.ownsRow_nil _ _ _ _, bl_via (bl_alloc (bl_refl _)) hb, PB.kept (by simp [PB, go_sem]) hb, by have := hb.size; simp at this; omega⟩; have HQ : Hid (JM w wq (some ⟨tg, 0, none⟩) L.length cc ra rk [] (.slice none 0 0)) := hJ0; clear hb hJ0 t0 t1 t2 zt)
  go_loopg [5, 16] 3 (fun gk s5 s16 wx => ∃ e : Nat, e ≤ 3 ∧ gk = 3 - e ∧ s16 = .int .i64 (e : Int) ∧ JM w wx (some ⟨tg, 0, none⟩) L.length cc ra rk (jl L (x, y, k) i e) s5)
  case atStart => exact ⟨0, by omega, rfl, rfl, by rw [jl_zero]; exact HQ.out⟩
  case round =>
    clear HQ
    obtain ⟨e, he, rfl, rfl, hM⟩ := hrel
    obtain ⟨vA, hvA⟩ : ∃ u, u = u5 := ⟨_, rfl⟩
    subst hvA
    have HM : Hid (JM w wr (some ⟨tg, 0, none⟩) L.length cc ra rk (jl L (x, y, k) i e) vA) := hM
    obtain ⟨p0, p1, p2⟩ := hM.2.2.1
    have zp : w.heap.size < wr.heap.size := World.block_lt_of_cell? _ _ p0
    have zp1 : w.heap.size < wr.heap.size + 1 := by omega
    clear hM
    by_cases he1 : e < 3
    · have ie : (e : Int) < 3 := by omega
      obtain ⟨q0, q1, q2, q3, hq⟩ : ∃ q0 q1 q2 q3, edg (x, y, k) e = (q0, q1, q2, q3) := ⟨_, _, _, _, rfl⟩
      have hx : (Instr.index 149 (.agg #[.int .i64 (ue0 x y k), .int .i64 (ue1 x y k), .int .i64 (ue2 x y k), .int .i64 (ue3 x y k), .int .i64 (ue4 x y k), .int .i64 (ue5 x y k), .int .i64 (ue6 x y k), .int .i64 (ue7 x y k), .int .i64 (ue8 x y k), .int .i64 (ue9 x y k), .int .i64 (ue10 x y k), .int .i64 (ue11 x y k)]) (.int .i64 (e : Int))).run Tryd.prog wr = .ok (.agg #[.int .i64 q0, .int .i64 q1, .int .i64 q2, .int .i64 q3]) wr := by
        obtain ⟨a0, a1, a2⟩ := idx32 (ue0 x y k) (ue1 x y k) (ue2 x y k) (ue3 x y k) (ue4 x y k) (ue5 x y k) (ue6 x y k) (ue7 x y k) (ue8 x y k) (ue9 x y k) (ue10 x y k) (ue11 x y k) wr
        have h3 : e = 0 ∨ e = 1 ∨ e = 2 := by omega
        rcases h3 with rfl | rfl | rfl
        · simp only [edg, if_true, Prod.mk.injEq] at hq
          obtain ⟨rfl, rfl, rfl, rfl⟩ := hq
          exact a0
        · simp only [edg, if_true, if_false, Nat.one_ne_zero, Prod.mk.injEq] at hq
          obtain ⟨rfl, rfl, rfl, rfl⟩ := hq
          exact a1
        · simp only [edg, if_false, show ¬ (2 : Nat) = 0 by omega, show ¬ (2 : Nat) = 1 by omega, Prod.mk.injEq] at hq
          obtain ⟨rfl, rfl, rfl, rfl⟩ := hq
          exact a2
      have HQ : Hid (edg (x, y, k) e = (q0, q1, q2, q3)) := hq
      clear hq
      obtain ⟨ga, gc, hgr, hlook⟩ := HPA.out.2 (q0, q1, q2, q3)
      have HGR : Hid (Row w ga (gix L (q0, q1, q2, q3))) := hgr
      have HEB : Hid (EB (wr.alloc (.cells #[.int .i64 q0, .int .i64 q1, .int .i64 q2, .int .i64 q3] 72)) wr.heap.size q0 q1 q2 q3) := by
        have : EB (wr.alloc (.cells #[.int .i64 q0, .int .i64 q1, .int .i64 q2, .int .i64 q3] 72)) wr.heap.size q0 q1 q2 q3 := heap_alloc_new wr _
        exact this
      have lk5 : (Instr.lookup 60 (.map (some ra)) (.agg #[.int .i64 q0, .int .i64 q1, .int .i64 q2, .int .i64 q3]) false).run Tryd.prog (wr.alloc (.cells #[.int .i64 q0, .int .i64 q1, .int .i64 q2, .int .i64 q3] 72)) = .ok (.slice ga (gix L (q0, q1, q2, q3)).length gc) (wr.alloc (.cells #[.int .i64 q0, .int .i64 q1, .int .i64 q2, .int .i64 q3] 72)) := hlook _ (bl_alloc HM.out.2.1)
      have HM2 : Hid (JM w (wr.alloc (.cells #[.int .i64 q0, .int .i64 q1, .int .i64 q2, .int .i64 q3] 72)) (some ⟨tg, 0, none⟩) L.length cc ra rk (jl L (x, y, k) i e) vA) := HM.out.kept (bl_alloc (bl_refl _))
      obtain ⟨eb, heb⟩ : ∃ b, b = wr.heap.size := ⟨_, rfl⟩
      clear hgr hlook
      go_wp2
      obtain ⟨G, hG⟩ : ∃ G, G = gix L (q0, q1, q2, q3) := ⟨_, rfl⟩
      have HG : Hid (G = gix L (q0, q1, q2, q3)) := hG
      rw [← hG] at HGR
      have hGl : G.length ≤ 300 := by rw [hG]; exact Nat.le_trans (gix_len _ _) hL
      rw [← hG]
      rw [← heb] at HEB ⊢
      clear hG lk5 hx heb
      go_loopg [5, 24] G.length (fun gk s5 s24 wx => ∃ m : Nat, m ≤ G.length ∧ gk = G.length - m ∧ s24 = .int .i64 (m : Int) ∧ JM w wx (some ⟨tg, 0, none⟩) L.length cc ra rk (jl L (x, y, k) i e ++ jE i (q0, q1, q2, q3) (G.take m)) s5 ∧ EB wx eb q0 q1 q2 q3)
      case atStart => exact ⟨0, by omega, rfl, rfl, by simpa [jE] using HM2.out, HEB.out⟩
      case round =>
        clear HM HM2 HEB p0 p1 p2 zp zp1
        obtain ⟨m, hm, rfl, rfl, hM, hE⟩ := hrel
        obtain ⟨vB, hvB⟩ : ∃ u, u = u5 := ⟨_, rfl⟩
        subst hvB
        have HM : Hid (JM w wr (some ⟨tg, 0, none⟩) L.length cc ra rk (jl L (x, y, k) i e ++ jE i (q0, q1, q2, q3) (G.take m)) vB) := hM
        have HE : Hid (EB wr eb q0 q1 q2 q3) := hE
        obtain ⟨d0, d1, d2, d3⟩ := hE.cells
        have zd : eb < wr.heap.size := hE.lt
        clear hM hE
        by_cases hm1 : m < G.length
        · have im : (m : Int) < (G.length : Int) := by omega
          have im0 : (0 : Int) ≤ (m : Int) := by omega
          obtain ⟨gb, go, rfl, gcell⟩ := (HGR.out.kept HM.out.2.1) m hm1
          have zgb : gb < wr.heap.size := World.block_lt_of_cell? _ _ gcell
          obtain ⟨j, hj⟩ : ∃ j, j = G[m] := ⟨_, rfl⟩
          rw [← hj] at gcell
          have HJ : Hid (j = G[m]) := hj
          clear hj
          by_cases hne : j = (i : Int)
          · subst hne
            go_wp2
            go_roundg (G.length - (m + 1))
            case measure => omega
            case rel => exact ⟨m + 1, by omega, rfl, by go_num, by rw [jE_no hm1 HJ.out.symm]; exact HM.out, HE.out⟩
          · have hlen : (jl L (x, y, k) i e ++ jE i (q0, q1, q2, q3) (G.take m)).length + 1 ≤ 2000 := by
              have a1 := jl_len L (x, y, k) i e
              have a2 := jE_len i (q0, q1, q2, q3) (G.take m)
              have a3 : e * L.length ≤ 3 * 300 := Nat.mul_le_mul he hL
              rw [List.length_append]
              simp only [List.length_take] at a2
              omega
            go_wp2_with (at_builtin; refine wpList_append_own _ rfl (.tmp 31) (.tmp 35) 127 rfl (w.heap.size + 1) 108 i5 (.agg #[.int .i64 0, .int .i64 0, .int .i64 0, .int .i64 0, .int .i64 0]) 5 40 Tryd.underlying127 HI.out.1 HI.out.2.1 HI.out.2.2.1 HI.out.2.2.2 rfl (by decide) vB (jl L (x, y, k) i e ++ jE i (q0, q1, q2, q3) (G.take m)).length (flatJ (jl L (x, y, k) i e ++ jE i (q0, q1, q2, q3) (G.take m))) rfl ?own ⟨wr.heap.size, 0, none⟩ 1 1 [.int .i64 q0, .int .i64 q1, .int .i64 q2, .int .i64 q3, .int .i64 j] rfl rfl ?c1 ?c2 ?b1 ?b2 ?b3 ?grow)
            case own => exact own_below HM.out.1 (bl_alloc (bl_refl _))
            case c1 => exact cell_five_new _ _ _ _ _ _ _
            case c2 =>
              intro u hu
              simp at hu
              rcases hu with rfl | rfl | rfl | rfl | rfl <;> rfl
            case b1 =>
              unfold maxLen
              omega
            case b2 => omega
            case b3 =>
              have := HM.out.2.2.2
              simp
              omega
            case grow =>
              intro v' w3 hown hgrow hnil
              rw [← List.length_append] at hown
              have HM3 : Hid (JM w w3 (some ⟨tg, 0, none⟩) L.length cc ra rk (jl L (x, y, k) i e ++ jE i (q0, q1, q2, q3) (G.take (m + 1))) v') := by
                have h1 := HM.out.more (e := (q0, q1, q2, q3)) (j := j) (bl_alloc (bl_refl _)) hgrow hown
                rw [jE_yes hm1 (by rw [← HJ.out]; exact hne), ← HJ.out, ← List.append_assoc]
                exact h1
              have HE3 : Hid (EB w3 eb q0 q1 q2 q3) := by
                have h1 : EB w3 eb q0 q1 q2 q3 := (HE.out.kept (bl_alloc (bl_refl _))).grown hgrow (HE.out.not_row HM.out.1)
                exact h1
              clear hown hgrow hnil
              go_wp2
              go_roundg (G.length - (m + 1))
              case measure => omega
              case rel => exact ⟨m + 1, by omega, rfl, by go_num, HM3.out, HE3.out⟩
        · have im : ¬ (m : Int) < (G.length : Int) := by omega
          obtain rfl : m = G.length := by omega
          go_wp2
          go_roundg (3 - (e + 1))
          case measure => omega
          case rel =>
            refine ⟨e + 1, by omega, rfl, by go_num, ?_⟩
            have h1 := HM.out
            rw [List.take_length, HG.out] at h1
            rw [jl_succ, HQ.out]
            exact h1
    · have ie : ¬ (e : Int) < 3 := by omega
      obtain rfl : e = 3 := by omega
      go_wp2
      go_ret
      exact ⟨vA, rfl, HM.out.1, HM.out.2.1⟩

/-- A list of places as numbers in memory. -/
def rowN (R : List Nat) : List Value := R.map fun (i : Nat) => Value.int .i64 (i : Int)
/-- What the search keeps in memory: the labels, the list of what was found, the paper's box. -/
def SpM (wE wx w : World) (g : Nat) (ad : Option Addr) (cc ra rk : Nat) (L : List (Int × Int × Int)) (part : Nat → Int) (num : Int) (R : List Nat) (v : Value) : Prop :=
  ZRow wx g L.length (lab part num R) ∧ wx.ownsRow (w.heap.size + 1) 3 1 v R.length (rowN R) ∧ Below wE.heap.size wE wx ∧ (wx.cell? ⟨w.heap.size, 0, none⟩ = some (.slice ad L.length cc) ∧ wx.cell? ⟨w.heap.size, 1, none⟩ = some (.map (some ra)) ∧ wx.cell? ⟨w.heap.size, 2, none⟩ = some (.map (some rk))) ∧ w.heap.size + 1 ≤ wx.heap.size
theorem SpM.kept {wE wx w w' : World} {g cc ra rk : Nat} {ad : Option Addr} {L : List (Int × Int × Int)} {part : Nat → Int} {num : Int} {R : List Nat} {v : Value} (h : SpM wE wx w g ad cc ra rk L part num R v) (hb : Below wx.heap.size wx w') : SpM wE w' w g ad cc ra rk L part num R v :=
  ⟨h.1.kept hb, own_below h.2.1 hb, bl_via h.2.2.1 hb, ⟨cl_kept hb h.2.2.2.1.1, cl_kept hb h.2.2.2.1.2.1, cl_kept hb h.2.2.2.1.2.2⟩, Nat.le_trans h.2.2.2.2 hb.size⟩
theorem rowN_at (R : List Nat) (i : Nat) (h : i < R.length) : (rowN R)[i]? = some (.int .i64 ((R[i] : Nat) : Int)) := by simp [rowN, h]
theorem SpM.slice {wE wx w : World} {g cc ra rk : Nat} {ad : Option Addr} {L : List (Int × Int × Int)} {part : Nat → Int} {num : Int} {R : List Nat} {v : Value} (h : SpM wE wx w g ad cc ra rk L part num R v) (hn : 0 < R.length) : ∃ b cap, v = .slice (some ⟨b, 0, none⟩) R.length cap ∧ w.heap.size + 1 ≤ b ∧ ∀ i (hi : i < R.length), wx.cell? ⟨b, i, none⟩ = some (.int .i64 ((R[i] : Nat) : Int)) := by
  rcases h.2.1.2 with ⟨_, h0⟩ | ⟨b, cap, cur, hv, h2, h3⟩
  · omega
  · refine ⟨b, cap, hv, h2, fun i hi => ?_⟩
    subst hv
    have := h.2.1.cellAt i (by omega)
    rw [this, rowN_at R i hi]

/-- A label is written, and its place put on the list. -/
theorem SpM.more {wE wx w w2 w3 : World} {g cc ra rk j : Nat} {ad : Option Addr} {L : List (Int × Int × Int)} {part : Nat → Int} {num : Int} {R : List Nat} {v v' : Value} (h : SpM wE wx w g ad cc ra rk L part num R v) (hgw : g < w.heap.size) (hgE : wE.heap.size ≤ g) (hj : j < L.length)
    (hb : Below (wx.setCell ⟨g, j, none⟩ (.int .i64 num)).heap.size (wx.setCell ⟨g, j, none⟩ (.int .i64 num)) w2) (hg : w2.grownBy w3 v.ownBlock) (hown : w3.ownsRow (w.heap.size + 1) 3 1 v' (R.length + 1) (rowN R ++ [.int .i64 (j : Int)])) :
    SpM wE w3 w g ad cc ra rk L part num (R ++ [j]) v' := by
  obtain ⟨h1, h2, h3, ⟨p0, p1, p2⟩, h5⟩ := h
  have hrow : ∀ k, v.ownBlock = some k → w.heap.size + 1 ≤ k := fun k hk => (h2.lt k hk).1
  have hgv : some g ≠ v.ownBlock := fun e => by
    have := hrow g e.symm
    omega
  have hbv : some w.heap.size ≠ v.ownBlock := fun e => by
    have := hrow _ e.symm
    omega
  have z1 := ((h1.set num hj).kept hb).grown hg hgv
  have q : ∀ {o : Nat} {u : Value}, wx.cell? ⟨w.heap.size, o, none⟩ = some u → w3.cell? ⟨w.heap.size, o, none⟩ = some u := fun {o u} hu => by
    refine hg.cell (cl_kept hb ?_) hbv
    rw [World.cell?_setCell_other _ _ _ _ (by simp <;> omega)]
    exact hu
  refine ⟨?_, ?_, ?_, ⟨q p0, q p1, q p2⟩, ?_⟩
  · rw [lab_found]
    exact z1
  · rw [List.length_append, List.length_singleton]
    have : rowN (R ++ [j]) = rowN R ++ [.int .i64 (j : Int)] := by simp [rowN]
    rw [this]
    exact hown
  · have k1 : Below wE.heap.size wE (wx.setCell ⟨g, j, none⟩ (.int .i64 num)) := h3.setCell hgE _
    have k2 := k1.trans (hb.mono k1.size)
    have := h3.size
    exact k2.grown hg k2.size (fun k hk => by
      have := hrow k hk
      have := World.block_lt_of_cell? _ _ p0
      omega)
  · have q1 := hb.size
    have q2 := hg.size
    rw [World.size_setCell] at q1
    omega

theorem owns_one (w : World) (base : Nat) (v : Value) (h : base ≤ w.heap.size) : (w.alloc (.cells #[v] 3)).ownsRow base 3 1 (.slice (some ⟨w.heap.size, 0, none⟩) 1 1) 1 [v] :=
  ⟨by simp, .inr ⟨w.heap.size, 1, #[v], rfl, h, heap_alloc_new w _, Nat.le_refl _, by unfold maxLen; omega, by simp, by simp⟩⟩
/-- All joints of a triangle that may be crossed have been looked at. -/
theorem DoneT.joints {cr : Int × Int × Int × Int → Bool} {L : List (Int × Int × Int)} {part : Nat → Int} {R : List Nat} {t : Int × Int × Int} {i : Nat} (hi : i ∈ R) (h : ∀ m (hm : m < (jl L t i 3).length), ∀ j : Nat, (jl L t i 3)[m].2 = (j : Int) → cr (jl L t i 3)[m].1 = true → j ∈ R ∨ 0 ≤ part j) : DoneT cr L part R t 3 := fun k hk hc j hj ht => by
  by_cases e : j = i
  · subst e
    exact Or.inl hi
  · have hm : (edg t k, (j : Int)) ∈ jl L t i 3 := jl_mem.2 ⟨k, hk, rfl, j, hj, rfl, e, ht⟩
    obtain ⟨m, hm, e1⟩ := List.getElem_of_mem hm
    exact h m hm j (by rw [e1]) (by rw [e1]; exact hc)

set_option maxRecDepth 100000 in
set_option maxHeartbeats 6400000 in
theorem spread_all (wE w : World) (g cc ra rk f : Nat) (ad : Option Addr) (L : List (Int × Int × Int)) (part : Nat → Int) (num : Int) (cr : Int × Int × Int × Int → Bool) (hs : Steps wE) (hPA : PA wE ad ra L) (hB : Below wE.heap.size wE w) (hgE : wE.heap.size ≤ g) (hZ : ZRow w g L.length part) (hf : f < L.length) (hp : part f < 0) (hnum : 0 ≤ num ∧ num ≤ 1000) (hL : L.length ≤ 300) (hnd : L.Nodup) (hbd : ∀ t ∈ L, (0 ≤ t.1 ∧ t.1 ≤ 8) ∧ (0 ≤ t.2.1 ∧ t.2.1 ≤ 8) ∧ (0 ≤ t.2.2 ∧ t.2.2 ≤ 3))
    (hCL : ∀ (nr q0 q1 q2 q3 qt : Int) (W' : World), Below wE.heap.size wE W' → Calls Tryd.prog 74 #[.int .i64 nr, .agg #[.int .i64 q0, .int .i64 q1, .int .i64 q2, .int .i64 q3, .int .i64 qt]] W' fun e w' => e = .returned (.bool (cr (q0, q1, q2, q3))) ∧ Below W'.heap.size W' w') :
    Calls Tryd.prog 79 #[.agg #[.slice ad L.length cc, .map (some ra), .map (some rk)], .slice (some ⟨g, 0, none⟩) L.length L.length, .int .i64 (f : Int), .int .i64 num, .func (.func 74) #[] #[]] w fun e w' => e = .returned (.tuple #[]) ∧ ∃ R, Sp cr L part f R ∧ ZRow w' g L.length (lab part num R) ∧ (∀ i ∈ R, ∀ h : i < L.length, DoneT cr L part R L[i] 3) ∧ Below wE.heap.size wE w' := by
  have HCL : Hid (∀ (nr q0 q1 q2 q3 qt : Int) (W' : World), Below wE.heap.size wE W' → Calls Tryd.prog 74 #[.int .i64 nr, .agg #[.int .i64 q0, .int .i64 q1, .int .i64 q2, .int .i64 q3, .int .i64 qt]] W' fun e w' => e = .returned (.bool (cr (q0, q1, q2, q3))) ∧ Below W'.heap.size W' w') := hCL
  have HJN : Hid (∀ (W' : World) (i : Nat) (hi : i < L.length), Below wE.heap.size wE W' → Calls Tryd.prog 69 #[.agg #[.slice ad L.length cc, .map (some ra), .map (some rk)], .int .i64 (i : Int)] W' fun e w' => ∃ v, e = .returned v ∧ w'.ownsRow (W'.heap.size + 1) 108 5 v (jl L L[i] i 3).length (flatJ (jl L L[i] i 3)) ∧ Below W'.heap.size W' w') := fun W' i hi hW' => joints_any W' cc ra rk i ad L L[i].1 L[i].2.1 L[i].2.2 (hs.kept hW') (hPA.kept hW') hi rfl hL (hbd _ (List.getElem_mem hi))
  have HND : Hid (L.Nodup) := hnd
  obtain ⟨z0, zf⟩ := hZ f hf
  have hgw : g < w.heap.size := World.block_lt_of_cell? _ _ z0
  have HZ : Hid (ZRow w g L.length part ∧ Below wE.heap.size wE w) := ⟨hZ, hB⟩
  have HS0 : Hid (Sp cr L part f [f]) := ⟨by simp, by simp, fun i hi => by
    simp at hi
    subst hi
    exact ⟨hf, hp, hf, .here (List.getElem_mem hf)⟩⟩
  obtain ⟨i3, hi3, hz30, hz31, hz32⟩ := info_parts inf3
  have HI : Hid (Tryd.prog.info? 3 = some i3 ∧ i3.zero = some (.int .i64 0) ∧ i3.size = 1 ∧ i3.bytes = 8) := ⟨hi3, hz30, hz31, hz32⟩
  obtain ⟨n0, n1⟩ := hnum
  have if1 : (f : Int) < (L.length : Int) := by omega
  have if0 : (0 : Int) ≤ (f : Int) := by omega
  clear hs hPA hbd hnd hZ hB hi3 hz30 hz31 hz32 hp hCL
  go_enter Tryd.func79, Tryd.ntmps79
  go_wp2
  go_loopg [10, 11] L.length (fun gk s10 s11 wx => ∃ (n : Nat) (R : List Nat), n ≤ R.length ∧ L.length - n ≤ gk ∧ s11 = .int .i64 (n : Int) ∧ Sp cr L part f R ∧ (∀ m (hm : m < R.length), m < n → ∀ h : R[m] < L.length, DoneT cr L part R L[R[m]] 3) ∧ SpM wE wx w g ad cc ra rk L part num R s10)
  case atStart =>
    refine ⟨0, [f], by simp, by omega, rfl, HS0.out, fun m _ h => by omega, ?_⟩
    refine ⟨?_, ?_, ?_, ⟨?_, ?_, ?_⟩, ?_⟩
    · have hz := (HZ.out.1.set num hf).kept (bl_alloc (o := .cells #[.int .i64 (f : Int)] 3) (bl_alloc (o := .cells #[.slice ad L.length cc, .map (some ra), .map (some rk)] 63) (bl_refl _)))
      have e : lab part num [f] = fun j => if j = f then num else part j := by
        funext j
        simp [lab]
      rw [e]
      exact hz
    · have := owns_one ((w.setCell ⟨g, f, none⟩ (.int .i64 num)).alloc (.cells #[.slice ad L.length cc, .map (some ra), .map (some rk)] 63)) (w.heap.size + 1) (.int .i64 (f : Int)) (by simp)
      simpa [rowN] using this
    · have hb0 : Below wE.heap.size wE (w.setCell ⟨g, f, none⟩ (.int .i64 num)) := HZ.out.2.setCell (p := ⟨g, f, none⟩) hgE _
      exact bl_alloc (bl_alloc hb0)
    · simp [go_sem]
    · simp [go_sem]
    · simp [go_sem]
    · simp
  case round =>
    clear HS0 HZ z0 zf
    obtain ⟨n, R, hn, hgk, rfl, hSp, hD, hM⟩ := hrel
    obtain ⟨vA, hvA⟩ : ∃ u, u = u10 := ⟨_, rfl⟩
    subst hvA
    have hRp : 0 < R.length := List.length_pos_of_mem hSp.1
    obtain ⟨rb, rc, rfl, hrb, hrc⟩ := hM.slice hRp
    have hRL := hSp.len
    have HSP : Hid (Sp cr L part f R ∧ ∀ m (hm : m < R.length), m < n → ∀ h : R[m] < L.length, DoneT cr L part R L[R[m]] 3) := ⟨hSp, hD⟩
    have HM : Hid (SpM wE wr w g ad cc ra rk L part num R (.slice (some ⟨rb, 0, none⟩) R.length rc)) := hM
    obtain ⟨p0, p1, p2⟩ := hM.2.2.2.1
    have zp : w.heap.size < wr.heap.size := World.block_lt_of_cell? _ _ p0
    by_cases h1 : n < R.length
    · have rcn := hrc n h1
      have zr : rb < wr.heap.size := World.block_lt_of_cell? _ _ rcn
      have hRn : R[n] ∈ R := List.getElem_mem h1
      obtain ⟨hi, _⟩ := hSp.2.2 R[n] hRn
      obtain ⟨i, hie⟩ : ∃ i, i = R[n] := ⟨_, rfl⟩
      rw [← hie] at rcn hi
      have HIE : Hid (i = R[n]) := hie
      have HIR : Hid (i ∈ R) := by rw [hie]; exact hRn
      clear hSp hD hM hrc hie hRn
      have i1 : (n : Int) < (R.length : Int) := by omega
      have i0 : (0 : Int) ≤ (n : Int) := by omega
      obtain ⟨J, hJ⟩ : ∃ J, J = jl L L[i] i 3 := ⟨_, rfl⟩
      have hJl : J.length ≤ 900 := by
        have := jl_len L L[i] i 3
        rw [hJ]
        omega
      have CJ : Hid (∀ W' : World, Below wr.heap.size wr W' → Calls Tryd.prog 69 #[.agg #[.slice ad L.length cc, .map (some ra), .map (some rk)], .int .i64 (i : Int)] W' fun e w' => ∃ v, e = .returned v ∧ w'.ownsRow (W'.heap.size + 1) 108 5 v J.length (flatJ J) ∧ Below W'.heap.size W' w') := fun W' hW' => by
        rw [hJ]
        exact HJN.out W' i hi (bl_via HM.out.2.2.1 hW')
      have HJ : Hid (J = jl L L[i] i 3) := hJ
      clear hJ
      go_wp2
      go_cut [31, 32, 33] (fun s31 s32 s33 wx => ∃ ja jc, s31 = .slice ja J.length jc ∧ s32 = .int .i64 (J.length : Int) ∧ s33 = .int .i64 0 ∧ JW wx (w.heap.size + 1) ja J ∧ Below wr.heap.size wr wx)
      case first =>
        go_region_held3 (fun w' => w'.cell? ⟨w.heap.size, 0, none⟩ = some (.slice ad L.length cc) ∧ w'.cell? ⟨w.heap.size, 1, none⟩ = some (.map (some ra)) ∧ w'.cell? ⟨w.heap.size, 2, none⟩ = some (.map (some rk)) ∧ w'.cell? ⟨rb, n, none⟩ = some (.int .i64 (i : Int)))
          ((refine ⟨?_, ?_, ?_, ?_⟩ <;> (first | (with_reducible (repeat (first | assumption | refine al_old ?_ | refine dr_old ?_)); done) | (simp [go_sem]; done))))
          ((go_at_call 69; refine (CJ.out _ (by with_reducible repeat (first | exact bl_refl _ | refine bl_drew ?_))).mono ?_; rintro e w8 ⟨v8, rfl, hown, hb⟩; obtain ⟨ja, jc, rfl, hjr⟩ := own_jw hown; have hq8 : Below wr.heap.size wr w8 := bl_via (by with_reducible repeat (first | exact bl_refl _ | refine bl_drew ?_)) hb; have HQ : Hid (JW w8 wr.heap.size ja J ∧ Below wr.heap.size wr w8) := ⟨hjr.mono (by simp), hq8⟩; have p0_8 := cl_kept hq8 p0; have p1_8 := cl_kept hq8 p1; have p2_8 := cl_kept hq8 p2; have rc_8 := cl_kept hq8 rcn; clear hown hjr hb hq8))
        all_goals
          go_wp2
          go_meet
          case rel => exact ⟨_, _, rfl, rfl, rfl, (HQ.out.1.mono (by omega)).kept (by with_reducible repeat (first | exact bl_refl _ | refine bl_drew ?_)), by with_reducible repeat (first | exact HQ.out.2 | refine bl_drew ?_)⟩
      case rest =>
        obtain ⟨ja, jc, rfl, rfl, rfl, hjr, hBc⟩ := hcut
        have HJR : Hid (JW wc (w.heap.size + 1) ja J) := hjr
        have HWC : Hid (Below wc.heap.size wc wc) := bl_refl _
        have HMQ : Hid (SpM wE wc w g ad cc ra rk L part num R (.slice (some ⟨rb, 0, none⟩) R.length rc)) := HM.out.kept hBc
        obtain ⟨WC, hWC⟩ : ∃ W, W = wc := ⟨_, rfl⟩
        rw [← hWC] at HJR HMQ HWC
        clear hjr hBc p0 p1 p2 zp hrb zr rcn CJ HM
        have HWC' : Hid (Below WC.heap.size WC wc ∧ w.heap.size + 1 ≤ WC.heap.size) := ⟨by rw [hWC]; exact bl_refl _, HMQ.out.2.2.2.2⟩
        have HMR : Hid (SpM wE wc w g ad cc ra rk L part num R (.slice (some ⟨rb, 0, none⟩) R.length rc)) := by rw [← hWC]; exact HMQ.out
        clear HWC HMQ hWC
        go_wp2
        go_loopg [10, 33] J.length (fun gk s10 s33 wx => ∃ (m : Nat) (Y : List Nat), m ≤ J.length ∧ gk = J.length - m ∧ s33 = .int .i64 (m : Int) ∧ Sp cr L part f (R ++ Y) ∧ (∀ m' (h : m' < J.length), m' < m → ∀ j : Nat, J[m'].2 = (j : Int) → cr J[m'].1 = true → j ∈ R ++ Y ∨ 0 ≤ part j) ∧ SpM wE wx w g ad cc ra rk L part num (R ++ Y) s10 ∧ JW wx (w.heap.size + 1) ja J)
        case atStart => exact ⟨0, [], by omega, rfl, rfl, by simpa using HSP.out.1, fun m' _ h => by omega, by simpa using HMR.out, HJR.out.kept HWC'.out.1⟩
        case round =>
          clear HMR HWC'
          obtain ⟨m, Y, hm, rfl, rfl, hSp, hE, hM, hjr⟩ := hrel
          obtain ⟨vC, hvC⟩ : ∃ u, u = u10 := ⟨_, rfl⟩
          subst hvC
          have HS3 : Hid (Sp cr L part f (R ++ Y) ∧ (∀ m' (h : m' < J.length), m' < m → ∀ j : Nat, J[m'].2 = (j : Int) → cr J[m'].1 = true → j ∈ R ++ Y ∨ 0 ≤ part j)) := ⟨hSp, hE⟩
          have HM : Hid (SpM wE wr w g ad cc ra rk L part num (R ++ Y) vC) := hM
          have HR : Hid (JW wr (w.heap.size + 1) ja J) := hjr
          clear hSp hE hM hjr
          by_cases hm1 : m < J.length
          · have im : (m : Int) < (J.length : Int) := by omega
            have im0 : (0 : Int) ≤ (m : Int) := by omega
            obtain ⟨jb, rfl, c0, c1, c2, c3, c4⟩ := HR.out.1 m hm1
            have zjb : jb < wr.heap.size := World.block_lt_of_cell? _ _ c0
            obtain ⟨q, hq⟩ : ∃ q, q = J[m] := ⟨_, rfl⟩
            obtain ⟨⟨q0, q1, q2, q3⟩, qj⟩ := q
            rw [← hq] at c0 c1 c2 c3 c4
            dsimp only at c0 c1 c2 c3 c4
            have HQ : Hid (((q0, q1, q2, q3), qj) = J[m]) := hq
            have hmem : ((q0, q1, q2, q3), qj) ∈ jl L L[i] i 3 := by rw [← HJ.out, hq]; exact List.getElem_mem hm1
            obtain ⟨k, hk, hke, j, hj, rfl, hji, hjt⟩ := jl_mem.1 hmem
            have HJ2 : Hid ((q0, q1, q2, q3) = edg L[i] k ∧ hasT L[j] (q0, q1, q2, q3) = true) := ⟨hke, hjt⟩
            obtain ⟨lc, lf⟩ := HM.out.1 j hj
            have zg : g < wr.heap.size := World.block_lt_of_cell? _ _ lc
            have zg1 : g < wr.heap.size + 1 := by omega
            have ij : (j : Int) < (L.length : Int) := by omega
            have ij0 : (0 : Int) ≤ (j : Int) := by omega
            clear hmem hke hjt hq
            by_cases hlt : lab part num (R ++ Y) j < 0
            · have hjR : j ∉ R ++ Y := fun hh => by
                simp only [lab, if_pos hh] at hlt
                omega
              obtain ⟨sb, sc, rfl, hsb, hsc⟩ := HM.out.slice (by rw [List.length_append]; omega)
              have hnY : n < (R ++ Y).length := by rw [List.length_append]; omega
              have sn := hsc n hnY
              rw [show (R ++ Y)[n] = i by rw [List.getElem_append_left h1]; exact HIE.out.symm] at sn
              have zsb : sb < wr.heap.size := World.block_lt_of_cell? _ _ sn
              have inY : (n : Int) < ((R ++ Y).length : Int) := by omega
              clear hsc
              have hpj : part j < 0 := by simpa [lab, hjR] using hlt
              obtain ⟨lv, hlv⟩ : ∃ lv, lv = lab part num (R ++ Y) j := ⟨_, rfl⟩
              rw [← hlv] at lc hlt
              have HLV : Hid (lv = lab part num (R ++ Y) j) := hlv
              clear hlv
              cases hcr : cr (q0, q1, q2, q3)
              · have CC : Hid (∀ W' : World, Below wr.heap.size wr W' → Calls Tryd.prog 74 #[.int .i64 (i : Int), .agg #[.int .i64 q0, .int .i64 q1, .int .i64 q2, .int .i64 q3, .int .i64 (j : Int)]] W' fun e w' => e = .returned (.bool false) ∧ Below W'.heap.size W' w') := fun W' hW' => hcr ▸ HCL.out (i : Int) q0 q1 q2 q3 (j : Int) W' (bl_via HM.out.2.2.1 hW')
                go_wp2
                refine wp_named (fun W1 hW1 => ?_)
                have hbW : Below wr.heap.size wr W1 := by rw [hW1]; exact bl_alloc (bl_refl _)
                have d0 : W1.cell? ⟨wr.heap.size, 0, none⟩ = some (.int .i64 q0) := by rw [hW1]; simp [go_sem]
                have d1 : W1.cell? ⟨wr.heap.size, 1, none⟩ = some (.int .i64 q1) := by rw [hW1]; simp [go_sem]
                have d2 : W1.cell? ⟨wr.heap.size, 2, none⟩ = some (.int .i64 q2) := by rw [hW1]; simp [go_sem]
                have d3 : W1.cell? ⟨wr.heap.size, 3, none⟩ = some (.int .i64 q3) := by rw [hW1]; simp [go_sem]
                have d4 : W1.cell? ⟨wr.heap.size, 4, none⟩ = some (.int .i64 (j : Int)) := by rw [hW1]; simp [go_sem]
                have lc1 := cl_kept hbW lc
                have zn : wr.heap.size < W1.heap.size := World.block_lt_of_cell? _ _ d0
                have zg2 : g < W1.heap.size := World.block_lt_of_cell? _ _ lc1
                have sn1 := cl_kept hbW sn
                have zs1 : sb < W1.heap.size := World.block_lt_of_cell? _ _ sn1
                have HM1 : Hid (SpM wE W1 w g ad cc ra rk L part num (R ++ Y) (.slice (some ⟨sb, 0, none⟩) (R ++ Y).length sc) ∧ JW W1 (w.heap.size + 1) (some ⟨jb, 0, none⟩) J) := ⟨HM.out.kept hbW, HR.out.kept hbW⟩
                have hqd : decide (lv < 0) = true := decide_eq_true hlt
                have C1 : Hid (∀ W' : World, Below W1.heap.size W1 W' → Calls Tryd.prog 74 #[.int .i64 (i : Int), .agg #[.int .i64 q0, .int .i64 q1, .int .i64 q2, .int .i64 q3, .int .i64 (j : Int)]] W' fun e w' => e = .returned (.bool false) ∧ Below W'.heap.size W' w') := fun W' hW' => CC.out W' (bl_via hbW hW')
                clear hW1 hbW c0 c1 c2 c3 c4 lc lf sn
                have kc := Kin.cells W1
                have kn : Nonempty (Kin W1) := ⟨⟨W1, bl_refl _⟩⟩
                refine wp_region_kin (by kernel_rfl) (by kernel_rfl) ?_
                repeat (go_big_quiet_step ((go_at_call 74; exact kin_of (C1.out _ (Kin.h _)))))
                refine wpQuiet_nil ?_
                intro w5 hw'
                obtain ⟨nq, hw''⟩ := hw'
                have hq : Below W1.heap.size W1 w5 := hw'' ▸ nq.h
                clear hw'' nq kc kn
                have HM5 : Hid (SpM wE w5 w g ad cc ra rk L part num (R ++ Y) (.slice (some ⟨sb, 0, none⟩) (R ++ Y).length sc) ∧ JW w5 (w.heap.size + 1) (some ⟨jb, 0, none⟩) J) := ⟨HM1.out.1.kept hq, HM1.out.2.kept hq⟩
                go_wp2
                go_roundg (J.length - (m + 1))
                case measure => omega
                case rel =>
                  refine ⟨m + 1, Y, by omega, rfl, by go_num, HS3.out.1, fun m' h' hm' j' hj' hc' => ?_, HM5.out.1, HM5.out.2⟩
                  by_cases em : m' = m
                  · subst em
                    rw [← HQ.out] at hc'
                    simp only at hc'
                    rw [hcr] at hc'
                    exact absurd hc' (by simp)
                  · exact HS3.out.2 m' h' (by omega) j' hj' hc'
              · have CC : Hid (∀ W' : World, Below wr.heap.size wr W' → Calls Tryd.prog 74 #[.int .i64 (i : Int), .agg #[.int .i64 q0, .int .i64 q1, .int .i64 q2, .int .i64 q3, .int .i64 (j : Int)]] W' fun e w' => e = .returned (.bool true) ∧ Below W'.heap.size W' w') := fun W' hW' => hcr ▸ HCL.out (i : Int) q0 q1 q2 q3 (j : Int) W' (bl_via HM.out.2.2.1 hW')
                have HF : Hid (Sp cr L part f (R ++ (Y ++ [j]))) := by
                  have := HS3.out.1.found HND.out (i := i) (j := j) (List.mem_append_left _ HIR.out) hj hjR hpj (e := (q0, q1, q2, q3)) hcr (fun hi' => by
                    rw [HJ2.out.1]
                    exact edg_own _ _) HJ2.out.2
                  rwa [List.append_assoc] at this
                have hlen : (R ++ Y).length + 1 ≤ 1000 := by
                  have := HS3.out.1.len
                  omega
                go_wp2
                refine wp_named (fun W1 hW1 => ?_)
                have hbW : Below wr.heap.size wr W1 := by rw [hW1]; exact bl_alloc (bl_refl _)
                have d0 : W1.cell? ⟨wr.heap.size, 0, none⟩ = some (.int .i64 q0) := by rw [hW1]; simp [go_sem]
                have d1 : W1.cell? ⟨wr.heap.size, 1, none⟩ = some (.int .i64 q1) := by rw [hW1]; simp [go_sem]
                have d2 : W1.cell? ⟨wr.heap.size, 2, none⟩ = some (.int .i64 q2) := by rw [hW1]; simp [go_sem]
                have d3 : W1.cell? ⟨wr.heap.size, 3, none⟩ = some (.int .i64 q3) := by rw [hW1]; simp [go_sem]
                have d4 : W1.cell? ⟨wr.heap.size, 4, none⟩ = some (.int .i64 (j : Int)) := by rw [hW1]; simp [go_sem]
                have lc1 := cl_kept hbW lc
                have zn : wr.heap.size < W1.heap.size := World.block_lt_of_cell? _ _ d0
                have zg2 : g < W1.heap.size := World.block_lt_of_cell? _ _ lc1
                have sn1 := cl_kept hbW sn
                have zs1 : sb < W1.heap.size := World.block_lt_of_cell? _ _ sn1
                have HM1 : Hid (SpM wE W1 w g ad cc ra rk L part num (R ++ Y) (.slice (some ⟨sb, 0, none⟩) (R ++ Y).length sc) ∧ JW W1 (w.heap.size + 1) (some ⟨jb, 0, none⟩) J) := ⟨HM.out.kept hbW, HR.out.kept hbW⟩
                have hqd : decide (lv < 0) = true := decide_eq_true hlt
                have C1 : Hid (∀ W' : World, Below W1.heap.size W1 W' → Calls Tryd.prog 74 #[.int .i64 (i : Int), .agg #[.int .i64 q0, .int .i64 q1, .int .i64 q2, .int .i64 q3, .int .i64 (j : Int)]] W' fun e w' => e = .returned (.bool true) ∧ Below W'.heap.size W' w') := fun W' hW' => CC.out W' (bl_via hbW hW')
                clear hW1 hbW c0 c1 c2 c3 c4 lc lf sn
                have kc := Kin.cells W1
                have kn : Nonempty (Kin W1) := ⟨⟨W1, bl_refl _⟩⟩
                refine wp_region_kin (by kernel_rfl) (by kernel_rfl) ?_
                repeat (go_big_quiet_step ((go_at_call 74; exact kin_of (C1.out _ (Kin.h _)))))
                refine wpQuiet_nil ?_
                intro w5 hw'
                obtain ⟨nq, hw''⟩ := hw'
                have hq : Below W1.heap.size W1 w5 := hw'' ▸ nq.h
                clear hw'' nq kc kn
                have HM5 : Hid (SpM wE w5 w g ad cc ra rk L part num (R ++ Y) (.slice (some ⟨sb, 0, none⟩) (R ++ Y).length sc) ∧ JW w5 (w.heap.size + 1) (some ⟨jb, 0, none⟩) J) := ⟨HM1.out.1.kept hq, HM1.out.2.kept hq⟩
                have d5 := cl_kept hq d4
                have zn5 : wr.heap.size < w5.heap.size := World.block_lt_of_cell? _ _ d5
                obtain ⟨lc5, lf5⟩ := HM5.out.1.1 j hj
                have zg5 : g < w5.heap.size := World.block_lt_of_cell? _ _ lc5
                clear hq
                go_wp2_with (at_builtin; refine wpList_append_own _ rfl (.tmp 57) (.tmp 60) 22 rfl (w.heap.size + 1) 3 i3 (.int .i64 0) 1 8 Tryd.underlying22 HI.out.1 HI.out.2.1 HI.out.2.2.1 HI.out.2.2.2 rfl (by decide) (.slice (some ⟨sb, 0, none⟩) (R ++ Y).length sc) (R ++ Y).length (rowN (R ++ Y)) rfl ?own ⟨w5.heap.size, 0, none⟩ 1 1 [.int .i64 (j : Int)] rfl rfl ?c1 ?c2 ?b1 ?b2 ?b3 ?grow)
                case own =>
                  try rw [← List.length_append]
                  exact (HM5.out.1.2.1.kept (grown_cell _ g j _) (by
                    cases hu : (Value.slice (some ⟨sb, 0, none⟩) (R ++ Y).length sc).ownBlock with
                    | none => exact Or.inl rfl
                    | some q =>
                      refine Or.inr (fun e1 => ?_)
                      have := (HM5.out.1.2.1.lt q hu).1
                      simp at e1
                      omega)).alloc _
                case c1 => exact cell_one _ (by simp [go_sem])
                case c2 => exact one_cell _
                case b1 =>
                  unfold maxLen
                  first | omega | (rw [List.length_append] at hlen; omega)
                case b2 => first | omega | (rw [List.length_append] at hlen; omega)
                case b3 =>
                  have := HM5.out.1.2.2.2.2
                  simp
                  omega
                case grow =>
                  intro v' w3 hown hgrow _
                  rw [← List.length_append] at hown
                  try rw [← List.length_append] at hgrow
                  have HM3 : Hid (SpM wE w3 w g ad cc ra rk L part num (R ++ (Y ++ [j])) v') := by
                    have := HM5.out.1.more hgw hgE hj (bl_alloc (bl_refl _)) hgrow hown
                    rwa [List.append_assoc] at this
                  have HR3 : Hid (JW w3 (w.heap.size + 1) (some ⟨jb, 0, none⟩) J) := by
                    have h0 := HM5.out.2.grown (grown_cell w5 g j (.int .i64 num)) (fun g' hg' e1 => by
                      have h2 := (HM5.out.2.2 g' e1).1
                      simp at hg'
                      omega)
                    have h1 : JW w3 (w.heap.size + 1) (some ⟨jb, 0, none⟩) J := (h0.kept (bl_alloc (bl_refl _))).grown hgrow (HM5.out.2.not_row HM5.out.1.2.1)
                    exact h1
                  clear hown hgrow
                  go_wp2
                  go_roundg (J.length - (m + 1))
                  case measure => omega
                  case rel =>
                    have hsub : ∀ q ∈ R ++ Y, q ∈ R ++ (Y ++ [j]) := fun q hq => by
                      rw [← List.append_assoc]
                      exact List.mem_append_left _ hq
                    refine ⟨m + 1, Y ++ [j], by omega, rfl, by go_num, HF.out, fun m' h' hm' j' hj' hc' => ?_, HM3.out, HR3.out⟩
                    by_cases em : m' = m
                    · subst em
                      rw [← HQ.out] at hj'
                      simp only at hj'
                      have : j' = j := by omega
                      subst this
                      exact Or.inl (by simp)
                    · exact (HS3.out.2 m' h' (by omega) j' hj' hc').imp (hsub j') id
            · have hdone : Hid (j ∈ R ++ Y ∨ 0 ≤ part j) := by
                by_cases hh : j ∈ R ++ Y
                · exact Or.inl hh
                · exact Or.inr (by simp only [lab, if_neg hh] at hlt; omega)
              obtain ⟨lv, hlv⟩ : ∃ lv, lv = lab part num (R ++ Y) j := ⟨_, rfl⟩
              rw [← hlv] at lc hlt
              clear hlv
              go_wp2
              refine wp_named (fun W1 hW1 => ?_)
              have hbW : Below wr.heap.size wr W1 := by rw [hW1]; exact bl_alloc (bl_refl _)
              have d0 : W1.cell? ⟨wr.heap.size, 0, none⟩ = some (.int .i64 q0) := by rw [hW1]; simp [go_sem]
              have d1 : W1.cell? ⟨wr.heap.size, 1, none⟩ = some (.int .i64 q1) := by rw [hW1]; simp [go_sem]
              have d2 : W1.cell? ⟨wr.heap.size, 2, none⟩ = some (.int .i64 q2) := by rw [hW1]; simp [go_sem]
              have d3 : W1.cell? ⟨wr.heap.size, 3, none⟩ = some (.int .i64 q3) := by rw [hW1]; simp [go_sem]
              have d4 : W1.cell? ⟨wr.heap.size, 4, none⟩ = some (.int .i64 (j : Int)) := by rw [hW1]; simp [go_sem]
              have lc1 := cl_kept hbW lc
              have zn : wr.heap.size < W1.heap.size := World.block_lt_of_cell? _ _ d0
              have zg2 : g < W1.heap.size := World.block_lt_of_cell? _ _ lc1
              have HM1 : Hid (SpM wE W1 w g ad cc ra rk L part num (R ++ Y) vC ∧ JW W1 (w.heap.size + 1) (some ⟨jb, 0, none⟩) J) := ⟨HM.out.kept hbW, HR.out.kept hbW⟩
              have hqd : decide (lv < 0) = false := decide_eq_false (by omega)
              clear hW1 hbW c0 c1 c2 c3 c4 lc lf
              have kc := Kin.cells W1
              have kn : Nonempty (Kin W1) := ⟨⟨W1, bl_refl _⟩⟩
              refine wp_region_kin (by kernel_rfl) (by kernel_rfl) ?_
              repeat (go_big_quiet_step (fail))
              refine wpQuiet_nil ?_
              intro w5 hw'
              obtain ⟨nq, hw''⟩ := hw'
              have hq : Below W1.heap.size W1 w5 := hw'' ▸ nq.h
              clear hw'' nq kc kn
              have HM5 : Hid (SpM wE w5 w g ad cc ra rk L part num (R ++ Y) vC ∧ JW w5 (w.heap.size + 1) (some ⟨jb, 0, none⟩) J) := ⟨HM1.out.1.kept hq, HM1.out.2.kept hq⟩
              go_wp2
              go_roundg (J.length - (m + 1))
              case measure => omega
              case rel =>
                refine ⟨m + 1, Y, by omega, rfl, by go_num, HS3.out.1, fun m' h' hm' j' hj' hc' => ?_, HM5.out.1, HM5.out.2⟩
                by_cases em : m' = m
                · subst em
                  rw [← HQ.out] at hj'
                  simp only at hj'
                  have : j' = j := by omega
                  subst this
                  exact hdone.out
                · exact HS3.out.2 m' h' (by omega) j' hj' hc'
          · have im : ¬ (m : Int) < (J.length : Int) := by omega
            obtain rfl : m = J.length := by omega
            go_wp2
            go_roundg (L.length - (n + 1))
            case measure => omega
            case rel =>
              have hsub : ∀ q ∈ R, q ∈ R ++ Y := fun q hq => List.mem_append_left _ hq
              refine ⟨n + 1, R ++ Y, by rw [List.length_append]; omega, by omega, by go_num, HS3.out.1, fun m hm hmn hmL => ?_, HM.out⟩
              by_cases em : m = n
              · subst em
                have e1 : (R ++ Y)[m] = i := by rw [List.getElem_append_left h1]; exact HIE.out.symm
                simp only [e1]
                refine DoneT.joints (i := i) (List.mem_append_left _ HIR.out) (fun m' hm' j' hj' hc' => ?_)
                have h8 := HS3.out.2
                rw [HJ.out] at h8
                exact h8 m' hm' hm' j' hj' hc'
              · have hmR : m < R.length := by omega
                have e1 : (R ++ Y)[m] = R[m] := List.getElem_append_left hmR
                have h7 := (HSP.out.2 m hmR (by omega) (by rw [← e1]; exact hmL)).mono hsub
                simp only [e1]
                exact h7
    · have i1 : ¬ (n : Int) < (R.length : Int) := by omega
      clear hM hSp hD hrc
      go_wp2
      go_end0
      refine ⟨rfl, R, HSP.out.1, HM.out.1, fun i hi h => ?_, HM.out.2.2.1⟩
      obtain ⟨m, hm, he⟩ := List.getElem_of_mem hi
      subst he
      exact HSP.out.2 m hm (by omega) h
end Go.Proofs.YtmjneoaciopioaaDoor
