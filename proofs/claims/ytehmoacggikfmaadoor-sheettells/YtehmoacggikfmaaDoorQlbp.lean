/- A triangle's joints: the edges, and which triangles lie beyond them. -/
import Derived.Test.YtehmoacggikfmaaDoorQlbm
import Derived.Test.YtehmoacggikfmaaDoorQlbo
namespace Go.Proofs.YtehmoacggikfmaaDoor
open Go.RowKit Go.ChangeMaps

/-- The joints at one edge, of those that have it. -/
def jE (i : Nat) (e : Int × Int × Int × Int) (G : List Int) : List ((Int × Int × Int × Int) × Int) := (G.filter fun j => decide (j ≠ (i : Int))).map fun j => (e, j)
theorem jE_yes {i : Nat} {e : Int × Int × Int × Int} {G : List Int} {m : Nat} (hm : m < G.length) (h : G[m] ≠ (i : Int)) : jE i e (G.take (m + 1)) = jE i e (G.take m) ++ [(e, G[m])] := by
  unfold jE
  rw [List.take_succ_eq_append_getElem hm, List.filter_append, List.map_append]
  simp [h]
theorem jE_no {i : Nat} {e : Int × Int × Int × Int} {G : List Int} {m : Nat} (hm : m < G.length) (h : G[m] = (i : Int)) : jE i e (G.take (m + 1)) = jE i e (G.take m) := by
  unfold jE
  rw [List.take_succ_eq_append_getElem hm, List.filter_append, List.map_append]
  simp [h]
theorem jE_len (i : Nat) (e : Int × Int × Int × Int) (G : List Int) : (jE i e G).length ≤ G.length := by
  unfold jE
  rw [List.length_map]
  exact List.length_filter_le _ _
/-- The joints of triangle i at its first n edges. -/
def jl (L : List (Int × Int × Int)) (t : Int × Int × Int) (i n : Nat) : List ((Int × Int × Int × Int) × Int) := (List.range n).flatMap fun k => jE i (edg t k) (gix L (edg t k))
theorem jl_zero (L : List (Int × Int × Int)) (t : Int × Int × Int) (i : Nat) : jl L t i 0 = [] := by simp [jl]
theorem jl_succ (L : List (Int × Int × Int)) (t : Int × Int × Int) (i n : Nat) : jl L t i (n + 1) = jl L t i n ++ jE i (edg t n) (gix L (edg t n)) := by simp [jl, List.range_succ, List.flatMap_append]
theorem jl_len (L : List (Int × Int × Int)) (t : Int × Int × Int) (i n : Nat) : (jl L t i n).length ≤ n * L.length := by
  induction n with
  | zero => simp [jl]
  | succ n ih =>
    rw [jl_succ, List.length_append, Nat.succ_mul]
    have := jE_len i (edg t n) (gix L (edg t n))
    have := gix_len L (edg t n)
    omega
theorem jl_mem {L : List (Int × Int × Int)} {t : Int × Int × Int} {i n : Nat} {e : Int × Int × Int × Int} {j : Int} : (e, j) ∈ jl L t i n ↔ ∃ k, k < n ∧ e = edg t k ∧ ∃ m : Nat, ∃ h : m < L.length, j = (m : Int) ∧ m ≠ i ∧ hasT L[m] e = true := by
  simp only [jl, jE, List.mem_flatMap, List.mem_range, List.mem_map, List.mem_filter, decide_eq_true_eq, gix_mem]
  constructor
  · rintro ⟨k, hk, a, ⟨⟨m, hm, rfl, ht⟩, hne⟩, he⟩
    simp only [Prod.mk.injEq] at he
    obtain ⟨rfl, rfl⟩ := he
    exact ⟨k, hk, rfl, m, hm, rfl, by omega, ht⟩
  · rintro ⟨k, hk, rfl, m, hm, rfl, hne, ht⟩
    exact ⟨k, hk, (m : Int), ⟨⟨m, hm, rfl, ht⟩, by omega⟩, rfl⟩

/-- Joints, number by number. -/
def flatJ (l : List ((Int × Int × Int × Int) × Int)) : List Value := l.flatMap fun t => [.int .i64 t.1.1, .int .i64 t.1.2.1, .int .i64 t.1.2.2.1, .int .i64 t.1.2.2.2, .int .i64 t.2]
theorem flatJ_add (l m : List ((Int × Int × Int × Int) × Int)) : flatJ (l ++ m) = flatJ l ++ flatJ m := by simp [flatJ, List.flatMap_append]
theorem flatJ_at : ∀ (l : List ((Int × Int × Int × Int) × Int)) (i : Nat) (h : i < l.length), (flatJ l)[i * 5]? = some (.int .i64 l[i].1.1) ∧ (flatJ l)[i * 5 + 1]? = some (.int .i64 l[i].1.2.1) ∧ (flatJ l)[i * 5 + 2]? = some (.int .i64 l[i].1.2.2.1) ∧ (flatJ l)[i * 5 + 3]? = some (.int .i64 l[i].1.2.2.2) ∧ (flatJ l)[i * 5 + 4]? = some (.int .i64 l[i].2)
  | [], i, h => by simp at h
  | t :: l, 0, h => by simp [flatJ]
  | t :: l, i + 1, h => by
    have ih := flatJ_at l i (by simpa using h)
    have e : flatJ (t :: l) = [Value.int .i64 t.1.1, .int .i64 t.1.2.1, .int .i64 t.1.2.2.1, .int .i64 t.1.2.2.2, .int .i64 t.2] ++ flatJ l := by simp [flatJ]
    have q : ∀ o, (flatJ (t :: l))[(i + 1) * 5 + o]? = (flatJ l)[i * 5 + o]? := fun o => by
      rw [e, List.getElem?_append_right (by simp; omega)]
      congr 1
      simp
      omega
    have q0 := q 0
    simp only [Nat.add_zero] at q0
    simp only [List.getElem_cons_succ]
    rw [q0, q 1, q 2, q 3, q 4]
    exact ih
/-- Joints in a row of memory, as a slice has them. -/
def JRow (w : World) (a : Option Addr) (l : List ((Int × Int × Int × Int) × Int)) : Prop := ∀ i (h : i < l.length), ∃ g, a = some ⟨g, 0, none⟩ ∧ w.cell? ⟨g, i * 5, none⟩ = some (.int .i64 l[i].1.1) ∧ w.cell? ⟨g, i * 5 + 1, none⟩ = some (.int .i64 l[i].1.2.1) ∧ w.cell? ⟨g, i * 5 + 2, none⟩ = some (.int .i64 l[i].1.2.2.1) ∧ w.cell? ⟨g, i * 5 + 3, none⟩ = some (.int .i64 l[i].1.2.2.2) ∧ w.cell? ⟨g, i * 5 + 4, none⟩ = some (.int .i64 l[i].2)
theorem JRow.kept {w w' : World} {a : Option Addr} {l : List ((Int × Int × Int × Int) × Int)} (h : JRow w a l) (hb : Below w.heap.size w w') : JRow w' a l := fun i hi => by
  obtain ⟨g, e, h0, h1, h2, h3, h4⟩ := h i hi
  exact ⟨g, e, cl_kept hb h0, cl_kept hb h1, cl_kept hb h2, cl_kept hb h3, cl_kept hb h4⟩
theorem own_joints {w : World} {base : Nat} {v : Value} {l : List ((Int × Int × Int × Int) × Int)} (h : w.ownsRow base 77 5 v l.length (flatJ l)) : ∃ a cap, v = .slice a l.length cap ∧ JRow w a l := by
  rcases h.2 with ⟨rfl, h0⟩ | ⟨g, cap, cur, rfl, _⟩
  · exact ⟨none, 0, by rw [h0], fun i hi => by omega⟩
  · refine ⟨some ⟨g, 0, none⟩, cap, rfl, fun i hi => ⟨g, rfl, ?_⟩⟩
    have f := flatJ_at l i hi
    exact ⟨(h.cellAt _ (by omega)).trans f.1, (h.cellAt _ (by omega)).trans f.2.1, (h.cellAt _ (by omega)).trans f.2.2.1, (h.cellAt _ (by omega)).trans f.2.2.2.1, (h.cellAt _ (by omega)).trans f.2.2.2.2⟩

/-- Joints in a row of memory that is their own. -/
def JW (w : World) (base : Nat) (a : Option Addr) (l : List ((Int × Int × Int × Int) × Int)) : Prop := JRow w a l ∧ ∀ g, a = some ⟨g, 0, none⟩ → base ≤ g ∧ ∃ cur, w.heap[g]? = some (.cells cur 77)
theorem own_jw {w : World} {base : Nat} {v : Value} {l : List ((Int × Int × Int × Int) × Int)} (h : w.ownsRow base 77 5 v l.length (flatJ l)) : ∃ a cap, v = .slice a l.length cap ∧ JW w base a l := by
  obtain ⟨a, cap, e, hr⟩ := own_joints h
  refine ⟨a, cap, e, hr, fun g hg => ?_⟩
  subst e hg
  rcases h.2 with ⟨e1, _⟩ | ⟨b, cap', cur, e1, hb, hc, _⟩
  · simp at e1
  · simp only [Value.slice.injEq, Option.some.injEq, Addr.mk.injEq] at e1
    obtain ⟨⟨rfl, _⟩, _⟩ := e1
    exact ⟨hb, cur, hc⟩
theorem JW.grown {w w' : World} {base : Nat} {a : Option Addr} {l : List ((Int × Int × Int × Int) × Int)} {row : Option Nat} (h : JW w base a l) (hg : w.grownBy w' row) (hne : ∀ g, row = some g → a ≠ some ⟨g, 0, none⟩) : JW w' base a l := by
  refine ⟨fun i hi => ?_, fun g he => ?_⟩
  · obtain ⟨g, e, h0, h1, h2, h3, h4⟩ := h.1 i hi
    have hn : some g ≠ row := fun e1 => hne g e1.symm e
    exact ⟨g, e, hg.cell h0 hn, hg.cell h1 hn, hg.cell h2 hn, hg.cell h3 hn, hg.cell h4 hn⟩
  · obtain ⟨h1, cur, h2⟩ := h.2 g he
    exact ⟨h1, cur, (hg.block g (Array.getElem?_eq_some_iff.1 h2).1 (fun e1 => hne g e1.symm he)).trans h2⟩
theorem JW.kept {w w' : World} {base : Nat} {a : Option Addr} {l : List ((Int × Int × Int × Int) × Int)} (h : JW w base a l) (hb : Below w.heap.size w w') : JW w' base a l := h.grown (bl_grown hb) (by simp)
theorem JW.mono {w : World} {base base' : Nat} {a : Option Addr} {l : List ((Int × Int × Int × Int) × Int)} (h : JW w base a l) (hb : base' ≤ base) : JW w base' a l := ⟨h.1, fun g he => ⟨Nat.le_trans hb (h.2 g he).1, (h.2 g he).2⟩⟩
theorem JW.not_row {w : World} {base b2 n : Nat} {a : Option Addr} {l : List ((Int × Int × Int × Int) × Int)} {v : Value} {xs : List Value} (h : JW w base a l) (ho : w.ownsRow b2 3 1 v n xs) : ∀ g, v.ownBlock = some g → a ≠ some ⟨g, 0, none⟩ := fun g hg ha => by
  obtain ⟨_, cur, h2⟩ := h.2 g ha
  rcases ho.2 with ⟨rfl, _⟩ | ⟨b, cap, cur', rfl, _, hgb, _⟩
  · simp [Value.ownBlock] at hg
  · obtain rfl : b = g := by simpa [Value.ownBlock] using hg
    rw [h2] at hgb
    simp at hgb

/-- An edge's box. -/
def EB (w : World) (B : Nat) (p q r s : Int) : Prop := w.heap[B]? = some (.cells #[.int .i64 p, .int .i64 q, .int .i64 r, .int .i64 s] 46)
theorem EB.cells {w : World} {B : Nat} {p q r s : Int} (h : EB w B p q r s) : w.cell? ⟨B, 0, none⟩ = some (.int .i64 p) ∧ w.cell? ⟨B, 1, none⟩ = some (.int .i64 q) ∧ w.cell? ⟨B, 2, none⟩ = some (.int .i64 r) ∧ w.cell? ⟨B, 3, none⟩ = some (.int .i64 s) := by
  unfold EB at h
  simp [World.cell?, h]
theorem EB.lt {w : World} {B : Nat} {p q r s : Int} (h : EB w B p q r s) : B < w.heap.size := (Array.getElem?_eq_some_iff.1 h).1
theorem EB.grown {w w' : World} {B : Nat} {p q r s : Int} {row : Option Nat} (h : EB w B p q r s) (hg : w.grownBy w' row) (hne : some B ≠ row) : EB w' B p q r s := (hg.block B h.lt hne).trans h
theorem EB.kept {w w' : World} {B : Nat} {p q r s : Int} (h : EB w B p q r s) (hb : Below w.heap.size w w') : EB w' B p q r s := h.grown (bl_grown hb) (by simp)
theorem EB.not_row {w : World} {B base n : Nat} {p q r s : Int} {v : Value} {xs : List Value} (h : EB w B p q r s) (ho : w.ownsRow base 77 5 v n xs) : some B ≠ v.ownBlock := by
  rcases ho.2 with ⟨rfl, _⟩ | ⟨g, cap, cur, rfl, _, hgb, _⟩
  · simp [Value.ownBlock]
  · intro e
    obtain rfl : B = g := by simpa [Value.ownBlock] using e
    unfold EB at h
    rw [h] at hgb
    simp at hgb
/-- A paper's box. -/
def PB (w : World) (B : Nat) (ad : Option Addr) (n cc ra rk : Nat) : Prop := w.cell? ⟨B, 0, none⟩ = some (.slice ad n cc) ∧ w.cell? ⟨B, 1, none⟩ = some (.map (some ra)) ∧ w.cell? ⟨B, 2, none⟩ = some (.map (some rk))
theorem PB.kept {w w' : World} {B n cc ra rk : Nat} {ad : Option Addr} (h : PB w B ad n cc ra rk) (hb : Below w.heap.size w w') : PB w' B ad n cc ra rk := ⟨cl_kept hb h.1, cl_kept hb h.2.1, cl_kept hb h.2.2⟩
/-- What Joints keeps in memory. -/
def JM (w wx : World) (ad : Option Addr) (n cc ra rk : Nat) (J : List ((Int × Int × Int × Int) × Int)) (v : Value) : Prop :=
  wx.ownsRow (w.heap.size + 1) 77 5 v J.length (flatJ J) ∧ Below w.heap.size w wx ∧ PB wx w.heap.size ad n cc ra rk ∧ w.heap.size + 1 ≤ wx.heap.size
theorem JM.kept {w wx w' : World} {ad : Option Addr} {n cc ra rk : Nat} {J : List ((Int × Int × Int × Int) × Int)} {v : Value} (h : JM w wx ad n cc ra rk J v) (hb : Below wx.heap.size wx w') : JM w w' ad n cc ra rk J v :=
  ⟨own_below h.1 hb, bl_via h.2.1 hb, h.2.2.1.kept hb, Nat.le_trans h.2.2.2 hb.size⟩
theorem JM.more {w wx w2 w3 : World} {ad : Option Addr} {n cc ra rk : Nat} {J : List ((Int × Int × Int × Int) × Int)} {v v' : Value} {e : Int × Int × Int × Int} {j : Int} (h : JM w wx ad n cc ra rk J v) (hb : Below wx.heap.size wx w2) (hg : w2.grownBy w3 v.ownBlock) (hown : w3.ownsRow (w.heap.size + 1) 77 5 v' (J.length + 1) (flatJ J ++ [.int .i64 e.1, .int .i64 e.2.1, .int .i64 e.2.2.1, .int .i64 e.2.2.2, .int .i64 j])) : JM w w3 ad n cc ra rk (J ++ [(e, j)]) v' := by
  have h' := h.kept hb
  have hgb := Below.grown (Below.refl (w.heap.size + 1) w2) hg h'.2.2.2 (own_base h'.1)
  have q := hgb.size
  refine ⟨?_, h'.2.1.trans (hgb.mono (by omega)), ⟨?_, ?_, ?_⟩, by have := h'.2.2.2; omega⟩
  · rw [flatJ_add, List.length_append]
    simpa [flatJ] using hown
  · exact (hgb.cell (p := ⟨w.heap.size, 0, none⟩) (by dsimp only; omega)).trans h'.2.2.1.1
  · exact (hgb.cell (p := ⟨w.heap.size, 1, none⟩) (by dsimp only; omega)).trans h'.2.2.1.2.1
  · exact (hgb.cell (p := ⟨w.heap.size, 2, none⟩) (by dsimp only; omega)).trans h'.2.2.1.2.2
theorem infJ : (Tryd.prog.info? 77).map (fun i => (i.zero, i.size, i.bytes)) = some (some (.agg #[.int .i64 0, .int .i64 0, .int .i64 0, .int .i64 0, .int .i64 0]), 5, 40) := by kernel_rfl
theorem cell_five_new (w : World) (T : TypeId) (a b c d e : Int) : ∀ j u, ([Value.int .i64 a, .int .i64 b, .int .i64 c, .int .i64 d, .int .i64 e])[j]? = some u → (w.alloc (.cells #[.int .i64 a, .int .i64 b, .int .i64 c, .int .i64 d, .int .i64 e] T)).cell? ((⟨w.heap.size, 0, none⟩ : Addr).add j) = some u := by
  intro j u hu
  match j, hu with
  | 0, hu => simp at hu; subst hu; simp [go_sem, Addr.add]
  | 1, hu => simp at hu; subst hu; simp [go_sem, Addr.add]
  | 2, hu => simp at hu; subst hu; simp [go_sem, Addr.add]
  | 3, hu => simp at hu; subst hu; simp [go_sem, Addr.add]
  | 4, hu => simp at hu; subst hu; simp [go_sem, Addr.add]

set_option maxRecDepth 100000 in
set_option maxHeartbeats 6400000 in
theorem joints_any (w : World) (cc ra rk i : Nat) (ad : Option Addr) (L : List (Int × Int × Int)) (x y k : Int) (hs : Steps w) (hPA : PA w ad ra L) (hi : i < L.length) (ht : (x, y, k) = L[i]) (hL : L.length ≤ 300) (hbd : (0 ≤ x ∧ x ≤ 8) ∧ (0 ≤ y ∧ y ≤ 8) ∧ (0 ≤ k ∧ k ≤ 3)) :
    Calls Tryd.prog 59 #[.agg #[.slice ad L.length cc, .map (some ra), .map (some rk)], .int .i64 (i : Int)] w fun e w' => ∃ v, e = .returned v ∧ w'.ownsRow (w.heap.size + 1) 77 5 v (jl L (x, y, k) i 3).length (flatJ (jl L (x, y, k) i 3)) ∧ Below w.heap.size w w' := by
  have HST : Hid (Steps w) := hs
  have HPA : Hid (PA w ad ra L) := hPA
  obtain ⟨i5, hi5, hz0, hz1, hz2⟩ := info_parts infJ
  have HI : Hid (Tryd.prog.info? 77 = some i5 ∧ i5.zero = some (.agg #[.int .i64 0, .int .i64 0, .int .i64 0, .int .i64 0, .int .i64 0]) ∧ i5.size = 5 ∧ i5.bytes = 40) := ⟨hi5, hz0, hz1, hz2⟩
  obtain ⟨tg, rfl, t0, t1, t2⟩ := hPA.1 i hi
  rw [← ht] at t0 t1 t2
  dsimp only at t0 t1 t2
  have zt : tg < w.heap.size := World.block_lt_of_cell? _ _ t0
  have htri : triB x y k = true := by simp [triB]; omega
  have HTRI : Hid (triB x y k = true) := htri
  have j1 : (i : Int) < (L.length : Int) := by omega
  have j0 : (0 : Int) ≤ (i : Int) := by omega
  clear hs hPA hi5 hz0 hz1 hz2 htri hbd ht
  go_enter Tryd.func59, Tryd.ntmps59
  go_wp2_with (go_at_call 47; refine (paperEdges_any _ _ _ _ HTRI.out (HST.out.kept (by with_reducible exact bl_alloc (bl_refl _)))).mono ?_; rintro e wq ⟨rfl, hb⟩; have hJ0 : JM w wq (some ⟨tg, 0, none⟩) L.length cc ra rk [] (.slice none 0 0) := ⟨by simpa [flatJ] using World.ownsRow_nil _ _ _ _, bl_via (bl_alloc (bl_refl _)) hb, PB.kept (by simp [PB, go_sem]) hb, by have := hb.size; simp at this; omega⟩; have HQ : Hid (JM w wq (some ⟨tg, 0, none⟩) L.length cc ra rk [] (.slice none 0 0)) := hJ0; clear hb hJ0 t0 t1 t2 zt)
  go_loopg [5, 16] 3 (fun gk s5 s16 wx => ∃ e : Nat, e ≤ 3 ∧ gk = 3 - e ∧ s16 = .int .i64 (e : Int) ∧ JM w wx (some ⟨tg, 0, none⟩) L.length cc ra rk (jl L (x, y, k) i e) s5)
  case atStart => exact ⟨0, by omega, rfl, rfl, by rw [jl_zero]; exact HQ.out⟩
  case round =>
    clear HQ
    obtain ⟨e, he, rfl, rfl, hM⟩ := hrel
    obtain ⟨vA, hvA⟩ : ∃ u, u = u5 := ⟨_, rfl⟩
    subst hvA
    have HM : Hid (JM w wr (some ⟨tg, 0, none⟩) L.length cc ra rk (jl L (x, y, k) i e) vA) := hM
    obtain ⟨p0, p1, p2⟩ := hM.2.2.1
    have zp : w.heap.size < wr.heap.size := World.block_lt_of_cell? _ _ p0
    have zp1 : w.heap.size < wr.heap.size + 1 := by omega
    clear hM
    by_cases he1 : e < 3
    · have ie : (e : Int) < 3 := by omega
      obtain ⟨q0, q1, q2, q3, hq⟩ : ∃ q0 q1 q2 q3, edg (x, y, k) e = (q0, q1, q2, q3) := ⟨_, _, _, _, rfl⟩
      have hx : (Instr.index 92 (.agg #[.int .i64 (ue0 x y k), .int .i64 (ue1 x y k), .int .i64 (ue2 x y k), .int .i64 (ue3 x y k), .int .i64 (ue4 x y k), .int .i64 (ue5 x y k), .int .i64 (ue6 x y k), .int .i64 (ue7 x y k), .int .i64 (ue8 x y k), .int .i64 (ue9 x y k), .int .i64 (ue10 x y k), .int .i64 (ue11 x y k)]) (.int .i64 (e : Int))).run Tryd.prog wr = .ok (.agg #[.int .i64 q0, .int .i64 q1, .int .i64 q2, .int .i64 q3]) wr := by
        obtain ⟨a0, a1, a2⟩ := idx32 (ue0 x y k) (ue1 x y k) (ue2 x y k) (ue3 x y k) (ue4 x y k) (ue5 x y k) (ue6 x y k) (ue7 x y k) (ue8 x y k) (ue9 x y k) (ue10 x y k) (ue11 x y k) wr
        have h3 : e = 0 ∨ e = 1 ∨ e = 2 := by omega
        rcases h3 with rfl | rfl | rfl
        · simp only [edg, if_true, Prod.mk.injEq] at hq
          obtain ⟨rfl, rfl, rfl, rfl⟩ := hq
          exact a0
        · simp only [edg, if_true, if_false, Nat.one_ne_zero, Prod.mk.injEq] at hq
          obtain ⟨rfl, rfl, rfl, rfl⟩ := hq
          exact a1
        · simp only [edg, if_false, show ¬ (2 : Nat) = 0 by omega, show ¬ (2 : Nat) = 1 by omega, Prod.mk.injEq] at hq
          obtain ⟨rfl, rfl, rfl, rfl⟩ := hq
          exact a2
      have HQ : Hid (edg (x, y, k) e = (q0, q1, q2, q3)) := hq
      clear hq
      obtain ⟨ga, gc, hgr, hlook⟩ := HPA.out.2 (q0, q1, q2, q3)
      have HGR : Hid (Row w ga (gix L (q0, q1, q2, q3))) := hgr
      have HEB : Hid (EB (wr.alloc (.cells #[.int .i64 q0, .int .i64 q1, .int .i64 q2, .int .i64 q3] 46)) wr.heap.size q0 q1 q2 q3) := by
        have : EB (wr.alloc (.cells #[.int .i64 q0, .int .i64 q1, .int .i64 q2, .int .i64 q3] 46)) wr.heap.size q0 q1 q2 q3 := heap_alloc_new wr _
        exact this
      have lk5 : (Instr.lookup 37 (.map (some ra)) (.agg #[.int .i64 q0, .int .i64 q1, .int .i64 q2, .int .i64 q3]) false).run Tryd.prog (wr.alloc (.cells #[.int .i64 q0, .int .i64 q1, .int .i64 q2, .int .i64 q3] 46)) = .ok (.slice ga (gix L (q0, q1, q2, q3)).length gc) (wr.alloc (.cells #[.int .i64 q0, .int .i64 q1, .int .i64 q2, .int .i64 q3] 46)) := hlook _ (bl_alloc HM.out.2.1)
      have HM2 : Hid (JM w (wr.alloc (.cells #[.int .i64 q0, .int .i64 q1, .int .i64 q2, .int .i64 q3] 46)) (some ⟨tg, 0, none⟩) L.length cc ra rk (jl L (x, y, k) i e) vA) := HM.out.kept (bl_alloc (bl_refl _))
      obtain ⟨eb, heb⟩ : ∃ b, b = wr.heap.size := ⟨_, rfl⟩
      clear hgr hlook
      go_wp2
      obtain ⟨G, hG⟩ : ∃ G, G = gix L (q0, q1, q2, q3) := ⟨_, rfl⟩
      have HG : Hid (G = gix L (q0, q1, q2, q3)) := hG
      rw [← hG] at HGR
      have hGl : G.length ≤ 300 := by rw [hG]; exact Nat.le_trans (gix_len _ _) hL
      rw [← hG]
      rw [← heb] at HEB ⊢
      clear hG lk5 hx heb
      go_loopg [5, 24] G.length (fun gk s5 s24 wx => ∃ m : Nat, m ≤ G.length ∧ gk = G.length - m ∧ s24 = .int .i64 (m : Int) ∧ JM w wx (some ⟨tg, 0, none⟩) L.length cc ra rk (jl L (x, y, k) i e ++ jE i (q0, q1, q2, q3) (G.take m)) s5 ∧ EB wx eb q0 q1 q2 q3)
      case atStart => exact ⟨0, by omega, rfl, rfl, by simpa [jE] using HM2.out, HEB.out⟩
      case round =>
        clear HM HM2 HEB p0 p1 p2 zp zp1
        obtain ⟨m, hm, rfl, rfl, hM, hE⟩ := hrel
        obtain ⟨vB, hvB⟩ : ∃ u, u = u5 := ⟨_, rfl⟩
        subst hvB
        have HM : Hid (JM w wr (some ⟨tg, 0, none⟩) L.length cc ra rk (jl L (x, y, k) i e ++ jE i (q0, q1, q2, q3) (G.take m)) vB) := hM
        have HE : Hid (EB wr eb q0 q1 q2 q3) := hE
        obtain ⟨d0, d1, d2, d3⟩ := hE.cells
        have zd : eb < wr.heap.size := hE.lt
        clear hM hE
        by_cases hm1 : m < G.length
        · have im : (m : Int) < (G.length : Int) := by omega
          have im0 : (0 : Int) ≤ (m : Int) := by omega
          obtain ⟨gb, go, rfl, gcell⟩ := (HGR.out.kept HM.out.2.1) m hm1
          have zgb : gb < wr.heap.size := World.block_lt_of_cell? _ _ gcell
          obtain ⟨j, hj⟩ : ∃ j, j = G[m] := ⟨_, rfl⟩
          rw [← hj] at gcell
          have HJ : Hid (j = G[m]) := hj
          clear hj
          by_cases hne : j = (i : Int)
          · subst hne
            go_wp2
            go_roundg (G.length - (m + 1))
            case measure => omega
            case rel => exact ⟨m + 1, by omega, rfl, by go_num, by rw [jE_no hm1 HJ.out.symm]; exact HM.out, HE.out⟩
          · have hlen : (jl L (x, y, k) i e ++ jE i (q0, q1, q2, q3) (G.take m)).length + 1 ≤ 2000 := by
              have a1 := jl_len L (x, y, k) i e
              have a2 := jE_len i (q0, q1, q2, q3) (G.take m)
              have a3 : e * L.length ≤ 3 * 300 := Nat.mul_le_mul he hL
              rw [List.length_append]
              simp only [List.length_take] at a2
              omega
            go_wp2_with (at_builtin; refine wpList_append_own _ rfl (.tmp 31) (.tmp 35) 110 rfl (w.heap.size + 1) 77 i5 (.agg #[.int .i64 0, .int .i64 0, .int .i64 0, .int .i64 0, .int .i64 0]) 5 40 Tryd.underlying110 HI.out.1 HI.out.2.1 HI.out.2.2.1 HI.out.2.2.2 rfl (by decide) vB (jl L (x, y, k) i e ++ jE i (q0, q1, q2, q3) (G.take m)).length (flatJ (jl L (x, y, k) i e ++ jE i (q0, q1, q2, q3) (G.take m))) rfl ?own ⟨wr.heap.size, 0, none⟩ 1 1 [.int .i64 q0, .int .i64 q1, .int .i64 q2, .int .i64 q3, .int .i64 j] rfl rfl ?c1 ?c2 ?b1 ?b2 ?b3 ?grow)
            case own => exact own_below HM.out.1 (bl_alloc (bl_refl _))
            case c1 => exact cell_five_new _ _ _ _ _ _ _
            case c2 =>
              intro u hu
              simp at hu
              rcases hu with rfl | rfl | rfl | rfl | rfl <;> rfl
            case b1 =>
              unfold maxLen
              omega
            case b2 => omega
            case b3 =>
              have := HM.out.2.2.2
              simp
              omega
            case grow =>
              intro v' w3 hown hgrow hnil
              rw [← List.length_append] at hown
              have HM3 : Hid (JM w w3 (some ⟨tg, 0, none⟩) L.length cc ra rk (jl L (x, y, k) i e ++ jE i (q0, q1, q2, q3) (G.take (m + 1))) v') := by
                have h1 := HM.out.more (e := (q0, q1, q2, q3)) (j := j) (bl_alloc (bl_refl _)) hgrow hown
                rw [jE_yes hm1 (by rw [← HJ.out]; exact hne), ← HJ.out, ← List.append_assoc]
                exact h1
              have HE3 : Hid (EB w3 eb q0 q1 q2 q3) := by
                have h1 : EB w3 eb q0 q1 q2 q3 := (HE.out.kept (bl_alloc (bl_refl _))).grown hgrow (HE.out.not_row HM.out.1)
                exact h1
              clear hown hgrow hnil
              go_wp2
              go_roundg (G.length - (m + 1))
              case measure => omega
              case rel => exact ⟨m + 1, by omega, rfl, by go_num, HM3.out, HE3.out⟩
        · have im : ¬ (m : Int) < (G.length : Int) := by omega
          obtain rfl : m = G.length := by omega
          go_wp2
          go_roundg (3 - (e + 1))
          case measure => omega
          case rel =>
            refine ⟨e + 1, by omega, rfl, by go_num, ?_⟩
            have h1 := HM.out
            rw [List.take_length, HG.out] at h1
            rw [jl_succ, HQ.out]
            exact h1
    · have ie : ¬ (e : Int) < 3 := by omega
      obtain rfl : e = 3 := by omega
      go_wp2
      go_ret
      exact ⟨vA, rfl, HM.out.1, HM.out.2.1⟩
end Go.Proofs.YtehmoacggikfmaaDoor
