/- A part of the proof of viewTells_holds. -/
import Derived.Test.YtnpboeodhpenmaaGreatDoorQlbh
import Derived.Test.YtnpboeodhpenmaaGreatDoorQlay
import Derived.Test.YtnpboeodhpenmaaGreatDoorQlap
import Derived.Test.YtnpboeodhpenmaaGreatDoorQlae
namespace Go.Proofs.YtnpboeodhpenmaaGreatDoor
open Go.RowKit

/-- The places of the first so many triangles. -/
def pls (L : List (Int × Int × Int)) (M : Nat → M6) (n : Nat) : List (Int × Int × Int) := (List.range n).map fun i => mvt (M i) (L.getD i (0, 0, 0))
theorem pls_len (L : List (Int × Int × Int)) (M : Nat → M6) (n : Nat) : (pls L M n).length = n := by simp [pls]
theorem pls_succ (L : List (Int × Int × Int)) (M : Nat → M6) (n : Nat) : pls L M (n + 1) = pls L M n ++ [mvt (M n) (L.getD n (0, 0, 0))] := by
  unfold pls
  rw [List.range_succ, List.map_append]
  rfl
/-- The pile while its places are told. -/
structure SpB (w0 wx : World) (B : Nat) (ad : Option Addr) (n cc ra rk gm cm : Nat) (v : Value) (l : List (Int × Int × Int)) : Prop where
  c0 : wx.cell? ⟨B, 0, none⟩ = some (.slice ad n cc)
  c1 : wx.cell? ⟨B, 1, none⟩ = some (.map (some ra))
  c2 : wx.cell? ⟨B, 2, none⟩ = some (.map (some rk))
  c3 : wx.cell? ⟨B, 3, none⟩ = some (.slice (some ⟨gm, 0, none⟩) n cm)
  c4 : wx.cell? ⟨B, 4, none⟩ = some v
  f4 : wx.frozen? ⟨B, 4, none⟩ = false
  own : wx.ownsRow (B + 1) 51 3 v l.length (flatV l)
  low : w0.heap.size ≤ B
  bel : Below w0.heap.size w0 wx
theorem SpB.lt {w0 wx : World} {B : Nat} {ad : Option Addr} {n cc ra rk gm cm : Nat} {v : Value} {l : List (Int × Int × Int)} (h : SpB w0 wx B ad n cc ra rk gm cm v l) : B < wx.heap.size := World.block_lt_of_cell? _ _ h.c0
theorem SpB.kept {w0 wx w' : World} {B : Nat} {ad : Option Addr} {n cc ra rk gm cm : Nat} {v : Value} {l : List (Int × Int × Int)} (h : SpB w0 wx B ad n cc ra rk gm cm v l) (hb : Below wx.heap.size wx w') : SpB w0 w' B ad n cc ra rk gm cm v l :=
  ⟨cl_kept hb h.c0, cl_kept hb h.c1, cl_kept hb h.c2, cl_kept hb h.c3, cl_kept hb h.c4, (hb.frozen h.lt).trans h.f4, own_below h.own hb, h.low, bl_via h.bel hb⟩
theorem SpB.more {w0 wx w2 : World} {B : Nat} {ad : Option Addr} {n cc ra rk gm cm : Nat} {v v' : Value} {l : List (Int × Int × Int)} {t : Int × Int × Int} (h : SpB w0 wx B ad n cc ra rk gm cm v l) (hg : wx.grownBy w2 v.ownBlock) (ho : w2.ownsRow (B + 1) 51 3 v' (l.length + 1) (flatV l ++ [.int .i64 t.1, .int .i64 t.2.1, .int .i64 t.2.2])) : SpB w0 (w2.setCell ⟨B, 4, none⟩ v') B ad n cc ra rk gm cm v' (l ++ [t]) := by
  have hn : some B ≠ v.ownBlock := fun e => by
    have := own_base h.own B e.symm
    omega
  have hn' : v'.ownBlock ≠ some B := fun e => by
    have := own_base ho B e
    omega
  have g1 := h.bel.grown hg h.bel.size (fun k hk => by have := own_base h.own k hk; have := h.low; omega)
  have hlt2 : B < w2.heap.size := Nat.lt_of_lt_of_le h.lt hg.size
  have c4 := hg.cell h.c4 hn
  have f4 : w2.frozen? ⟨B, 4, none⟩ = false := (World.frozen?_of_block (a := ⟨B, 4, none⟩) (hg.block B h.lt hn)).trans h.f4
  refine ⟨st_else (hg.cell h.c0 hn) (by omega), st_else (hg.cell h.c1 hn) (by omega), st_else (hg.cell h.c2 hn) (by omega), st_else (hg.cell h.c3 hn) (by omega), st_same c4, ?_, ?_, h.low, ?_⟩
  · simp [go_sem, f4]
  · rw [flatV_add, List.length_append, List.length_singleton]
    exact ho.kept (grown_cell w2 B 4 v') (Or.inr hn')
  · exact g1.setCell (p := ⟨B, 4, none⟩) h.low _
theorem TRow.far {w : World} {pa : Option Addr} {l : List (Int × Int × Int)} {p : Addr} {u : Value} (h : TRow w pa l) (hn : ∀ g, pa = some ⟨g, 0, none⟩ → g ≠ p.block) : TRow (w.setCell p u) pa l := fun i hi => by
  obtain ⟨g, e, c0, c1, c2⟩ := h i hi
  exact ⟨g, e, st_far c0 (hn g e), st_far c1 (hn g e), st_far c2 (hn g e)⟩
theorem TRow.dr {w : World} {pa : Option Addr} {l : List (Int × Int × Int)} (h : TRow w pa l) : TRow w.drew pa l := fun i hi => by
  obtain ⟨g, e, c0, c1, c2⟩ := h i hi
  exact ⟨g, e, dr_old c0, dr_old c1, dr_old c2⟩
theorem fresh3_a {v w8 : World} {g : Nat} (hg : v.heap.size = g) (hb : Below ((v.alloc (.cells #[.int .i64 0, .int .i64 0, .int .i64 0] 51))).heap.size ((v.alloc (.cells #[.int .i64 0, .int .i64 0, .int .i64 0] 51))) w8) : (w8.cell? ⟨g, 0, none⟩ = some (.int .i64 0) ∧ w8.cell? ⟨g, 1, none⟩ = some (.int .i64 0) ∧ w8.cell? ⟨g, 2, none⟩ = some (.int .i64 0)) ∧ (w8.frozen? ⟨g, 0, none⟩ = false ∧ w8.frozen? ⟨g, 1, none⟩ = false ∧ w8.frozen? ⟨g, 2, none⟩ = false) ∧ g < w8.heap.size := by
  subst hg
  have c0 : w8.cell? ⟨v.heap.size, 0, none⟩ = some (.int .i64 0) := cl_kept hb (by simp [go_sem])
  refine ⟨⟨c0, cl_kept hb (by simp [go_sem]), cl_kept hb (by simp [go_sem])⟩, ⟨?_, ?_, ?_⟩, World.block_lt_of_cell? _ _ c0⟩
  all_goals exact (hb.frozen (by simp)).trans (by simp [go_sem])
theorem fresh3_d {v w8 : World} {g : Nat} (hg : v.heap.size = g) (hb : Below ((v.alloc (.cells #[.int .i64 0, .int .i64 0, .int .i64 0] 51)).drew).heap.size ((v.alloc (.cells #[.int .i64 0, .int .i64 0, .int .i64 0] 51)).drew) w8) : (w8.cell? ⟨g, 0, none⟩ = some (.int .i64 0) ∧ w8.cell? ⟨g, 1, none⟩ = some (.int .i64 0) ∧ w8.cell? ⟨g, 2, none⟩ = some (.int .i64 0)) ∧ (w8.frozen? ⟨g, 0, none⟩ = false ∧ w8.frozen? ⟨g, 1, none⟩ = false ∧ w8.frozen? ⟨g, 2, none⟩ = false) ∧ g < w8.heap.size := by
  subst hg
  have c0 : w8.cell? ⟨v.heap.size, 0, none⟩ = some (.int .i64 0) := cl_kept hb (by simp [go_sem])
  refine ⟨⟨c0, cl_kept hb (by simp [go_sem]), cl_kept hb (by simp [go_sem])⟩, ⟨?_, ?_, ?_⟩, World.block_lt_of_cell? _ _ c0⟩
  all_goals exact (hb.frozen (by simp)).trans (by simp [go_sem])
theorem fresh3_dd {v w8 : World} {g : Nat} (hg : v.heap.size = g) (hb : Below ((v.alloc (.cells #[.int .i64 0, .int .i64 0, .int .i64 0] 51)).drew.drew).heap.size ((v.alloc (.cells #[.int .i64 0, .int .i64 0, .int .i64 0] 51)).drew.drew) w8) : (w8.cell? ⟨g, 0, none⟩ = some (.int .i64 0) ∧ w8.cell? ⟨g, 1, none⟩ = some (.int .i64 0) ∧ w8.cell? ⟨g, 2, none⟩ = some (.int .i64 0)) ∧ (w8.frozen? ⟨g, 0, none⟩ = false ∧ w8.frozen? ⟨g, 1, none⟩ = false ∧ w8.frozen? ⟨g, 2, none⟩ = false) ∧ g < w8.heap.size := by
  subst hg
  have c0 : w8.cell? ⟨v.heap.size, 0, none⟩ = some (.int .i64 0) := cl_kept hb (by simp [go_sem])
  refine ⟨⟨c0, cl_kept hb (by simp [go_sem]), cl_kept hb (by simp [go_sem])⟩, ⟨?_, ?_, ?_⟩, World.block_lt_of_cell? _ _ c0⟩
  all_goals exact (hb.frozen (by simp)).trans (by simp [go_sem])

def rowS (R : List ((Int × Int × Int) × Value)) : List Value := R.flatMap fun s => [.int .i64 s.1.1, .int .i64 s.1.2.1, .int .i64 s.1.2.2, s.2]
theorem rowS_add (l m : List ((Int × Int × Int) × Value)) : rowS (l ++ m) = rowS l ++ rowS m := by simp [rowS]
theorem rowS_len (R : List ((Int × Int × Int) × Value)) : (rowS R).length = R.length * 4 := by
  induction R with
  | nil => rfl
  | cons s r ih =>
    have : rowS (s :: r) = [Value.int .i64 s.1.1, .int .i64 s.1.2.1, .int .i64 s.1.2.2, s.2] ++ rowS r := by simp [rowS]
    rw [this, List.length_append, ih]
    simp
    omega
theorem rowS_at : ∀ (R : List ((Int × Int × Int) × Value)) (i : Nat) (h : i < R.length), (rowS R)[i * 4]? = some (.int .i64 R[i].1.1) ∧ (rowS R)[i * 4 + 1]? = some (.int .i64 R[i].1.2.1) ∧ (rowS R)[i * 4 + 2]? = some (.int .i64 R[i].1.2.2) ∧ (rowS R)[i * 4 + 3]? = some R[i].2
  | s :: r, 0, _ => by simp [rowS]
  | s :: r, i + 1, h => by
    have ih := rowS_at r i (by simpa using h)
    have e : rowS (s :: r) = [Value.int .i64 s.1.1, .int .i64 s.1.2.1, .int .i64 s.1.2.2, s.2] ++ rowS r := by simp [rowS]
    have f : ∀ k, (rowS (s :: r))[(i + 1) * 4 + k]? = (rowS r)[i * 4 + k]? := fun k => by
      rw [e, List.getElem?_append_right (by simp; omega)]
      congr 1
      simp
      omega
    have f0 := f 0
    rw [Nat.add_zero, Nat.add_zero] at f0
    simp only [List.getElem_cons_succ]
    exact ⟨f0.trans ih.1, (f 1).trans ih.2.1, (f 2).trans ih.2.2.1, (f 3).trans ih.2.2.2⟩
/-- A slice with these triangles. -/
def TrisAt (w : World) (v : Value) (l : List (Int × Int × Int)) : Prop := ∃ a c, v = .slice a l.length c ∧ TRow w a l
theorem TrisAt.kept {w w' : World} {v : Value} {l : List (Int × Int × Int)} (h : TrisAt w v l) (hb : Below w.heap.size w w') : TrisAt w' v l := by
  obtain ⟨a, c, e, ht⟩ := h
  exact ⟨a, c, e, ht.kept hb⟩
theorem TRow.grownN {w w' : World} {pa : Option Addr} {l : List (Int × Int × Int)} {row : Option Nat} (h : TRow w pa l) (hg : w.grownBy w' row) (hn : ∀ g, pa = some ⟨g, 0, none⟩ → some g ≠ row) : TRow w' pa l := fun i hi => by
  obtain ⟨g, e, c0, c1, c2⟩ := h i hi
  have hne := hn g e
  exact ⟨g, e, hg.cell c0 hne, hg.cell c1 hne, hg.cell c2 hne⟩
theorem TrisAt.grown {w w' : World} {v : Value} {l : List (Int × Int × Int)} {row : Option Nat} (h : TrisAt w v l) (hg : w.grownBy w' row) (hn : ∀ g, v.ownBlock = some g → some g ≠ row) : TrisAt w' v l := by
  obtain ⟨a, c, rfl, ht⟩ := h
  exact ⟨a, c, rfl, ht.grownN hg fun g e => hn g (by rw [e]; rfl)⟩
/-- The state that is heaped: its box, its row of stacks, what they hold. -/
structure HSt (w0 wx : World) (B : Nat) (p0 p1 p2 p3 p4 v : Value) (R : List ((Int × Int × Int) × Value)) (S : List ((Int × Int × Int) × List (Int × Int × Int))) : Prop where
  c0 : wx.cell? ⟨B, 0, none⟩ = some p0
  c1 : wx.cell? ⟨B, 1, none⟩ = some p1
  c2 : wx.cell? ⟨B, 2, none⟩ = some p2
  c3 : wx.cell? ⟨B, 3, none⟩ = some p3
  c4 : wx.cell? ⟨B, 4, none⟩ = some p4
  c5 : wx.cell? ⟨B, 5, none⟩ = some v
  f5 : wx.frozen? ⟨B, 5, none⟩ = false
  own : wx.ownsRow (B + 1) 107 4 v R.length (rowS R)
  apart : ∀ s ∈ R, ∀ g, s.2.ownBlock = some g → B < g ∧ g < wx.heap.size ∧ v.ownBlock ≠ some g
  len : R.length = S.length
  hold : ∀ i (h : i < R.length) (h' : i < S.length), R[i].1 = S[i].1 ∧ TrisAt wx R[i].2 S[i].2
  low : w0.heap.size ≤ B
  bel : Below w0.heap.size w0 wx
theorem HSt.lt {w0 wx : World} {B : Nat} {p0 p1 p2 p3 p4 v : Value} {R : List ((Int × Int × Int) × Value)} {S : List ((Int × Int × Int) × List (Int × Int × Int))} (h : HSt w0 wx B p0 p1 p2 p3 p4 v R S) : B < wx.heap.size := World.block_lt_of_cell? _ _ h.c0
theorem HSt.kept {w0 wx w' : World} {B : Nat} {p0 p1 p2 p3 p4 v : Value} {R : List ((Int × Int × Int) × Value)} {S : List ((Int × Int × Int) × List (Int × Int × Int))} (h : HSt w0 wx B p0 p1 p2 p3 p4 v R S) (hb : Below wx.heap.size wx w') : HSt w0 w' B p0 p1 p2 p3 p4 v R S :=
  ⟨cl_kept hb h.c0, cl_kept hb h.c1, cl_kept hb h.c2, cl_kept hb h.c3, cl_kept hb h.c4, cl_kept hb h.c5, (hb.frozen h.lt).trans h.f5, own_below h.own hb, fun s hs g hg => by
    have := h.apart s hs g hg
    exact ⟨this.1, Nat.lt_of_lt_of_le this.2.1 hb.size, this.2.2⟩, h.len, fun i hi hi' => ⟨(h.hold i hi hi').1, (h.hold i hi hi').2.kept hb⟩, h.low, bl_via h.bel hb⟩

/-- Maps, number by number. -/
def flatM (M : Nat → M6) (n : Nat) : List Value := (List.range n).flatMap fun i => [.int .i64 (M i).1, .int .i64 (M i).2.1, .int .i64 (M i).2.2.1, .int .i64 (M i).2.2.2.1, .int .i64 (M i).2.2.2.2.1, .int .i64 (M i).2.2.2.2.2]
theorem flatM_succ (M : Nat → M6) (n : Nat) : flatM M (n + 1) = flatM M n ++ [.int .i64 (M n).1, .int .i64 (M n).2.1, .int .i64 (M n).2.2.1, .int .i64 (M n).2.2.2.1, .int .i64 (M n).2.2.2.2.1, .int .i64 (M n).2.2.2.2.2] := by
  unfold flatM
  rw [List.range_succ, List.flatMap_append]
  simp
theorem flatM_len (M : Nat → M6) : ∀ n, (flatM M n).length = n * 6
  | 0 => rfl
  | n + 1 => by
    rw [flatM_succ, List.length_append, flatM_len M n]
    simp
    omega
theorem flatM_at (M : Nat → M6) : ∀ (n i : Nat), i < n → (flatM M n)[i * 6]? = some (.int .i64 (M i).1) ∧ (flatM M n)[i * 6 + 1]? = some (.int .i64 (M i).2.1) ∧ (flatM M n)[i * 6 + 2]? = some (.int .i64 (M i).2.2.1) ∧ (flatM M n)[i * 6 + 3]? = some (.int .i64 (M i).2.2.2.1) ∧ (flatM M n)[i * 6 + 4]? = some (.int .i64 (M i).2.2.2.2.1) ∧ (flatM M n)[i * 6 + 5]? = some (.int .i64 (M i).2.2.2.2.2)
  | 0, i, h => by omega
  | n + 1, i, h => by
    have hl := flatM_len M n
    rw [flatM_succ]
    by_cases e : i = n
    · subst e
      refine ⟨?_, ?_, ?_, ?_, ?_, ?_⟩
      all_goals
        rw [List.getElem?_append_right (by omega)]
        simp [hl]
    · obtain ⟨h0, h1, h2, h3, h4, h5⟩ := flatM_at M n i (by omega)
      refine ⟨?_, ?_, ?_, ?_, ?_, ?_⟩
      all_goals
        rw [List.getElem?_append_left (by omega)]
        assumption
theorem own_maps {w : World} {base g n c : Nat} {M : Nat → M6} (h : w.ownsRow base 91 6 (.slice (some ⟨g, 0, none⟩) n c) n (flatM M n)) : MRow w g n M := fun i hi => by
  obtain ⟨f0, f1, f2, f3, f4, f5⟩ := flatM_at M n i hi
  exact ⟨⟨(h.cellAt _ (by omega)).trans f0, (h.cellAt _ (by omega)).trans f1, (h.cellAt _ (by omega)).trans f2, (h.cellAt _ (by omega)).trans f3, (h.cellAt _ (by omega)).trans f4, (h.cellAt _ (by omega)).trans f5⟩, h.frozenAt _, h.frozenAt _, h.frozenAt _, h.frozenAt _, h.frozenAt _, h.frozenAt _⟩
end Go.Proofs.YtnpboeodhpenmaaGreatDoor
namespace Go.Proofs.YtnpboeodhpenmaaGreatDoor
open Go.RowKit Go.ChangeMaps

theorem own_sliceW {w : World} {base e k n : Nat} {v : Value} {xs : List Value} (h : w.ownsRow base e k v n xs) (hn : 0 < n) : ∃ g q, v = .slice (some ⟨g, 0, none⟩) n q := by
  rcases h.2 with ⟨_, h0⟩ | ⟨g, cap, cur, hv, _⟩
  · omega
  · exact ⟨g, cap, hv⟩
theorem own_any {w : World} {base e k n : Nat} {v : Value} {xs : List Value} (h : w.ownsRow base e k v n xs) : ∃ a c, v = .slice a n c := by
  rcases h.2 with ⟨e1, e2⟩ | ⟨g, cap, cur, hv, _⟩
  · subst e2
    exact ⟨none, 0, e1⟩
  · exact ⟨_, cap, hv⟩
theorem own_some2 {w : World} {base e k n m c : Nat} {a : Option Addr} {xs : List Value} (h : w.ownsRow base e k (.slice a m c) n xs) (h0 : 0 < n) : ∃ g, a = some ⟨g, 0, none⟩ := by
  obtain ⟨g, q, e⟩ := own_sliceW h h0
  cases e
  exact ⟨g, rfl⟩
theorem HSt.cells {w0 wx : World} {B gv r cv : Nat} {p0 p1 p2 p3 p4 : Value} {R : List ((Int × Int × Int) × Value)} {S : List ((Int × Int × Int) × List (Int × Int × Int))} (h : HSt w0 wx B p0 p1 p2 p3 p4 (.slice (some ⟨gv, 0, none⟩) r cv) R S) (hr : r = R.length) {k : Nat} (hk : k < R.length) : wx.cell? ⟨gv, k * 4, none⟩ = some (.int .i64 R[k].1.1) ∧ wx.cell? ⟨gv, k * 4 + 1, none⟩ = some (.int .i64 R[k].1.2.1) ∧ wx.cell? ⟨gv, k * 4 + 2, none⟩ = some (.int .i64 R[k].1.2.2) ∧ wx.cell? ⟨gv, k * 4 + 3, none⟩ = some R[k].2 := by
  obtain ⟨e0, e1, e2, e3⟩ := rowS_at R k hk
  have hl := rowS_len R
  subst hr
  have ho := h.own
  exact ⟨(ho.cellAt (k * 4) (by omega)).trans e0, (ho.cellAt (k * 4 + 1) (by omega)).trans e1, (ho.cellAt (k * 4 + 2) (by omega)).trans e2, (ho.cellAt (k * 4 + 3) (by omega)).trans e3⟩
theorem flatV_len3 : ∀ l : List (Int × Int × Int), (flatV l).length = l.length * 3
  | [] => rfl
  | x :: r => by
    have := flatV_len3 r
    simp only [flatV, List.flatMap_cons, List.length_append, List.length_cons, List.length_nil] at this ⊢
    omega
theorem flatV_one (l : List (Int × Int × Int)) : ∀ u ∈ flatV l, u.oneCell' = true := fun u hu => by
  simp only [flatV, List.mem_flatMap] at hu
  obtain ⟨x, _, hx⟩ := hu
  simp at hx
  rcases hx with rfl | rfl | rfl <;> rfl
theorem addr_add (g o j : Nat) : (⟨g, o, none⟩ : Addr).add j = ⟨g, o + j, none⟩ := by
  unfold Addr.add
  split <;> simp_all
theorem hst_nil {w W5 : World} {B : Nat} {p0 p1 p2 p3 p4 : Value} (c0 : W5.cell? ⟨B, 0, none⟩ = some p0) (c1 : W5.cell? ⟨B, 1, none⟩ = some p1) (c2 : W5.cell? ⟨B, 2, none⟩ = some p2) (c3 : W5.cell? ⟨B, 3, none⟩ = some p3) (c4 : W5.cell? ⟨B, 4, none⟩ = some p4) (c5 : W5.cell? ⟨B, 5, none⟩ = some (.slice none 0 0)) (f5 : W5.frozen? ⟨B, 5, none⟩ = false) (hB : w.heap.size ≤ B) (hb : Below w.heap.size w W5) : HSt w W5 B p0 p1 p2 p3 p4 (.slice none 0 0) [] [] :=
  ⟨c0, c1, c2, c3, c4, c5, f5, ⟨by simp [rowS], Or.inl ⟨rfl, rfl⟩⟩, by simp, rfl, fun i hi => by simp at hi, hB, hb⟩
end Go.Proofs.YtnpboeodhpenmaaGreatDoor
