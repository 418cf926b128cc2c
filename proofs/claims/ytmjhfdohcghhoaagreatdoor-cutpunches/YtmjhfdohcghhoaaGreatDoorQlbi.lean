/- A part of the proof of cutPunches_holds. -/
import Derived.Test.YtmjhfdohcghhoaaGreatDoorQlac
import Derived.Test.YtmjhfdohcghhoaaGreatDoorQlba
import Derived.Test.YtmjhfdohcghhoaaGreatDoorQlbd
import Derived.Test.YtmjhfdohcghhoaaGreatDoorQlag
import Derived.Test.YtmjhfdohcghhoaaGreatDoorQlap
import Derived.Test.YtmjhfdohcghhoaaGreatDoorQlas
import Derived.Test.YtmjhfdohcghhoaaGreatDoorQlbh
import Derived.Test.YtmjhfdohcghhoaaGreatDoorQlbf
import Derived.Test.YtmjhfdohcghhoaaGreatDoorQlbc
import Derived.Test.YtmjhfdohcghhoaaGreatDoorQlad
import Derived.Test.YtmjhfdohcghhoaaGreatDoorQlaq
namespace Go.Proofs.YtmjhfdohcghhoaaGreatDoor
open Go.RowKit

set_option maxRecDepth 100000 in
set_option maxHeartbeats 1600000 in
theorem sameTris_yes (a c : Option Addr) (ca cc : Nat) (L : List (Int × Int × Int)) (w : World) (hL : L.length ≤ 300) (ha : TRow w a L) (hc : TRow w c L) :
    Calls Tryz.prog 15 #[.slice a L.length ca, .slice c L.length cc] w fun e w' => e = .returned (.bool true) ∧ Below w.heap.size w w' := by
  have HA : Hid (TRow w a L) := ha
  have HC : Hid (TRow w c L) := hc
  clear ha hc
  go_enter Tryz.func15, Tryz.ntmps15
  go_wp2
  go_loopg [5] L.length (fun gk s5 wx => ∃ i : Nat, i ≤ L.length ∧ gk = L.length - i ∧ s5 = .int .i64 (i : Int) ∧ Below w.heap.size w wx)
  case atStart => exact ⟨0, by omega, rfl, rfl, bl_refl _⟩
  case round =>
    obtain ⟨i, hi, rfl, rfl, hB⟩ := hrel
    have HB : Hid (Below w.heap.size w wr) := hB
    clear hB
    by_cases h1 : i < L.length
    · have i1 : (i : Int) < (L.length : Int) := by omega
      have i0 : (0 : Int) ≤ (i : Int) := by omega
      obtain ⟨g, rfl, t0, t1, t2⟩ := (HA.out.kept HB.out) i h1
      obtain ⟨g', rfl, u0, u1, u2⟩ := (HC.out.kept HB.out) i h1
      have z1 : g < wr.heap.size := World.block_lt_of_cell? _ _ t0
      have z2 : g' < wr.heap.size := World.block_lt_of_cell? _ _ u0
      obtain ⟨x, hx⟩ : ∃ x, x = L[i].1 := ⟨_, rfl⟩
      obtain ⟨y, hy⟩ : ∃ y, y = L[i].2.1 := ⟨_, rfl⟩
      obtain ⟨k, hk⟩ : ∃ k, k = L[i].2.2 := ⟨_, rfl⟩
      rw [← hx] at t0 u0
      rw [← hy] at t1 u1
      rw [← hk] at t2 u2
      have hneq : ∀ w' : World, (binOp .neq 43 (.agg #[.int .i64 x, .int .i64 y, .int .i64 k]) (.agg #[.int .i64 x, .int .i64 y, .int .i64 k])).run Tryz.prog w' = .ok (.bool false) w' := fun w' => by
        have := neq23 x y k x y k w'
        simpa [sameT] using this
      clear hx hy hk
      have kc := Kin.cells wr
      have kn : Nonempty (Kin wr) := ⟨⟨wr, bl_refl _⟩⟩
      go_wp2
      refine wp_region_kin (by kernel_rfl) (by kernel_rfl) ?_
      repeat (go_big_quiet_step (fail))
      refine wpQuiet_nil ?_
      intro wq hw'
      obtain ⟨nq, hw''⟩ := hw'
      have hq : Below wr.heap.size wr wq := hw'' ▸ nq.h
      have HQ : Hid (Below w.heap.size w wq) := bl_via HB.out hq
      clear hw'' nq hq kc kn
      go_wp2
      go_roundg (L.length - (i + 1))
      case measure => omega
      case rel => exact ⟨i + 1, by omega, rfl, by go_num, HQ.out⟩
    · have i1 : ¬ (i : Int) < (L.length : Int) := by omega
      go_wp2
      go_ret
      exact ⟨rfl, HB.out⟩
/-- Stacks in a row of memory. -/
def SRow (w : World) (a : Option Addr) (S : List ((Int × Int × Int) × List (Int × Int × Int))) : Prop :=
  ∀ i (h : i < S.length), ∃ g sa sc, a = some ⟨g, 0, none⟩ ∧ w.cell? ⟨g, i * 4, none⟩ = some (.int .i64 S[i].1.1) ∧ w.cell? ⟨g, i * 4 + 1, none⟩ = some (.int .i64 S[i].1.2.1) ∧ w.cell? ⟨g, i * 4 + 2, none⟩ = some (.int .i64 S[i].1.2.2) ∧ w.cell? ⟨g, i * 4 + 3, none⟩ = some (.slice sa S[i].2.length sc) ∧ TRow w sa S[i].2
theorem SRow.kept {w w' : World} {a : Option Addr} {S : List ((Int × Int × Int) × List (Int × Int × Int))} (h : SRow w a S) (hb : Below w.heap.size w w') : SRow w' a S := fun i hi => by
  obtain ⟨g, sa, sc, e, c0, c1, c2, c3, ht⟩ := h i hi
  exact ⟨g, sa, sc, e, cl_kept hb c0, cl_kept hb c1, cl_kept hb c2, cl_kept hb c3, ht.kept hb⟩
end Go.Proofs.YtmjhfdohcghhoaaGreatDoor
namespace Go.Proofs.YtmjhfdohcghhoaaGreatDoor
open Go.RowKit Go.ChangeMaps

/-- Which are known, in a row of memory that may be written. -/
def BRow (w : World) (g n : Nat) (K : List Nat) : Prop := ∀ i, i < n → w.cell? ⟨g, i, none⟩ = some (.bool (decide (i ∈ K))) ∧ w.frozen? ⟨g, i, none⟩ = false
theorem inf4 : (Tryz.prog.info? 4).map (fun i => (i.zero, i.size, i.bytes)) = some (some (.bool false), 1, 1) := by kernel_rfl
theorem bools_made {w : World} {base n g : Nat} (h : w.ownsRow base 4 1 (.slice (some ⟨g, 0, none⟩) n n) n (madeCells #[.bool false] n).toList) : BRow w g n [] := fun i hi => by
  have h0 : (madeCells #[Value.bool false] n).toList[i]? = some (.bool false) := by
    rw [Array.getElem?_toList]
    unfold madeCells
    have : i % 1 = 0 := by omega
    simp [hi, this]
  refine ⟨by simpa using (h.cellAt i (by omega)).trans h0, ?_⟩
  rcases h.2 with ⟨e1, _⟩ | ⟨b, cap, cur, e1, _, hb, _⟩
  · simp at e1
  · simp only [Value.slice.injEq, Option.some.injEq, Addr.mk.injEq] at e1
    obtain ⟨⟨rfl, _⟩, _⟩ := e1
    simp [World.frozen?, hb]
/-- The edges of a triangle, by their number. -/
def E3 (w : World) (ge : Nat) (t : Int × Int × Int) : Prop := ∀ k, k < 3 → w.cell? ⟨ge, k * 4, none⟩ = some (.int .i64 (edg t k).1) ∧ w.cell? ⟨ge, k * 4 + 1, none⟩ = some (.int .i64 (edg t k).2.1) ∧ w.cell? ⟨ge, k * 4 + 2, none⟩ = some (.int .i64 (edg t k).2.2.1) ∧ w.cell? ⟨ge, k * 4 + 3, none⟩ = some (.int .i64 (edg t k).2.2.2)
theorem Twl.e3 {w : World} {ge : Nat} {x y k : Int} (h : Twl w ge (ue0 x y k) (ue1 x y k) (ue2 x y k) (ue3 x y k) (ue4 x y k) (ue5 x y k) (ue6 x y k) (ue7 x y k) (ue8 x y k) (ue9 x y k) (ue10 x y k) (ue11 x y k)) : E3 w ge (x, y, k) := fun n hn => by
  obtain ⟨h0, h1, h2, h3, h4, h5, h6, h7, h8, h9, h10, h11⟩ := h
  have : n = 0 ∨ n = 1 ∨ n = 2 := by omega
  rcases this with rfl | rfl | rfl
  · exact ⟨h0, h1, h2, h3⟩
  · exact ⟨h4, h5, h6, h7⟩
  · exact ⟨h8, h9, h10, h11⟩
theorem E3.grown {w w' : World} {ge : Nat} {t : Int × Int × Int} {row : Option Nat} (h : E3 w ge t) (hg : w.grownBy w' row) (hne : some ge ≠ row) : E3 w' ge t := fun k hk => by
  obtain ⟨h0, h1, h2, h3⟩ := h k hk
  exact ⟨hg.cell h0 hne, hg.cell h1 hne, hg.cell h2 hne, hg.cell h3 hne⟩
theorem E3.kept {w w' : World} {ge : Nat} {t : Int × Int × Int} (h : E3 w ge t) (hb : Below w.heap.size w w') : E3 w' ge t := h.grown (bl_grown hb) (by simp)
end Go.Proofs.YtmjhfdohcghhoaaGreatDoor
namespace Go.Proofs.YtmjhfdohcghhoaaGreatDoor
open Go.RowKit

def rowS (R : List ((Int × Int × Int) × Value)) : List Value := R.flatMap fun s => [.int .i64 s.1.1, .int .i64 s.1.2.1, .int .i64 s.1.2.2, s.2]
theorem rowS_add (l m : List ((Int × Int × Int) × Value)) : rowS (l ++ m) = rowS l ++ rowS m := by simp [rowS]
theorem rowS_len (R : List ((Int × Int × Int) × Value)) : (rowS R).length = R.length * 4 := by
  induction R with
  | nil => rfl
  | cons s r ih =>
    have : rowS (s :: r) = [Value.int .i64 s.1.1, .int .i64 s.1.2.1, .int .i64 s.1.2.2, s.2] ++ rowS r := by simp [rowS]
    rw [this, List.length_append, ih]
    simp
    omega
theorem rowS_at : ∀ (R : List ((Int × Int × Int) × Value)) (i : Nat) (h : i < R.length), (rowS R)[i * 4]? = some (.int .i64 R[i].1.1) ∧ (rowS R)[i * 4 + 1]? = some (.int .i64 R[i].1.2.1) ∧ (rowS R)[i * 4 + 2]? = some (.int .i64 R[i].1.2.2) ∧ (rowS R)[i * 4 + 3]? = some R[i].2
  | s :: r, 0, _ => by simp [rowS]
  | s :: r, i + 1, h => by
    have ih := rowS_at r i (by simpa using h)
    have e : rowS (s :: r) = [Value.int .i64 s.1.1, .int .i64 s.1.2.1, .int .i64 s.1.2.2, s.2] ++ rowS r := by simp [rowS]
    have f : ∀ k, (rowS (s :: r))[(i + 1) * 4 + k]? = (rowS r)[i * 4 + k]? := fun k => by
      rw [e, List.getElem?_append_right (by simp; omega)]
      congr 1
      simp
      omega
    have f0 := f 0
    rw [Nat.add_zero, Nat.add_zero] at f0
    simp only [List.getElem_cons_succ]
    exact ⟨f0.trans ih.1, (f 1).trans ih.2.1, (f 2).trans ih.2.2.1, (f 3).trans ih.2.2.2⟩
/-- A slice with these triangles. -/
def TrisAt (w : World) (v : Value) (l : List (Int × Int × Int)) : Prop := ∃ a c, v = .slice a l.length c ∧ TRow w a l
theorem TrisAt.kept {w w' : World} {v : Value} {l : List (Int × Int × Int)} (h : TrisAt w v l) (hb : Below w.heap.size w w') : TrisAt w' v l := by
  obtain ⟨a, c, e, ht⟩ := h
  exact ⟨a, c, e, ht.kept hb⟩
theorem TRow.grownN {w w' : World} {pa : Option Addr} {l : List (Int × Int × Int)} {row : Option Nat} (h : TRow w pa l) (hg : w.grownBy w' row) (hn : ∀ g, pa = some ⟨g, 0, none⟩ → some g ≠ row) : TRow w' pa l := fun i hi => by
  obtain ⟨g, e, c0, c1, c2⟩ := h i hi
  have hne := hn g e
  exact ⟨g, e, hg.cell c0 hne, hg.cell c1 hne, hg.cell c2 hne⟩
theorem TrisAt.grown {w w' : World} {v : Value} {l : List (Int × Int × Int)} {row : Option Nat} (h : TrisAt w v l) (hg : w.grownBy w' row) (hn : ∀ g, v.ownBlock = some g → some g ≠ row) : TrisAt w' v l := by
  obtain ⟨a, c, rfl, ht⟩ := h
  exact ⟨a, c, rfl, ht.grownN hg fun g e => hn g (by rw [e]; rfl)⟩
/-- The state that is heaped: its box, its row of stacks, what they hold. -/
structure HSt (w0 wx : World) (B : Nat) (p0 p1 p2 p3 p4 v : Value) (R : List ((Int × Int × Int) × Value)) (S : List ((Int × Int × Int) × List (Int × Int × Int))) : Prop where
  c0 : wx.cell? ⟨B, 0, none⟩ = some p0
  c1 : wx.cell? ⟨B, 1, none⟩ = some p1
  c2 : wx.cell? ⟨B, 2, none⟩ = some p2
  c3 : wx.cell? ⟨B, 3, none⟩ = some p3
  c4 : wx.cell? ⟨B, 4, none⟩ = some p4
  c5 : wx.cell? ⟨B, 5, none⟩ = some v
  f5 : wx.frozen? ⟨B, 5, none⟩ = false
  own : wx.ownsRow (B + 1) 87 4 v R.length (rowS R)
  apart : ∀ s ∈ R, ∀ g, s.2.ownBlock = some g → B < g ∧ g < wx.heap.size ∧ v.ownBlock ≠ some g
  len : R.length = S.length
  hold : ∀ i (h : i < R.length) (h' : i < S.length), R[i].1 = S[i].1 ∧ TrisAt wx R[i].2 S[i].2
  low : w0.heap.size ≤ B
  bel : Below w0.heap.size w0 wx
theorem HSt.lt {w0 wx : World} {B : Nat} {p0 p1 p2 p3 p4 v : Value} {R : List ((Int × Int × Int) × Value)} {S : List ((Int × Int × Int) × List (Int × Int × Int))} (h : HSt w0 wx B p0 p1 p2 p3 p4 v R S) : B < wx.heap.size := World.block_lt_of_cell? _ _ h.c0
theorem HSt.kept {w0 wx w' : World} {B : Nat} {p0 p1 p2 p3 p4 v : Value} {R : List ((Int × Int × Int) × Value)} {S : List ((Int × Int × Int) × List (Int × Int × Int))} (h : HSt w0 wx B p0 p1 p2 p3 p4 v R S) (hb : Below wx.heap.size wx w') : HSt w0 w' B p0 p1 p2 p3 p4 v R S :=
  ⟨cl_kept hb h.c0, cl_kept hb h.c1, cl_kept hb h.c2, cl_kept hb h.c3, cl_kept hb h.c4, cl_kept hb h.c5, (hb.frozen h.lt).trans h.f5, own_below h.own hb, fun s hs g hg => by
    have := h.apart s hs g hg
    exact ⟨this.1, Nat.lt_of_lt_of_le this.2.1 hb.size, this.2.2⟩, h.len, fun i hi hi' => ⟨(h.hold i hi hi').1, (h.hold i hi hi').2.kept hb⟩, h.low, bl_via h.bel hb⟩

/-- Maps, number by number. -/
def flatM (M : Nat → M6) (n : Nat) : List Value := (List.range n).flatMap fun i => [.int .i64 (M i).1, .int .i64 (M i).2.1, .int .i64 (M i).2.2.1, .int .i64 (M i).2.2.2.1, .int .i64 (M i).2.2.2.2.1, .int .i64 (M i).2.2.2.2.2]
theorem flatM_succ (M : Nat → M6) (n : Nat) : flatM M (n + 1) = flatM M n ++ [.int .i64 (M n).1, .int .i64 (M n).2.1, .int .i64 (M n).2.2.1, .int .i64 (M n).2.2.2.1, .int .i64 (M n).2.2.2.2.1, .int .i64 (M n).2.2.2.2.2] := by
  unfold flatM
  rw [List.range_succ, List.flatMap_append]
  simp
theorem flatM_len (M : Nat → M6) : ∀ n, (flatM M n).length = n * 6
  | 0 => rfl
  | n + 1 => by
    rw [flatM_succ, List.length_append, flatM_len M n]
    simp
    omega
theorem flatM_at (M : Nat → M6) : ∀ (n i : Nat), i < n → (flatM M n)[i * 6]? = some (.int .i64 (M i).1) ∧ (flatM M n)[i * 6 + 1]? = some (.int .i64 (M i).2.1) ∧ (flatM M n)[i * 6 + 2]? = some (.int .i64 (M i).2.2.1) ∧ (flatM M n)[i * 6 + 3]? = some (.int .i64 (M i).2.2.2.1) ∧ (flatM M n)[i * 6 + 4]? = some (.int .i64 (M i).2.2.2.2.1) ∧ (flatM M n)[i * 6 + 5]? = some (.int .i64 (M i).2.2.2.2.2)
  | 0, i, h => by omega
  | n + 1, i, h => by
    have hl := flatM_len M n
    rw [flatM_succ]
    by_cases e : i = n
    · subst e
      refine ⟨?_, ?_, ?_, ?_, ?_, ?_⟩
      all_goals
        rw [List.getElem?_append_right (by omega)]
        simp [hl]
    · obtain ⟨h0, h1, h2, h3, h4, h5⟩ := flatM_at M n i (by omega)
      refine ⟨?_, ?_, ?_, ?_, ?_, ?_⟩
      all_goals
        rw [List.getElem?_append_left (by omega)]
        assumption
theorem own_maps {w : World} {base g n c : Nat} {M : Nat → M6} (h : w.ownsRow base 95 6 (.slice (some ⟨g, 0, none⟩) n c) n (flatM M n)) : MRow w g n M := fun i hi => by
  obtain ⟨f0, f1, f2, f3, f4, f5⟩ := flatM_at M n i hi
  exact ⟨⟨(h.cellAt _ (by omega)).trans f0, (h.cellAt _ (by omega)).trans f1, (h.cellAt _ (by omega)).trans f2, (h.cellAt _ (by omega)).trans f3, (h.cellAt _ (by omega)).trans f4, (h.cellAt _ (by omega)).trans f5⟩, h.frozenAt _, h.frozenAt _, h.frozenAt _, h.frozenAt _, h.frozenAt _, h.frozenAt _⟩
end Go.Proofs.YtmjhfdohcghhoaaGreatDoor
namespace Go.Proofs.YtmjhfdohcghhoaaGreatDoor
open Go.RowKit Go.ChangeMaps

theorem own_sliceW {w : World} {base e k n : Nat} {v : Value} {xs : List Value} (h : w.ownsRow base e k v n xs) (hn : 0 < n) : ∃ g q, v = .slice (some ⟨g, 0, none⟩) n q := by
  rcases h.2 with ⟨_, h0⟩ | ⟨g, cap, cur, hv, _⟩
  · omega
  · exact ⟨g, cap, hv⟩
theorem own_any {w : World} {base e k n : Nat} {v : Value} {xs : List Value} (h : w.ownsRow base e k v n xs) : ∃ a c, v = .slice a n c := by
  rcases h.2 with ⟨e1, e2⟩ | ⟨g, cap, cur, hv, _⟩
  · subst e2
    exact ⟨none, 0, e1⟩
  · exact ⟨_, cap, hv⟩
theorem own_some2 {w : World} {base e k n m c : Nat} {a : Option Addr} {xs : List Value} (h : w.ownsRow base e k (.slice a m c) n xs) (h0 : 0 < n) : ∃ g, a = some ⟨g, 0, none⟩ := by
  obtain ⟨g, q, e⟩ := own_sliceW h h0
  cases e
  exact ⟨g, rfl⟩
theorem HSt.cells {w0 wx : World} {B gv r cv : Nat} {p0 p1 p2 p3 p4 : Value} {R : List ((Int × Int × Int) × Value)} {S : List ((Int × Int × Int) × List (Int × Int × Int))} (h : HSt w0 wx B p0 p1 p2 p3 p4 (.slice (some ⟨gv, 0, none⟩) r cv) R S) (hr : r = R.length) {k : Nat} (hk : k < R.length) : wx.cell? ⟨gv, k * 4, none⟩ = some (.int .i64 R[k].1.1) ∧ wx.cell? ⟨gv, k * 4 + 1, none⟩ = some (.int .i64 R[k].1.2.1) ∧ wx.cell? ⟨gv, k * 4 + 2, none⟩ = some (.int .i64 R[k].1.2.2) ∧ wx.cell? ⟨gv, k * 4 + 3, none⟩ = some R[k].2 := by
  obtain ⟨e0, e1, e2, e3⟩ := rowS_at R k hk
  have hl := rowS_len R
  subst hr
  have ho := h.own
  exact ⟨(ho.cellAt (k * 4) (by omega)).trans e0, (ho.cellAt (k * 4 + 1) (by omega)).trans e1, (ho.cellAt (k * 4 + 2) (by omega)).trans e2, (ho.cellAt (k * 4 + 3) (by omega)).trans e3⟩
theorem flatV_len3 : ∀ l : List (Int × Int × Int), (flatV l).length = l.length * 3
  | [] => rfl
  | x :: r => by
    have := flatV_len3 r
    simp only [flatV, List.flatMap_cons, List.length_append, List.length_cons, List.length_nil] at this ⊢
    omega
theorem flatV_one (l : List (Int × Int × Int)) : ∀ u ∈ flatV l, u.oneCell' = true := fun u hu => by
  simp only [flatV, List.mem_flatMap] at hu
  obtain ⟨x, _, hx⟩ := hu
  simp at hx
  rcases hx with rfl | rfl | rfl <;> rfl
theorem addr_add (g o j : Nat) : (⟨g, o, none⟩ : Addr).add j = ⟨g, o + j, none⟩ := by
  unfold Addr.add
  split <;> simp_all
theorem hst_nil {w W5 : World} {B : Nat} {p0 p1 p2 p3 p4 : Value} (c0 : W5.cell? ⟨B, 0, none⟩ = some p0) (c1 : W5.cell? ⟨B, 1, none⟩ = some p1) (c2 : W5.cell? ⟨B, 2, none⟩ = some p2) (c3 : W5.cell? ⟨B, 3, none⟩ = some p3) (c4 : W5.cell? ⟨B, 4, none⟩ = some p4) (c5 : W5.cell? ⟨B, 5, none⟩ = some (.slice none 0 0)) (f5 : W5.frozen? ⟨B, 5, none⟩ = false) (hB : w.heap.size ≤ B) (hb : Below w.heap.size w W5) : HSt w W5 B p0 p1 p2 p3 p4 (.slice none 0 0) [] [] :=
  ⟨c0, c1, c2, c3, c4, c5, f5, ⟨by simp [rowS], Or.inl ⟨rfl, rfl⟩⟩, by simp, rfl, fun i hi => by simp at hi, hB, hb⟩
end Go.Proofs.YtmjhfdohcghhoaaGreatDoor
