/- Rows of points; turned; one step. -/
import Derived.Test.YtblagffijppgjaaRefw
namespace Go.Proofs.Ytblagffijppgjaa
open Go.RowKit

def pv (p : Int × Int) : List Value := [.int .i64 p.1, .int .i64 p.2]
def rowP (l : List (Int × Int)) : List Value := l.flatMap pv
theorem rowP_add (l m : List (Int × Int)) : rowP (l ++ m) = rowP l ++ rowP m := by simp [rowP]
theorem rowP_one (p : Int × Int) : rowP [p] = [.int .i64 p.1, .int .i64 p.2] := by simp [rowP, pv]
theorem rowP_len : ∀ l : List (Int × Int), (rowP l).length = l.length * 2
  | [] => rfl
  | p :: l => by
    have := rowP_len l
    simp only [rowP, pv, List.flatMap_cons, List.length_append, List.length_cons, List.length_nil] at this ⊢
    omega
def pt (l : List (Int × Int)) (i : Nat) : Int × Int := l.getD i (0, 0)
theorem pt_lt {l : List (Int × Int)} {i : Nat} (h : i < l.length) : pt l i = l[i] := by simp [pt, h]
theorem rowP_at : ∀ (l : List (Int × Int)) (i : Nat), i < l.length → (rowP l)[2 * i]? = some (.int .i64 (pt l i).1) ∧ (rowP l)[2 * i + 1]? = some (.int .i64 (pt l i).2)
  | [], i, h => by simp at h
  | p :: l, 0, _ => by simp [rowP, pv, pt]
  | p :: l, i + 1, h => by
    have ih := rowP_at l i (by simpa using h)
    have e : rowP (p :: l) = .int .i64 p.1 :: .int .i64 p.2 :: rowP l := by simp [rowP, pv]
    have e2 : pt (p :: l) (i + 1) = pt l i := by simp [pt]
    rw [e, e2, show 2 * (i + 1) = 2 * i + 1 + 1 from by omega]
    simpa using ih
theorem inf34 : (Try.prog.info? 34).map (fun i => (i.zero, i.size, i.bytes)) = some (some (.agg #[.int .i64 0, .int .i64 0]), 2, 16) := by kernel_rfl
/-- A row of points as it is read. -/
def PR (w : World) (v : Value) (l : List (Int × Int)) : Prop := ∃ a c, v = .slice a l.length c ∧ ∀ i, i < l.length → ∃ g, a = some ⟨g, 0, none⟩ ∧ w.cell? ⟨g, i * 2, none⟩ = some (.int .i64 (pt l i).1) ∧ w.cell? ⟨g, i * 2 + 1, none⟩ = some (.int .i64 (pt l i).2)
theorem PR.kept {w wx : World} {v : Value} {l : List (Int × Int)} (h : PR w v l) (hb : Below w.heap.size w wx) : PR wx v l := by
  obtain ⟨a, c, e, h⟩ := h
  refine ⟨a, c, e, fun x hx => ?_⟩
  obtain ⟨g, e2, h2, h3⟩ := h x hx
  exact ⟨g, e2, cl_kept hb h2, cl_kept hb h3⟩
theorem pr_of {W : World} {base : Nat} {s : Value} {l : List (Int × Int)} (h : W.ownsRow base 34 2 s l.length (rowP l)) : PR W s l := by
  rcases h.2 with ⟨rfl, h0⟩ | ⟨g, cap, cur, rfl, _⟩
  · exact ⟨none, 0, by rw [h0], fun x hx => by omega⟩
  · refine ⟨_, cap, rfl, fun x hx => ⟨g, rfl, ?_, ?_⟩⟩
    · have := h.cells (g := g) rfl (2 * x) _ (rowP_at l x hx).1
      rwa [add_at, Nat.mul_comm] at this
    · have := h.cells (g := g) rfl (2 * x + 1) _ (rowP_at l x hx).2
      rwa [add_at, Nat.mul_comm] at this
theorem ret_pt {a b c d : Int} (h1 : a = c) (h2 : b = d) : Ending.returned (.agg #[.int .i64 a, .int .i64 b]) = .returned (.agg #[.int .i64 c, .int .i64 d]) := by rw [h1, h2]
theorem turned29 (x y k : Int) (hd : isD (x, y)) (w : World) :
    Calls Try.prog 29 #[.agg #[.int .i64 x, .int .i64 y], .int .i64 k] w fun e w' => e = .returned (.agg #[.int .i64 (tn (x, y) k).1, .int .i64 (tn (x, y) k).2]) ∧ Below w.heap.size w w' := by
  have hs := isD_small hd
  simp only at hs
  obtain ⟨h1, h2, h3, h4⟩ := hs
  clear hd
  by_cases q : k = 2
  · subst q
    have e : tn (x, y) 2 = (-y, x) := rfl
    rw [e]
    go_enter Try.func29, Try.ntmps29
    go_wp2
    refine bodyPost_ret (v := .agg #[_, _]) (by simp [results, Try.results29, go_sem]) rfl ⟨rfl, bl_alloc (bl_alloc (bl_refl _))⟩
  · have qb : (k == 2) = false := by simpa using q
    have e : tn (x, y) k = (y, -x) := by unfold tn; rw [if_neg q]
    rw [e]
    go_enter Try.func29, Try.ntmps29
    go_wp2
    refine bodyPost_ret (v := .agg #[_, _]) (by simp [results, Try.results29, go_sem]) rfl ⟨rfl, bl_alloc (bl_alloc (bl_refl _))⟩

/-- A cell that may be written. -/
def Cl (w : World) (b o : Nat) (v : Value) : Prop := w.cell? ⟨b, o, none⟩ = some v ∧ w.frozen? ⟨b, o, none⟩ = false
theorem Cl.grown {w w' : World} {b o : Nat} {v : Value} {row : Option Nat} (h : Cl w b o v) (hg : w.grownBy w' row) (hne : some b ≠ row) : Cl w' b o v :=
  ⟨hg.cell h.1 hne, (World.frozen?_of_block (a := ⟨b, o, none⟩) (hg.block b (World.block_lt_of_cell? _ _ h.1) hne)).trans h.2⟩
theorem Cl.lt {w : World} {b o : Nat} {v : Value} (h : Cl w b o v) : b < w.heap.size := World.block_lt_of_cell? _ _ h.1
theorem Cl.set {w : World} {b o : Nat} {v : Value} (h : Cl w b o v) (u : Value) : Cl (w.setCell ⟨b, o, none⟩ u) b o u :=
  ⟨World.cell?_setCell_same _ _ _ h.1, by rw [World.frozen?_setCell]; exact h.2⟩
theorem Cl.other {w : World} {b o b' o' : Nat} {v : Value} (h : Cl w b o v) (u : Value) (hne : b ≠ b' ∨ o ≠ o') : Cl (w.setCell ⟨b', o', none⟩ u) b o v := by
  refine ⟨?_, by rw [World.frozen?_setCell]; exact h.2⟩
  rw [World.cell?_setCell_other _ _ _ _ (by simp; omega)]
  exact h.1
/-- The three boxes of a walk: where one is, which way one goes, the path. -/
def Wk (W0 w : World) (b1 b2 b3 : Nat) (p d : Int × Int) (s : Value) (l : List (Int × Int)) : Prop :=
  (Cl w b1 0 (.int .i64 p.1) ∧ Cl w b1 1 (.int .i64 p.2)) ∧ (Cl w b2 0 (.int .i64 d.1) ∧ Cl w b2 1 (.int .i64 d.2)) ∧ Cl w b3 0 s ∧
    w.ownsRow W0.heap.size 34 2 s l.length (rowP l) ∧ (b1 ≠ b2 ∧ b1 ≠ b3 ∧ b2 ≠ b3) ∧ (s.ownBlock ≠ some b1 ∧ s.ownBlock ≠ some b2 ∧ s.ownBlock ≠ some b3) ∧ (W0.heap.size ≤ b1 ∧ W0.heap.size ≤ b2 ∧ W0.heap.size ≤ b3) ∧ Below W0.heap.size W0 w
theorem Wk.kept {W0 w w' : World} {b1 b2 b3 : Nat} {p d : Int × Int} {s : Value} {l : List (Int × Int)} (h : Wk W0 w b1 b2 b3 p d s l) (hb : Below w.heap.size w w') : Wk W0 w' b1 b2 b3 p d s l := by
  obtain ⟨⟨h1, h2⟩, ⟨h3, h4⟩, h5, h6, h7, h8, h9, h10⟩ := h
  have g := bl_grown hb
  exact ⟨⟨h1.grown g (by simp), h2.grown g (by simp)⟩, ⟨h3.grown g (by simp), h4.grown g (by simp)⟩, h5.grown g (by simp), own_below h6 hb, h7, h8, h9, bl_via h10 hb⟩
theorem grown_two (w : World) (b : Nat) (v u : Value) : w.grownBy ((w.setCell ⟨b, 0, none⟩ v).setCell ⟨b, 1, none⟩ u) (some b) := by
  have h1 := grown_cell w b 0 v
  have h2 := grown_cell (w.setCell ⟨b, 0, none⟩ v) b 1 u
  exact ⟨h2.os.trans h1.os, h2.tape.trans h1.tape, h2.output.trans h1.output, Nat.le_trans h1.size h2.size, fun k hk hne => (h2.block k (Nat.lt_of_lt_of_le hk h1.size) hne).trans (h1.block k hk hne)⟩
theorem Wk.at {W0 w : World} {b1 b2 b3 : Nat} {p d : Int × Int} {s : Value} {l : List (Int × Int)} (h : Wk W0 w b1 b2 b3 p d s l) (q : Int × Int) : Wk W0 ((w.setCell ⟨b1, 0, none⟩ (.int .i64 q.1)).setCell ⟨b1, 1, none⟩ (.int .i64 q.2)) b1 b2 b3 q d s l := by
  obtain ⟨⟨h1, h2⟩, ⟨h3, h4⟩, h5, h6, h7, h8, h9, h10⟩ := h
  have g := grown_two w b1 (.int .i64 q.1) (.int .i64 q.2)
  exact ⟨⟨(h1.set _).other _ (by omega), (h2.other _ (by omega)).set _⟩, ⟨h3.grown g (by simp; omega), h4.grown g (by simp; omega)⟩, h5.grown g (by simp; omega), h6.kept g (Or.inr h8.1), h7, h8, h9, h10.grown g h10.size (fun k hk => by cases hk; omega)⟩
theorem Wk.way {W0 w : World} {b1 b2 b3 : Nat} {p d : Int × Int} {s : Value} {l : List (Int × Int)} (h : Wk W0 w b1 b2 b3 p d s l) (q : Int × Int) : Wk W0 ((w.setCell ⟨b2, 0, none⟩ (.int .i64 q.1)).setCell ⟨b2, 1, none⟩ (.int .i64 q.2)) b1 b2 b3 p q s l := by
  obtain ⟨⟨h1, h2⟩, ⟨h3, h4⟩, h5, h6, h7, h8, h9, h10⟩ := h
  have g := grown_two w b2 (.int .i64 q.1) (.int .i64 q.2)
  exact ⟨⟨h1.grown g (by simp; omega), h2.grown g (by simp; omega)⟩, ⟨(h3.set _).other _ (by omega), (h4.other _ (by omega)).set _⟩, h5.grown g (by simp; omega), h6.kept g (Or.inr h8.2.1), h7, h8, h9, h10.grown g h10.size (fun k hk => by cases hk; omega)⟩
/-- The row grows and is laid into its box. -/
theorem Wk.more {W0 w w3 : World} {b1 b2 b3 g cap : Nat} {p d : Int × Int} {s : Value} {l : List (Int × Int)} (h : Wk W0 w b1 b2 b3 p d s l) (q : Int × Int)
    (ho : w3.ownsRow W0.heap.size 34 2 (.slice (some ⟨g, 0, none⟩) (l.length + 1) cap) (l.length + 1) (rowP l ++ [.int .i64 q.1, .int .i64 q.2])) (hg : w.grownBy w3 s.ownBlock) (hat : s.ownBlock = some g ∨ g = w.heap.size) :
    Wk W0 (w3.setCell ⟨b3, 0, none⟩ (.slice (some ⟨g, 0, none⟩) (l.length + 1) cap)) b1 b2 b3 p d (.slice (some ⟨g, 0, none⟩) (l.length + 1) cap) (l ++ [q]) ∧ Cl w3 b3 0 s := by
  obtain ⟨⟨h1, h2⟩, ⟨h3, h4⟩, h5, h6, h7, h8, h9, h10⟩ := h
  have l1 := h1.lt
  have l2 := h3.lt
  have l3 := h5.lt
  have n1 : g ≠ b1 ∧ g ≠ b2 ∧ g ≠ b3 := by
    rcases hat with hat | hat
    · rw [hat] at h8
      simpa using h8
    · omega
  have c5 := h5.grown hg h8.2.2.symm
  have gs := grown_cell w3 b3 0 (.slice (some ⟨g, 0, none⟩) (l.length + 1) cap)
  refine ⟨⟨⟨((h1.grown hg h8.1.symm).other _ (Or.inl h7.2.1)), ((h2.grown hg h8.1.symm).other _ (Or.inl h7.2.1))⟩, ⟨((h3.grown hg h8.2.1.symm).other _ (Or.inl h7.2.2)), ((h4.grown hg h8.2.1.symm).other _ (Or.inl h7.2.2))⟩, c5.set _, ?_, h7, ?_, h9, ?_⟩, c5⟩
  · rw [List.length_append, rowP_add, rowP_one]
    exact ho.kept gs (Or.inr (by simp [Value.ownBlock]; omega))
  · simp [Value.ownBlock]
    omega
  · have hb3 : Below W0.heap.size W0 w3 := h10.grown hg h10.size (own_base h6)
    exact hb3.grown gs hb3.size (fun k hk => by cases hk; omega)
end Go.Proofs.Ytblagffijppgjaa
