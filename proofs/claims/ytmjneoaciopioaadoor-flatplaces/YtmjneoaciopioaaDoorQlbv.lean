/- Where each triangle comes to: the search of package flat. -/
import Derived.Test.YtmjneoaciopioaaDoorQlbs
import Derived.Test.YtmjneoaciopioaaDoorQlbk
namespace Go.Proofs.YtmjneoaciopioaaDoor
open Go.RowKit Go.ChangeMaps

/-- Are two maps one? -/
def sameM (a b c d e f A B C D E F : Int) : Bool := decide (a = A ∧ b = B ∧ c = C ∧ d = D ∧ e = E ∧ f = F)
theorem eqlM (a b c d e f A B C D E F : Int) (w : World) :
    (binOp .eql 59 (.agg #[.int .i64 a, .int .i64 b, .int .i64 c, .int .i64 d, .int .i64 e, .int .i64 f]) (.agg #[.int .i64 A, .int .i64 B, .int .i64 C, .int .i64 D, .int .i64 E, .int .i64 F])).run Tryd.prog w = .ok (.bool (sameM a b c d e f A B C D E F)) w := by
  by_cases h1 : a = A
  · subst h1
    by_cases h2 : b = B
    · subst h2
      by_cases h3 : c = C
      · subst h3
        by_cases h4 : d = D
        · subst h4
          by_cases h5 : e = E
          · subst h5
            by_cases h6 : f = F
            · subst h6
              simp [go_sem, sameM]
            · have e' : (f == F) = false := by simpa using h6
              simp [go_sem, sameM, e', h6]
          · have e' : (e == E) = false := by simpa using h5
            simp [go_sem, sameM, e', h5]
        · have e' : (d == D) = false := by simpa using h4
          simp [go_sem, sameM, e', h4]
      · have e' : (c == C) = false := by simpa using h3
        simp [go_sem, sameM, e', h3]
    · have e' : (b == B) = false := by simpa using h2
      simp [go_sem, sameM, e', h2]
  · have e' : (a == A) = false := by simpa using h1
    simp [go_sem, sameM, e', h1]
theorem neqM (a b c d e f A B C D E F : Int) (w : World) :
    (binOp .neq 59 (.agg #[.int .i64 a, .int .i64 b, .int .i64 c, .int .i64 d, .int .i64 e, .int .i64 f]) (.agg #[.int .i64 A, .int .i64 B, .int .i64 C, .int .i64 D, .int .i64 E, .int .i64 F])).run Tryd.prog w = .ok (.bool (!sameM a b c d e f A B C D E F)) w := by
  by_cases h1 : a = A
  · subst h1
    by_cases h2 : b = B
    · subst h2
      by_cases h3 : c = C
      · subst h3
        by_cases h4 : d = D
        · subst h4
          by_cases h5 : e = E
          · subst h5
            by_cases h6 : f = F
            · subst h6
              simp [go_sem, sameM]
            · have e' : (f == F) = false := by simpa using h6
              simp [go_sem, sameM, e', h6]
          · have e' : (e == E) = false := by simpa using h5
            simp [go_sem, sameM, e', h5]
        · have e' : (d == D) = false := by simpa using h4
          simp [go_sem, sameM, e', h4]
      · have e' : (c == C) = false := by simpa using h3
        simp [go_sem, sameM, e', h3]
    · have e' : (b == B) = false := by simpa using h2
      simp [go_sem, sameM, e', h2]
  · have e' : (a == A) = false := by simpa using h1
    simp [go_sem, sameM, e', h1]

/-- Maps in a row of memory that may be written. -/
def MCell (w : World) (g i : Nat) (m : M6) : Prop := w.cell? ⟨g, i * 6, none⟩ = some (.int .i64 m.1) ∧ w.cell? ⟨g, i * 6 + 1, none⟩ = some (.int .i64 m.2.1) ∧ w.cell? ⟨g, i * 6 + 2, none⟩ = some (.int .i64 m.2.2.1) ∧ w.cell? ⟨g, i * 6 + 3, none⟩ = some (.int .i64 m.2.2.2.1) ∧ w.cell? ⟨g, i * 6 + 4, none⟩ = some (.int .i64 m.2.2.2.2.1) ∧ w.cell? ⟨g, i * 6 + 5, none⟩ = some (.int .i64 m.2.2.2.2.2)
def MFree (w : World) (g i : Nat) : Prop := w.frozen? ⟨g, i * 6, none⟩ = false ∧ w.frozen? ⟨g, i * 6 + 1, none⟩ = false ∧ w.frozen? ⟨g, i * 6 + 2, none⟩ = false ∧ w.frozen? ⟨g, i * 6 + 3, none⟩ = false ∧ w.frozen? ⟨g, i * 6 + 4, none⟩ = false ∧ w.frozen? ⟨g, i * 6 + 5, none⟩ = false
def MRow (w : World) (g n : Nat) (M : Nat → M6) : Prop := ∀ i, i < n → MCell w g i (M i) ∧ MFree w g i
theorem MRow.grown {w w' : World} {g n : Nat} {M : Nat → M6} {row : Option Nat} (h : MRow w g n M) (hg : w.grownBy w' row) (hne : some g ≠ row) : MRow w' g n M := fun i hi => by
  obtain ⟨⟨a0, a1, a2, a3, a4, a5⟩, f0, f1, f2, f3, f4, f5⟩ := h i hi
  have q : ∀ o, w'.frozen? ⟨g, o, none⟩ = w.frozen? ⟨g, o, none⟩ := fun o => World.frozen?_of_block (a := ⟨g, o, none⟩) (hg.block g (World.block_lt_of_cell? _ _ a0) hne)
  exact ⟨⟨hg.cell a0 hne, hg.cell a1 hne, hg.cell a2 hne, hg.cell a3 hne, hg.cell a4 hne, hg.cell a5 hne⟩, (q _).trans f0, (q _).trans f1, (q _).trans f2, (q _).trans f3, (q _).trans f4, (q _).trans f5⟩
theorem MRow.kept {w w' : World} {g n : Nat} {M : Nat → M6} (h : MRow w g n M) (hb : Below w.heap.size w w') : MRow w' g n M := h.grown (bl_grown hb) (by simp)
/-- A map is written. -/
def set6 (w : World) (g j : Nat) (m : M6) : World := (((((w.setCell ⟨g, j * 6, none⟩ (.int .i64 m.1)).setCell ⟨g, j * 6 + 1, none⟩ (.int .i64 m.2.1)).setCell ⟨g, j * 6 + 2, none⟩ (.int .i64 m.2.2.1)).setCell ⟨g, j * 6 + 3, none⟩ (.int .i64 m.2.2.2.1)).setCell ⟨g, j * 6 + 4, none⟩ (.int .i64 m.2.2.2.2.1)).setCell ⟨g, j * 6 + 5, none⟩ (.int .i64 m.2.2.2.2.2)
theorem st_same {w : World} {g k : Nat} {u v : Value} (h : w.cell? ⟨g, k, none⟩ = some u) : (w.setCell ⟨g, k, none⟩ v).cell? ⟨g, k, none⟩ = some v := World.cell?_setCell_same _ _ _ h
theorem st_else {w : World} {g k k' : Nat} {u v : Value} (h : w.cell? ⟨g, k, none⟩ = some u) (hne : k ≠ k') : (w.setCell ⟨g, k', none⟩ v).cell? ⟨g, k, none⟩ = some u := by
  rw [World.cell?_setCell_other _ _ _ _ (by simp <;> omega)]
  exact h
theorem MRow.set6 {w : World} {g n j : Nat} {M : Nat → M6} (h : MRow w g n M) (hj : j < n) (m : M6) : MRow (set6 w g j m) g n (fun q => if q = j then m else M q) := fun i hi => by
  obtain ⟨⟨a0, a1, a2, a3, a4, a5⟩, hf⟩ := h i hi
  refine ⟨?_, by simpa only [MFree, YtmjneoaciopioaaDoor.set6, World.frozen?_setCell] using hf⟩
  by_cases e : i = j
  · subst e
    simp only [if_true]
    unfold YtmjneoaciopioaaDoor.set6
    refine ⟨?_, ?_, ?_, ?_, ?_, ?_⟩
    · exact st_else (st_else (st_else (st_else (st_else (st_same a0) (by omega)) (by omega)) (by omega)) (by omega)) (by omega)
    · exact st_else (st_else (st_else (st_else (st_same (st_else a1 (by omega))) (by omega)) (by omega)) (by omega)) (by omega)
    · exact st_else (st_else (st_else (st_same (st_else (st_else a2 (by omega)) (by omega))) (by omega)) (by omega)) (by omega)
    · exact st_else (st_else (st_same (st_else (st_else (st_else a3 (by omega)) (by omega)) (by omega))) (by omega)) (by omega)
    · exact st_else (st_same (st_else (st_else (st_else (st_else a4 (by omega)) (by omega)) (by omega)) (by omega))) (by omega)
    · exact st_same (st_else (st_else (st_else (st_else (st_else a5 (by omega)) (by omega)) (by omega)) (by omega)) (by omega))
  · simp only [if_neg e]
    unfold YtmjneoaciopioaaDoor.set6
    have q : ∀ {o : Nat} {u : Value}, w.cell? ⟨g, i * 6 + o, none⟩ = some u → o < 6 → ((((((w.setCell ⟨g, j * 6, none⟩ (.int .i64 m.1)).setCell ⟨g, j * 6 + 1, none⟩ (.int .i64 m.2.1)).setCell ⟨g, j * 6 + 2, none⟩ (.int .i64 m.2.2.1)).setCell ⟨g, j * 6 + 3, none⟩ (.int .i64 m.2.2.2.1)).setCell ⟨g, j * 6 + 4, none⟩ (.int .i64 m.2.2.2.2.1)).setCell ⟨g, j * 6 + 5, none⟩ (.int .i64 m.2.2.2.2.2)).cell? ⟨g, i * 6 + o, none⟩ = some u := fun {o u} hu ho =>
      st_else (st_else (st_else (st_else (st_else (st_else hu (by omega)) (by omega)) (by omega)) (by omega)) (by omega)) (by omega)
    exact ⟨q (o := 0) a0 (by omega), q a1 (by omega), q a2 (by omega), q a3 (by omega), q a4 (by omega), q a5 (by omega)⟩
theorem set6_grown (w : World) (g j : Nat) (m : M6) : w.grownBy (set6 w g j m) (some g) := gb_then (gb_then (gb_then (gb_then (gb_then (grown_cell _ _ _ _) (grown_cell _ _ _ _)) (grown_cell _ _ _ _)) (grown_cell _ _ _ _)) (grown_cell _ _ _ _)) (grown_cell _ _ _ _)
theorem made_zero (n k : Nat) (hk : k < n * 6) : (madeCells #[.int .i64 0, .int .i64 0, .int .i64 0, .int .i64 0, .int .i64 0, .int .i64 0] (n * 6)).toList[k]? = some (.int .i64 0) := by
  rw [Array.getElem?_toList]
  unfold madeCells
  have h6 : k % 6 = 0 ∨ k % 6 = 1 ∨ k % 6 = 2 ∨ k % 6 = 3 ∨ k % 6 = 4 ∨ k % 6 = 5 := by omega
  rcases h6 with h | h | h | h | h | h <;> simp [hk, h]
theorem maps_made {w : World} {base n g : Nat} (h : w.ownsRow base 59 6 (.slice (some ⟨g, 0, none⟩) n n) n (madeCells #[.int .i64 0, .int .i64 0, .int .i64 0, .int .i64 0, .int .i64 0, .int .i64 0] (n * 6)).toList) : MRow w g n (fun _ => noM) := fun i hi => by
  have q : ∀ k, k < n * 6 → w.cell? ⟨g, k, none⟩ = some (.int .i64 0) := fun k hk => (h.cellAt k hk).trans (made_zero n k hk)
  have f : ∀ k, w.frozen? ⟨g, k, none⟩ = false := fun k => by
    rcases h.2 with ⟨e1, _⟩ | ⟨b, cap, cur, e1, _, hb, _⟩
    · simp at e1
    · simp only [Value.slice.injEq, Option.some.injEq, Addr.mk.injEq] at e1
      obtain ⟨⟨rfl, _⟩, _⟩ := e1
      simp [World.frozen?, hb]
  exact ⟨⟨q _ (by omega), q _ (by omega), q _ (by omega), q _ (by omega), q _ (by omega), q _ (by omega)⟩, f _, f _, f _, f _, f _, f _⟩
theorem inf59 : (Tryd.prog.info? 59).map (fun i => (i.zero, i.size, i.bytes)) = some (some (.agg #[.int .i64 0, .int .i64 0, .int .i64 0, .int .i64 0, .int .i64 0, .int .i64 0]), 6, 48) := by kernel_rfl
end Go.Proofs.YtmjneoaciopioaaDoor
