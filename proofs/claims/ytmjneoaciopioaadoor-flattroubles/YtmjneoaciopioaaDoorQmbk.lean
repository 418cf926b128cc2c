/- A part of the proof of a law on sheets. -/
import Derived.Test.YtmjneoaciopioaaDoorQmbf
import Derived.Test.YtmjneoaciopioaaDoorQmbd
namespace Go.Proofs.YtmjneoaciopioaaDoor
open Go.RowKit Go.ChangeMaps

/-- Are two maps one? -/
def sameM (a b c d e f A B C D E F : Int) : Bool := decide (a = A ∧ b = B ∧ c = C ∧ d = D ∧ e = E ∧ f = F)
theorem eqlM (a b c d e f A B C D E F : Int) (w : World) :
    (binOp .eql 59 (.agg #[.int .i64 a, .int .i64 b, .int .i64 c, .int .i64 d, .int .i64 e, .int .i64 f]) (.agg #[.int .i64 A, .int .i64 B, .int .i64 C, .int .i64 D, .int .i64 E, .int .i64 F])).run Tryd.prog w = .ok (.bool (sameM a b c d e f A B C D E F)) w := by
  by_cases h1 : a = A
  · subst h1
    by_cases h2 : b = B
    · subst h2
      by_cases h3 : c = C
      · subst h3
        by_cases h4 : d = D
        · subst h4
          by_cases h5 : e = E
          · subst h5
            by_cases h6 : f = F
            · subst h6
              simp [go_sem, sameM]
            · have e' : (f == F) = false := by simpa using h6
              simp [go_sem, sameM, e', h6]
          · have e' : (e == E) = false := by simpa using h5
            simp [go_sem, sameM, e', h5]
        · have e' : (d == D) = false := by simpa using h4
          simp [go_sem, sameM, e', h4]
      · have e' : (c == C) = false := by simpa using h3
        simp [go_sem, sameM, e', h3]
    · have e' : (b == B) = false := by simpa using h2
      simp [go_sem, sameM, e', h2]
  · have e' : (a == A) = false := by simpa using h1
    simp [go_sem, sameM, e', h1]
theorem neqM (a b c d e f A B C D E F : Int) (w : World) :
    (binOp .neq 59 (.agg #[.int .i64 a, .int .i64 b, .int .i64 c, .int .i64 d, .int .i64 e, .int .i64 f]) (.agg #[.int .i64 A, .int .i64 B, .int .i64 C, .int .i64 D, .int .i64 E, .int .i64 F])).run Tryd.prog w = .ok (.bool (!sameM a b c d e f A B C D E F)) w := by
  by_cases h1 : a = A
  · subst h1
    by_cases h2 : b = B
    · subst h2
      by_cases h3 : c = C
      · subst h3
        by_cases h4 : d = D
        · subst h4
          by_cases h5 : e = E
          · subst h5
            by_cases h6 : f = F
            · subst h6
              simp [go_sem, sameM]
            · have e' : (f == F) = false := by simpa using h6
              simp [go_sem, sameM, e', h6]
          · have e' : (e == E) = false := by simpa using h5
            simp [go_sem, sameM, e', h5]
        · have e' : (d == D) = false := by simpa using h4
          simp [go_sem, sameM, e', h4]
      · have e' : (c == C) = false := by simpa using h3
        simp [go_sem, sameM, e', h3]
    · have e' : (b == B) = false := by simpa using h2
      simp [go_sem, sameM, e', h2]
  · have e' : (a == A) = false := by simpa using h1
    simp [go_sem, sameM, e', h1]

/-- Maps in a row of memory that may be written. -/
def MCell (w : World) (g i : Nat) (m : M6) : Prop := w.cell? ⟨g, i * 6, none⟩ = some (.int .i64 m.1) ∧ w.cell? ⟨g, i * 6 + 1, none⟩ = some (.int .i64 m.2.1) ∧ w.cell? ⟨g, i * 6 + 2, none⟩ = some (.int .i64 m.2.2.1) ∧ w.cell? ⟨g, i * 6 + 3, none⟩ = some (.int .i64 m.2.2.2.1) ∧ w.cell? ⟨g, i * 6 + 4, none⟩ = some (.int .i64 m.2.2.2.2.1) ∧ w.cell? ⟨g, i * 6 + 5, none⟩ = some (.int .i64 m.2.2.2.2.2)
def MFree (w : World) (g i : Nat) : Prop := w.frozen? ⟨g, i * 6, none⟩ = false ∧ w.frozen? ⟨g, i * 6 + 1, none⟩ = false ∧ w.frozen? ⟨g, i * 6 + 2, none⟩ = false ∧ w.frozen? ⟨g, i * 6 + 3, none⟩ = false ∧ w.frozen? ⟨g, i * 6 + 4, none⟩ = false ∧ w.frozen? ⟨g, i * 6 + 5, none⟩ = false
def MRow (w : World) (g n : Nat) (M : Nat → M6) : Prop := ∀ i, i < n → MCell w g i (M i) ∧ MFree w g i
theorem MRow.grown {w w' : World} {g n : Nat} {M : Nat → M6} {row : Option Nat} (h : MRow w g n M) (hg : w.grownBy w' row) (hne : some g ≠ row) : MRow w' g n M := fun i hi => by
  obtain ⟨⟨a0, a1, a2, a3, a4, a5⟩, f0, f1, f2, f3, f4, f5⟩ := h i hi
  have q : ∀ o, w'.frozen? ⟨g, o, none⟩ = w.frozen? ⟨g, o, none⟩ := fun o => World.frozen?_of_block (a := ⟨g, o, none⟩) (hg.block g (World.block_lt_of_cell? _ _ a0) hne)
  exact ⟨⟨hg.cell a0 hne, hg.cell a1 hne, hg.cell a2 hne, hg.cell a3 hne, hg.cell a4 hne, hg.cell a5 hne⟩, (q _).trans f0, (q _).trans f1, (q _).trans f2, (q _).trans f3, (q _).trans f4, (q _).trans f5⟩
theorem MRow.kept {w w' : World} {g n : Nat} {M : Nat → M6} (h : MRow w g n M) (hb : Below w.heap.size w w') : MRow w' g n M := h.grown (bl_grown hb) (by simp)
/-- A map is written. -/
def set6 (w : World) (g j : Nat) (m : M6) : World := (((((w.setCell ⟨g, j * 6, none⟩ (.int .i64 m.1)).setCell ⟨g, j * 6 + 1, none⟩ (.int .i64 m.2.1)).setCell ⟨g, j * 6 + 2, none⟩ (.int .i64 m.2.2.1)).setCell ⟨g, j * 6 + 3, none⟩ (.int .i64 m.2.2.2.1)).setCell ⟨g, j * 6 + 4, none⟩ (.int .i64 m.2.2.2.2.1)).setCell ⟨g, j * 6 + 5, none⟩ (.int .i64 m.2.2.2.2.2)
theorem st_same {w : World} {g k : Nat} {u v : Value} (h : w.cell? ⟨g, k, none⟩ = some u) : (w.setCell ⟨g, k, none⟩ v).cell? ⟨g, k, none⟩ = some v := World.cell?_setCell_same _ _ _ h
theorem st_else {w : World} {g k k' : Nat} {u v : Value} (h : w.cell? ⟨g, k, none⟩ = some u) (hne : k ≠ k') : (w.setCell ⟨g, k', none⟩ v).cell? ⟨g, k, none⟩ = some u := by
  rw [World.cell?_setCell_other _ _ _ _ (by simp <;> omega)]
  exact h
theorem MRow.set6 {w : World} {g n j : Nat} {M : Nat → M6} (h : MRow w g n M) (hj : j < n) (m : M6) : MRow (set6 w g j m) g n (fun q => if q = j then m else M q) := fun i hi => by
  obtain ⟨⟨a0, a1, a2, a3, a4, a5⟩, hf⟩ := h i hi
  refine ⟨?_, by simpa only [MFree, YtmjneoaciopioaaDoor.set6, World.frozen?_setCell] using hf⟩
  by_cases e : i = j
  · subst e
    simp only [if_true]
    unfold YtmjneoaciopioaaDoor.set6
    refine ⟨?_, ?_, ?_, ?_, ?_, ?_⟩
    · exact st_else (st_else (st_else (st_else (st_else (st_same a0) (by omega)) (by omega)) (by omega)) (by omega)) (by omega)
    · exact st_else (st_else (st_else (st_else (st_same (st_else a1 (by omega))) (by omega)) (by omega)) (by omega)) (by omega)
    · exact st_else (st_else (st_else (st_same (st_else (st_else a2 (by omega)) (by omega))) (by omega)) (by omega)) (by omega)
    · exact st_else (st_else (st_same (st_else (st_else (st_else a3 (by omega)) (by omega)) (by omega))) (by omega)) (by omega)
    · exact st_else (st_same (st_else (st_else (st_else (st_else a4 (by omega)) (by omega)) (by omega)) (by omega))) (by omega)
    · exact st_same (st_else (st_else (st_else (st_else (st_else a5 (by omega)) (by omega)) (by omega)) (by omega)) (by omega))
  · simp only [if_neg e]
    unfold YtmjneoaciopioaaDoor.set6
    have q : ∀ {o : Nat} {u : Value}, w.cell? ⟨g, i * 6 + o, none⟩ = some u → o < 6 → ((((((w.setCell ⟨g, j * 6, none⟩ (.int .i64 m.1)).setCell ⟨g, j * 6 + 1, none⟩ (.int .i64 m.2.1)).setCell ⟨g, j * 6 + 2, none⟩ (.int .i64 m.2.2.1)).setCell ⟨g, j * 6 + 3, none⟩ (.int .i64 m.2.2.2.1)).setCell ⟨g, j * 6 + 4, none⟩ (.int .i64 m.2.2.2.2.1)).setCell ⟨g, j * 6 + 5, none⟩ (.int .i64 m.2.2.2.2.2)).cell? ⟨g, i * 6 + o, none⟩ = some u := fun {o u} hu ho =>
      st_else (st_else (st_else (st_else (st_else (st_else hu (by omega)) (by omega)) (by omega)) (by omega)) (by omega)) (by omega)
    exact ⟨q (o := 0) a0 (by omega), q a1 (by omega), q a2 (by omega), q a3 (by omega), q a4 (by omega), q a5 (by omega)⟩
theorem set6_grown (w : World) (g j : Nat) (m : M6) : w.grownBy (set6 w g j m) (some g) := gb_then (gb_then (gb_then (gb_then (gb_then (grown_cell _ _ _ _) (grown_cell _ _ _ _)) (grown_cell _ _ _ _)) (grown_cell _ _ _ _)) (grown_cell _ _ _ _)) (grown_cell _ _ _ _)
theorem made_zero (n k : Nat) (hk : k < n * 6) : (madeCells #[.int .i64 0, .int .i64 0, .int .i64 0, .int .i64 0, .int .i64 0, .int .i64 0] (n * 6)).toList[k]? = some (.int .i64 0) := by
  rw [Array.getElem?_toList]
  unfold madeCells
  have h6 : k % 6 = 0 ∨ k % 6 = 1 ∨ k % 6 = 2 ∨ k % 6 = 3 ∨ k % 6 = 4 ∨ k % 6 = 5 := by omega
  rcases h6 with h | h | h | h | h | h <;> simp [hk, h]
theorem maps_made {w : World} {base n g : Nat} (h : w.ownsRow base 59 6 (.slice (some ⟨g, 0, none⟩) n n) n (madeCells #[.int .i64 0, .int .i64 0, .int .i64 0, .int .i64 0, .int .i64 0, .int .i64 0] (n * 6)).toList) : MRow w g n (fun _ => noM) := fun i hi => by
  have q : ∀ k, k < n * 6 → w.cell? ⟨g, k, none⟩ = some (.int .i64 0) := fun k hk => (h.cellAt k hk).trans (made_zero n k hk)
  have f : ∀ k, w.frozen? ⟨g, k, none⟩ = false := fun k => by
    rcases h.2 with ⟨e1, _⟩ | ⟨b, cap, cur, e1, _, hb, _⟩
    · simp at e1
    · simp only [Value.slice.injEq, Option.some.injEq, Addr.mk.injEq] at e1
      obtain ⟨⟨rfl, _⟩, _⟩ := e1
      simp [World.frozen?, hb]
  exact ⟨⟨q _ (by omega), q _ (by omega), q _ (by omega), q _ (by omega), q _ (by omega), q _ (by omega)⟩, f _, f _, f _, f _, f _, f _⟩
theorem inf59 : (Tryd.prog.info? 59).map (fun i => (i.zero, i.size, i.bytes)) = some (some (.agg #[.int .i64 0, .int .i64 0, .int .i64 0, .int .i64 0, .int .i64 0, .int .i64 0]), 6, 48) := by kernel_rfl

/-- What the search keeps in memory. -/
def PlM (w wx : World) (ad : Option Addr) (n cc ra rk : Nat) (M : Nat → M6) (R : List Nat) (v : Value) : Prop :=
  MRow wx (w.heap.size + 1) n M ∧ wx.ownsRow (w.heap.size + 1 + 1) 3 1 v R.length (rowN R) ∧ Below w.heap.size w wx ∧ PB wx w.heap.size ad n cc ra rk ∧ w.heap.size + 1 + 1 ≤ wx.heap.size
theorem PlM.kept {w wx w' : World} {ad : Option Addr} {n cc ra rk : Nat} {M : Nat → M6} {R : List Nat} {v : Value} (h : PlM w wx ad n cc ra rk M R v) (hb : Below wx.heap.size wx w') : PlM w w' ad n cc ra rk M R v :=
  ⟨h.1.kept hb, own_below h.2.1 hb, bl_via h.2.2.1 hb, h.2.2.2.1.kept hb, Nat.le_trans h.2.2.2.2 hb.size⟩
theorem PlM.slice {w wx : World} {ad : Option Addr} {n cc ra rk : Nat} {M : Nat → M6} {R : List Nat} {v : Value} (h : PlM w wx ad n cc ra rk M R v) (hn : 0 < R.length) : ∃ b cap, v = .slice (some ⟨b, 0, none⟩) R.length cap ∧ w.heap.size + 1 + 1 ≤ b ∧ ∀ i (hi : i < R.length), wx.cell? ⟨b, i, none⟩ = some (.int .i64 ((R[i] : Nat) : Int)) := by
  rcases h.2.1.2 with ⟨_, h0⟩ | ⟨b, cap, cur, hv, h2, h3⟩
  · omega
  · refine ⟨b, cap, hv, h2, fun i hi => ?_⟩
    subst hv
    have := h.2.1.cellAt i (by omega)
    rw [this, rowN_at R i hi]
/-- A map is written, and its triangle put on the list. -/
theorem PlM.more {w wx w2 w3 : World} {ad : Option Addr} {n cc ra rk j : Nat} {M : Nat → M6} {R : List Nat} {v v' : Value} {m : M6} (h : PlM w wx ad n cc ra rk M R v) (hj : j < n)
    (hb : Below (set6 wx (w.heap.size + 1) j m).heap.size (set6 wx (w.heap.size + 1) j m) w2) (hg : w2.grownBy w3 v.ownBlock) (hown : w3.ownsRow (w.heap.size + 1 + 1) 3 1 v' (R.length + 1) (rowN R ++ [.int .i64 (j : Int)])) :
    PlM w w3 ad n cc ra rk (fun q => if q = j then m else M q) (R ++ [j]) v' := by
  obtain ⟨h1, h2, h3, ⟨p0, p1, p2⟩, h5⟩ := h
  have hrow : ∀ k, v.ownBlock = some k → w.heap.size + 1 + 1 ≤ k := fun k hk => (h2.lt k hk).1
  have hgv : some (w.heap.size + 1) ≠ v.ownBlock := fun e => by
    have := hrow _ e.symm
    omega
  have hbv : some w.heap.size ≠ v.ownBlock := fun e => by
    have := hrow _ e.symm
    omega
  have hs6 := set6_grown wx (w.heap.size + 1) j m
  have z1 := ((h1.set6 hj m).kept hb).grown hg hgv
  have q : ∀ {o : Nat} {u : Value}, wx.cell? ⟨w.heap.size, o, none⟩ = some u → w3.cell? ⟨w.heap.size, o, none⟩ = some u := fun {o u} hu =>
    hg.cell (cl_kept hb (hs6.cell hu (by simp))) hbv
  have k1 : Below w.heap.size w (set6 wx (w.heap.size + 1) j m) := h3.grown hs6 (Nat.le_trans h3.size (Nat.le_refl _)) (fun k hk => by simp at hk; omega)
  have q0 := hs6.size
  have q1 := hb.size
  have q2 := hg.size
  refine ⟨z1, ?_, ?_, ⟨q p0, q p1, q p2⟩, by omega⟩
  · rw [List.length_append, List.length_singleton]
    have : rowN (R ++ [j]) = rowN R ++ [.int .i64 (j : Int)] := by simp [rowN]
    rw [this]
    exact hown
  · have k2 := k1.trans (hb.mono k1.size)
    exact k2.grown hg k2.size (fun k hk => by
      have := hrow k hk
      omega)
/-- A map in a block of its own. -/
def M1 (w : World) (g : Nat) (a b c d e f : Int) : Prop := w.cell? ⟨g, 0, none⟩ = some (.int .i64 a) ∧ w.cell? ⟨g, 1, none⟩ = some (.int .i64 b) ∧ w.cell? ⟨g, 2, none⟩ = some (.int .i64 c) ∧ w.cell? ⟨g, 3, none⟩ = some (.int .i64 d) ∧ w.cell? ⟨g, 4, none⟩ = some (.int .i64 e) ∧ w.cell? ⟨g, 5, none⟩ = some (.int .i64 f)
theorem fresh6_a {v w8 : World} {g : Nat} (hg : v.heap.size = g) (hb : Below ((v.alloc (.cells #[.int .i64 0, .int .i64 0, .int .i64 0, .int .i64 0, .int .i64 0, .int .i64 0] 59))).heap.size ((v.alloc (.cells #[.int .i64 0, .int .i64 0, .int .i64 0, .int .i64 0, .int .i64 0, .int .i64 0] 59))) w8) : M1 w8 g 0 0 0 0 0 0 ∧ (w8.frozen? ⟨g, 0, none⟩ = false ∧ w8.frozen? ⟨g, 1, none⟩ = false ∧ w8.frozen? ⟨g, 2, none⟩ = false ∧ w8.frozen? ⟨g, 3, none⟩ = false ∧ w8.frozen? ⟨g, 4, none⟩ = false ∧ w8.frozen? ⟨g, 5, none⟩ = false) ∧ g < w8.heap.size := by
  subst hg
  have c0 : w8.cell? ⟨v.heap.size, 0, none⟩ = some (.int .i64 0) := cl_kept hb (by simp [go_sem])
  refine ⟨⟨c0, cl_kept hb (by simp [go_sem]), cl_kept hb (by simp [go_sem]), cl_kept hb (by simp [go_sem]), cl_kept hb (by simp [go_sem]), cl_kept hb (by simp [go_sem])⟩, ⟨?_, ?_, ?_, ?_, ?_, ?_⟩, World.block_lt_of_cell? _ _ c0⟩
  all_goals exact (hb.frozen (by simp)).trans (by simp [go_sem])
theorem fresh6_d {v w8 : World} {g : Nat} (hg : v.heap.size = g) (hb : Below ((v.alloc (.cells #[.int .i64 0, .int .i64 0, .int .i64 0, .int .i64 0, .int .i64 0, .int .i64 0] 59)).drew).heap.size ((v.alloc (.cells #[.int .i64 0, .int .i64 0, .int .i64 0, .int .i64 0, .int .i64 0, .int .i64 0] 59)).drew) w8) : M1 w8 g 0 0 0 0 0 0 ∧ (w8.frozen? ⟨g, 0, none⟩ = false ∧ w8.frozen? ⟨g, 1, none⟩ = false ∧ w8.frozen? ⟨g, 2, none⟩ = false ∧ w8.frozen? ⟨g, 3, none⟩ = false ∧ w8.frozen? ⟨g, 4, none⟩ = false ∧ w8.frozen? ⟨g, 5, none⟩ = false) ∧ g < w8.heap.size := by
  subst hg
  have c0 : w8.cell? ⟨v.heap.size, 0, none⟩ = some (.int .i64 0) := cl_kept hb (by simp [go_sem])
  refine ⟨⟨c0, cl_kept hb (by simp [go_sem]), cl_kept hb (by simp [go_sem]), cl_kept hb (by simp [go_sem]), cl_kept hb (by simp [go_sem]), cl_kept hb (by simp [go_sem])⟩, ⟨?_, ?_, ?_, ?_, ?_, ?_⟩, World.block_lt_of_cell? _ _ c0⟩
  all_goals exact (hb.frozen (by simp)).trans (by simp [go_sem])
theorem fresh6_dd {v w8 : World} {g : Nat} (hg : v.heap.size = g) (hb : Below ((v.alloc (.cells #[.int .i64 0, .int .i64 0, .int .i64 0, .int .i64 0, .int .i64 0, .int .i64 0] 59)).drew.drew).heap.size ((v.alloc (.cells #[.int .i64 0, .int .i64 0, .int .i64 0, .int .i64 0, .int .i64 0, .int .i64 0] 59)).drew.drew) w8) : M1 w8 g 0 0 0 0 0 0 ∧ (w8.frozen? ⟨g, 0, none⟩ = false ∧ w8.frozen? ⟨g, 1, none⟩ = false ∧ w8.frozen? ⟨g, 2, none⟩ = false ∧ w8.frozen? ⟨g, 3, none⟩ = false ∧ w8.frozen? ⟨g, 4, none⟩ = false ∧ w8.frozen? ⟨g, 5, none⟩ = false) ∧ g < w8.heap.size := by
  subst hg
  have c0 : w8.cell? ⟨v.heap.size, 0, none⟩ = some (.int .i64 0) := cl_kept hb (by simp [go_sem])
  refine ⟨⟨c0, cl_kept hb (by simp [go_sem]), cl_kept hb (by simp [go_sem]), cl_kept hb (by simp [go_sem]), cl_kept hb (by simp [go_sem]), cl_kept hb (by simp [go_sem])⟩, ⟨?_, ?_, ?_, ?_, ?_, ?_⟩, World.block_lt_of_cell? _ _ c0⟩
  all_goals exact (hb.frozen (by simp)).trans (by simp [go_sem])
theorem fresh6_ddd {v w8 : World} {g : Nat} (hg : v.heap.size = g) (hb : Below ((v.alloc (.cells #[.int .i64 0, .int .i64 0, .int .i64 0, .int .i64 0, .int .i64 0, .int .i64 0] 59)).drew.drew.drew).heap.size ((v.alloc (.cells #[.int .i64 0, .int .i64 0, .int .i64 0, .int .i64 0, .int .i64 0, .int .i64 0] 59)).drew.drew.drew) w8) : M1 w8 g 0 0 0 0 0 0 ∧ (w8.frozen? ⟨g, 0, none⟩ = false ∧ w8.frozen? ⟨g, 1, none⟩ = false ∧ w8.frozen? ⟨g, 2, none⟩ = false ∧ w8.frozen? ⟨g, 3, none⟩ = false ∧ w8.frozen? ⟨g, 4, none⟩ = false ∧ w8.frozen? ⟨g, 5, none⟩ = false) ∧ g < w8.heap.size := by
  subst hg
  have c0 : w8.cell? ⟨v.heap.size, 0, none⟩ = some (.int .i64 0) := cl_kept hb (by simp [go_sem])
  refine ⟨⟨c0, cl_kept hb (by simp [go_sem]), cl_kept hb (by simp [go_sem]), cl_kept hb (by simp [go_sem]), cl_kept hb (by simp [go_sem]), cl_kept hb (by simp [go_sem])⟩, ⟨?_, ?_, ?_, ?_, ?_, ?_⟩, World.block_lt_of_cell? _ _ c0⟩
  all_goals exact (hb.frozen (by simp)).trans (by simp [go_sem])
set_option maxRecDepth 100000 in
set_option maxHeartbeats 12800000 in
theorem placesOf_any (w : World) (cc ra rk : Nat) (ad : Option Addr) (L : List (Int × Int × Int)) (kd : Int × Int × Int × Int → Int) (hs : Steps w) (hPA : PA w ad ra L) (hK : KL w rk kd) (hJ : Joined L) (hL : L.length ≤ 300) (hnd : L.Nodup) (hbd : ∀ t ∈ L, (0 ≤ t.1 ∧ t.1 ≤ 8) ∧ (0 ≤ t.2.1 ∧ t.2.1 ≤ 8) ∧ (0 ≤ t.2.2 ∧ t.2.2 ≤ 3)) :
    Calls Tryd.prog 42 #[.agg #[.slice ad L.length cc, .map (some ra), .map (some rk)]] w fun e w' => Below w.heap.size w w' ∧ ((∃ M, Cons kd L M ∧ e = .returned (.tuple #[.slice (some ⟨w.heap.size + 1, 0, none⟩) L.length L.length, .int .i64 0]) ∧ MRow w' (w.heap.size + 1) L.length M) ∨ ((¬ ∃ N, Cons kd L N) ∧ e = .returned (.tuple #[.slice none 0 0, .int .i64 8]))) := by
  have HJN : Hid (∀ (W' : World) (i : Nat) (hi : i < L.length), Below w.heap.size w W' → Calls Tryd.prog 69 #[.agg #[.slice ad L.length cc, .map (some ra), .map (some rk)], .int .i64 (i : Int)] W' fun e w' => ∃ v, e = .returned v ∧ w'.ownsRow (W'.heap.size + 1) 108 5 v (jl L L[i] i 3).length (flatJ (jl L L[i] i 3)) ∧ Below W'.heap.size W' w') := fun W' i hi hW' => joints_any W' cc ra rk i ad L L[i].1 L[i].2.1 L[i].2.2 (hs.kept hW') (hPA.kept hW') hi rfl hL (hbd _ (List.getElem_mem hi))
  have HBY : Hid (∀ (W' : World) (i : Nat) (hi : i < L.length) (p q r s A B C D E F : Int), Below w.heap.size w W' → hasT L[i] (p, q, r, s) = true → GoodM (A, B, C, D, E, F) 800000 → Calls Tryd.prog 70 #[.agg #[.slice ad L.length cc, .map (some ra), .map (some rk)], .agg #[.int .i64 p, .int .i64 q, .int .i64 r, .int .i64 s], .agg #[.int .i64 A, .int .i64 B, .int .i64 C, .int .i64 D, .int .i64 E, .int .i64 F]] W' fun e w' => e = .returned (mv (farM kd (p, q, r, s) (A, B, C, D, E, F))) ∧ Below W'.heap.size W' w') := fun W' i hi p q r s A B C D E F hW' hh hm =>
    beyond_any W' ad L.length cc ra rk kd p q r s A B C D E F (hK.kept hW') (edge_bd hh (hbd _ (List.getElem_mem hi))).1 (edge_bd hh (hbd _ (List.getElem_mem hi))).2.1 (line_may hh (hbd _ (List.getElem_mem hi))) hm
  have HND : Hid (L.Nodup ∧ Joined L ∧ ∀ t ∈ L, (0 ≤ t.1 ∧ t.1 ≤ 8) ∧ (0 ≤ t.2.1 ∧ t.2.1 ≤ 8) ∧ (0 ≤ t.2.2 ∧ t.2.2 ≤ 3)) := ⟨hnd, hJ, hbd⟩
  have h0 : 0 < L.length := hJ.1
  clear hJ
  obtain ⟨i3, hi3, hz30, hz31, hz32⟩ := info_parts inf3
  have HI : Hid (Tryd.prog.info? 3 = some i3 ∧ i3.zero = some (.int .i64 0) ∧ i3.size = 1 ∧ i3.bytes = 8) := ⟨hi3, hz30, hz31, hz32⟩
  obtain ⟨i6, hi6, hz60, hz61, hz62⟩ := info_parts inf59
  have HI6 : Hid (Tryd.prog.info? 59 = some i6 ∧ i6.zero = some (.agg #[.int .i64 0, .int .i64 0, .int .i64 0, .int .i64 0, .int .i64 0, .int .i64 0]) ∧ i6.size = 6 ∧ i6.bytes = 48) := ⟨hi6, hz60, hz61, hz62⟩
  have il0 : (0 : Int) < (L.length : Int) := by omega
  have he := eqlM
  have hn := neqM
  clear hs hPA hK hnd hbd hi3 hz30 hz31 hz32 hi6 hz60 hz61 hz62
  go_enter Tryd.func42, Tryd.ntmps42
  go_wp2_with (at_make; refine wpList_make_full _ rfl (.tmp 13) (.tmp 13) 53 rfl (w.heap.size + 1) 59 i6 (.agg #[.int .i64 0, .int .i64 0, .int .i64 0, .int .i64 0, .int .i64 0, .int .i64 0]) 6 Tryd.underlying53 HI6.out.1 HI6.out.2.1 HI6.out.2.2.1 .i64 .i64 _ _ L.length rfl rfl rfl rfl ?b2 ?b3 ?b4 ?mk)
  case b2 =>
    rw [HI6.out.2.2.2]
    omega
  case b3 =>
    unfold maxLen
    omega
  case b4 => simp
  case mk =>
    intro w2 ho hg
    have hrow := maps_made ho
    have hlt : w.heap.size + 1 < w2.heap.size := World.block_lt_of_cell? _ _ (hrow 0 h0).1.1
    have hbl : Below w.heap.size w w2 := by
      have : Below (w.alloc (.cells #[.slice ad L.length cc, .map (some ra), .map (some rk)] 63)).heap.size (w.alloc (.cells #[.slice ad L.length cc, .map (some ra), .map (some rk)] 63)) w2 := (Below.refl _ _).grown hg (Nat.le_refl _) (fun k h => by cases h)
      exact bl_via (bl_alloc (bl_refl _)) this
    have hpb : PB w2 w.heap.size ad L.length cc ra rk := by
      have h3 : PB (w.alloc (.cells #[.slice ad L.length cc, .map (some ra), .map (some rk)] 63)) w.heap.size ad L.length cc ra rk := by simp [PB, go_sem]
      exact ⟨hg.cell h3.1 (by simp), hg.cell h3.2.1 (by simp), hg.cell h3.2.2 (by simp)⟩
    have HW2 : Hid (MRow w2 (w.heap.size + 1) L.length (fun _ => noM) ∧ Below w.heap.size w w2 ∧ PB w2 w.heap.size ad L.length cc ra rk) := ⟨hrow, hbl, hpb⟩
    obtain ⟨⟨a0, a1, a2, a3, a4, a5⟩, b0, b1, b2, b3, b4, b5⟩ := hrow 0 h0
    simp only [Nat.zero_mul, Nat.zero_add, noM] at a0 a1 a2 a3 a4 a5 b0 b1 b2 b3 b4 b5
    obtain ⟨p0, p1, p2⟩ := hpb
    clear ho hg hrow hbl
    have hlt0 : w.heap.size < w2.heap.size := by omega
    have hlt1 : w.heap.size < w2.heap.size + 1 := by omega
    go_wp2
    go_loopg [5, 22] L.length (fun gk s5 s22 wx => ∃ (n : Nat) (R : List Nat) (M : Nat → M6), n ≤ L.length ∧ gk = L.length - n ∧ s22 = .int .i64 (n : Int) ∧ MI kd L R M ∧ (∀ q, q ∉ R → M q = noM) ∧ (n ≤ R.length ∧ ∀ m (hm : m < R.length), m < n → EdN kd L R M R[m] 3) ∧ PlM w wx ad L.length cc ra rk M R s5)
    case atStart =>
      refine ⟨0, [0], fun q => if q = 0 then idM else noM, by omega, rfl, rfl, MI.start h0 (by simp), fun q hq => by simp at hq; simp [hq], ⟨by simp, fun m _ h => by omega⟩, ?_⟩
      have hg6 := set6_grown w2 (w.heap.size + 1) 0 idM
      have hz6 := hg6.size
      refine ⟨(HW2.out.1.set6 h0 idM).kept (bl_alloc (bl_refl _)), ?_, ?_, ?_, ?_⟩
      · have := owns_one (set6 w2 (w.heap.size + 1) 0 idM) (w.heap.size + 1 + 1) (.int .i64 0) (by omega)
        simpa [rowN, set6, idM] using this
      · exact bl_alloc (HW2.out.2.1.grown hg6 HW2.out.2.1.size (fun k hk => by simp at hk; omega))
      · have h3 : PB (set6 w2 (w.heap.size + 1) 0 idM) w.heap.size ad L.length cc ra rk := ⟨hg6.cell HW2.out.2.2.1 (by simp), hg6.cell HW2.out.2.2.2.1 (by simp), hg6.cell HW2.out.2.2.2.2 (by simp)⟩
        exact h3.kept (bl_alloc (bl_refl _))
      · simp
        omega
    case round =>
      clear HW2 a0 a1 a2 a3 a4 a5 b0 b1 b2 b3 b4 b5 p0 p1 p2 hlt hlt0 hlt1
      obtain ⟨n, R, M, hn, rfl, rfl, hI, hno, hE, hM⟩ := hrel
      obtain ⟨vA, hvA⟩ : ∃ u, u = u5 := ⟨_, rfl⟩
      subst hvA
      have hRp : 0 < R.length := List.length_pos_of_mem hI.1
      obtain ⟨rb, rc, rfl, hrb, hrc⟩ := hM.slice hRp
      have hRL := hI.len
      have HM : Hid (PlM w wr ad L.length cc ra rk M R (.slice (some ⟨rb, 0, none⟩) R.length rc)) := hM
      have HSP : Hid (MI kd L R M ∧ (∀ q, q ∉ R → M q = noM) ∧ (n ≤ R.length ∧ ∀ m (hm : m < R.length), m < n → EdN kd L R M R[m] 3)) := ⟨hI, hno, hE⟩
      obtain ⟨p0, p1, p2⟩ := hM.2.2.2.1
      have zp : w.heap.size < wr.heap.size := World.block_lt_of_cell? _ _ p0
      by_cases h1 : n < L.length
      · have hnR : n < R.length := by
          rcases Nat.lt_or_ge n R.length with h | h
          · exact h
          · exfalso
            have ha := (MI.cons HND.out.2.1 HND.out.1 hI (fun i hi => by
              obtain ⟨m, hm, e⟩ := List.getElem_of_mem hi
              subst e
              exact hE.2 m hm (by omega))).1
            have := len_of_all L.length R ha
            omega
        have rcn := hrc n hnR
        have zr : rb < wr.heap.size := World.block_lt_of_cell? _ _ rcn
        have hRn : R[n] ∈ R := List.getElem_mem hnR
        obtain ⟨hi, hgi⟩ := hI.2.2.2.1 R[n] hRn
        obtain ⟨i, hie⟩ : ∃ i, i = R[n] := ⟨_, rfl⟩
        rw [← hie] at rcn hi
        have HIE : Hid (i = R[n]) := hie
        have HIR : Hid (i ∈ R) := by rw [hie]; exact hRn
        clear hI hno hE hM hrc hie hRn hgi
        have n1 : (n : Int) < (L.length : Int) := by omega
        have i1 : (n : Int) < (R.length : Int) := by omega
        have i0 : (0 : Int) ≤ (n : Int) := by omega
        have k1 : (i : Int) < (L.length : Int) := by omega
        have k0 : (0 : Int) ≤ (i : Int) := by omega
        obtain ⟨J, hJ⟩ : ∃ J, J = jl L L[i] i 3 := ⟨_, rfl⟩
        have hJl : J.length ≤ 900 := by
          have := jl_len L L[i] i 3
          rw [hJ]
          omega
        have CJ : Hid (∀ W' : World, Below wr.heap.size wr W' → Calls Tryd.prog 69 #[.agg #[.slice ad L.length cc, .map (some ra), .map (some rk)], .int .i64 (i : Int)] W' fun e w' => ∃ v, e = .returned v ∧ w'.ownsRow (W'.heap.size + 1) 108 5 v J.length (flatJ J) ∧ Below W'.heap.size W' w') := fun W' hW' => by
          rw [hJ]
          exact HJN.out W' i hi (bl_via HM.out.2.2.1 hW')
        have HJ : Hid (J = jl L L[i] i 3) := hJ
        clear hJ
        go_wp2_with (go_at_call 69; refine (CJ.out _ (by with_reducible exact bl_refl _)).mono ?_; rintro e w8 ⟨v8, rfl, hown, hb⟩; obtain ⟨ja, jc, rfl, hjr⟩ := own_jw hown; have HW8 : Hid (JW w8 (w.heap.size + 1 + 1) ja J ∧ PlM w w8 ad L.length cc ra rk M R (.slice (some ⟨rb, 0, none⟩) R.length rc)) := ⟨hjr.mono (by have := HM.out.2.2.2.2; omega), HM.out.kept hb⟩; clear hown hjr hb)
        go_loopg [5, 33] J.length (fun gk s5 s33 wx => ∃ (m : Nat) (Y : List Nat) (M' : Nat → M6), m ≤ J.length ∧ gk = J.length - m ∧ s33 = .int .i64 (m : Int) ∧ MI kd L (R ++ Y) M' ∧ (∀ q, q ∉ R ++ Y → M' q = noM) ∧ (∀ q ∈ R, M' q = M q) ∧ (∀ m' (h : m' < J.length), m' < m → ∀ j : Nat, J[m'].2 = (j : Int) → j ∈ R ++ Y ∧ M' j = farM kd J[m'].1 (M' i)) ∧ PlM w wx ad L.length cc ra rk M' (R ++ Y) s5 ∧ JW wx (w.heap.size + 1 + 1) ja J)
        case atStart => exact ⟨0, [], M, by omega, rfl, rfl, by simpa using HSP.out.1, by simpa using HSP.out.2.1, fun q _ => rfl, fun m' _ h => by omega, by simpa using HW8.out.2, HW8.out.1⟩
        case round =>
          clear HM HW8 CJ p0 p1 p2 zp zr rcn hrb
          obtain ⟨m, Y, M', hm, rfl, rfl, hI, hno, hsame, hE, hM, hjr⟩ := hrel
          obtain ⟨vC, hvC⟩ : ∃ u, u = u5 := ⟨_, rfl⟩
          subst hvC
          have HS3 : Hid (MI kd L (R ++ Y) M' ∧ (∀ q, q ∉ R ++ Y → M' q = noM) ∧ (∀ q ∈ R, M' q = M q) ∧ (∀ m' (h : m' < J.length), m' < m → ∀ j : Nat, J[m'].2 = (j : Int) → j ∈ R ++ Y ∧ M' j = farM kd J[m'].1 (M' i))) := ⟨hI, hno, hsame, hE⟩
          have HM : Hid (PlM w wr ad L.length cc ra rk M' (R ++ Y) vC) := hM
          have HR : Hid (JW wr (w.heap.size + 1 + 1) ja J) := hjr
          clear hI hno hsame hE hM hjr
          obtain ⟨p0, p1, p2⟩ := HM.out.2.2.2.1
          have zp : w.heap.size < wr.heap.size := World.block_lt_of_cell? _ _ p0
          have zp1 : w.heap.size < wr.heap.size + 1 := by omega
          by_cases hm1 : m < J.length
          · have im : (m : Int) < (J.length : Int) := by omega
            have im0 : (0 : Int) ≤ (m : Int) := by omega
            obtain ⟨jb, rfl, c0, c1, c2, c3, c4⟩ := HR.out.1 m hm1
            have zjb : jb < wr.heap.size := World.block_lt_of_cell? _ _ c0
            obtain ⟨q, hq⟩ : ∃ q, q = J[m] := ⟨_, rfl⟩
            obtain ⟨⟨q0, q1, q2, q3⟩, qj⟩ := q
            rw [← hq] at c0 c1 c2 c3 c4
            dsimp only at c0 c1 c2 c3 c4
            have HQ : Hid (((q0, q1, q2, q3), qj) = J[m]) := hq
            have hmem : ((q0, q1, q2, q3), qj) ∈ jl L L[i] i 3 := by rw [← HJ.out, hq]; exact List.getElem_mem hm1
            obtain ⟨k, hk, hke, j, hj, rfl, hji, hjt⟩ := jl_mem.1 hmem
            have hit : hasT L[i] (q0, q1, q2, q3) = true := by rw [hke]; exact edg_own _ _
            have HJ2 : Hid (j ≠ i ∧ hasT L[i] (q0, q1, q2, q3) = true ∧ hasT L[j] (q0, q1, q2, q3) = true) := ⟨hji, hit, hjt⟩
            have hgi := ((HS3.out.1.2.2.2.1 i (List.mem_append_left _ HIR.out)).2).mono (C := 800000) (by have := HS3.out.1.len; omega)
            obtain ⟨⟨y0, y1, y2, y3, y4, y5⟩, _⟩ := HM.out.1 i hi
            obtain ⟨A, B, C, D, E, F, hmi⟩ : ∃ A B C D E F, M' i = (A, B, C, D, E, F) := ⟨_, _, _, _, _, _, rfl⟩
            have HMI : Hid (M' i = (A, B, C, D, E, F)) := hmi
            rw [hmi] at y0 y1 y2 y3 y4 y5 hgi
            dsimp only at y0 y1 y2 y3 y4 y5
            obtain ⟨f0, f1, f2, f3, f4, f5, hfar⟩ : ∃ f0 f1 f2 f3 f4 f5, farM kd (q0, q1, q2, q3) (A, B, C, D, E, F) = (f0, f1, f2, f3, f4, f5) := ⟨_, _, _, _, _, _, rfl⟩
            have HFAR : Hid (farM kd (q0, q1, q2, q3) (M' i) = (f0, f1, f2, f3, f4, f5)) := by rw [hmi]; exact hfar
            have CB : Hid (∀ W' : World, Below wr.heap.size wr W' → Calls Tryd.prog 70 #[.agg #[.slice ad L.length cc, .map (some ra), .map (some rk)], .agg #[.int .i64 q0, .int .i64 q1, .int .i64 q2, .int .i64 q3], .agg #[.int .i64 A, .int .i64 B, .int .i64 C, .int .i64 D, .int .i64 E, .int .i64 F]] W' fun e w' => e = .returned (.agg #[.int .i64 f0, .int .i64 f1, .int .i64 f2, .int .i64 f3, .int .i64 f4, .int .i64 f5]) ∧ Below W'.heap.size W' w') := fun W' hW' => by
              have h := HBY.out W' i hi q0 q1 q2 q3 A B C D E F (bl_via HM.out.2.2.1 hW') hit hgi
              rw [hfar] at h
              exact h
            have zg : w.heap.size + 1 < wr.heap.size := World.block_lt_of_cell? _ _ y0
            have zg1 : w.heap.size + 1 < wr.heap.size + 1 := by omega
            have ij : (j : Int) < (L.length : Int) := by omega
            have ij0 : (0 : Int) ≤ (j : Int) := by omega
            clear hmem hke hjt hq hji hit hgi hmi hfar
            go_wp2
            refine wp_named (fun W0 hW0 => ?_)
            have HB0 : Hid (Below wr.heap.size wr W0) := by
              have : Below wr.heap.size wr W0 := by rw [hW0]; exact bl_alloc (bl_refl _)
              exact this
            obtain ⟨B9, hB9⟩ : ∃ b, b = wr.heap.size := ⟨_, rfl⟩
            have x0 : W0.cell? ⟨B9, 0, none⟩ = some (.int .i64 q0) := by rw [hW0, hB9]; simp [go_sem]
            have x1 : W0.cell? ⟨B9, 1, none⟩ = some (.int .i64 q1) := by rw [hW0, hB9]; simp [go_sem]
            have x2 : W0.cell? ⟨B9, 2, none⟩ = some (.int .i64 q2) := by rw [hW0, hB9]; simp [go_sem]
            have x3 : W0.cell? ⟨B9, 3, none⟩ = some (.int .i64 q3) := by rw [hW0, hB9]; simp [go_sem]
            have x4 : W0.cell? ⟨B9, 4, none⟩ = some (.int .i64 (j : Int)) := by rw [hW0, hB9]; simp [go_sem]
            clear hW0
            rw [← hB9]
            have zB : w.heap.size + 1 < B9 := by omega
            clear hB9
            replace p0 : W0.cell? ⟨w.heap.size, 0, none⟩ = some (.slice ad L.length cc) := cl_kept HB0.out p0
            replace p1 : W0.cell? ⟨w.heap.size, 1, none⟩ = some (.map (some ra)) := cl_kept HB0.out p1
            replace p2 : W0.cell? ⟨w.heap.size, 2, none⟩ = some (.map (some rk)) := cl_kept HB0.out p2
            replace y0 : W0.cell? ⟨w.heap.size + 1, i * 6, none⟩ = some (.int .i64 A) := cl_kept HB0.out y0
            replace y1 : W0.cell? ⟨w.heap.size + 1, i * 6 + 1, none⟩ = some (.int .i64 B) := cl_kept HB0.out y1
            replace y2 : W0.cell? ⟨w.heap.size + 1, i * 6 + 2, none⟩ = some (.int .i64 C) := cl_kept HB0.out y2
            replace y3 : W0.cell? ⟨w.heap.size + 1, i * 6 + 3, none⟩ = some (.int .i64 D) := cl_kept HB0.out y3
            replace y4 : W0.cell? ⟨w.heap.size + 1, i * 6 + 4, none⟩ = some (.int .i64 E) := cl_kept HB0.out y4
            replace y5 : W0.cell? ⟨w.heap.size + 1, i * 6 + 5, none⟩ = some (.int .i64 F) := cl_kept HB0.out y5
            have zW : w.heap.size < W0.heap.size := World.block_lt_of_cell? _ _ p0
            have zW1 : w.heap.size + 1 < W0.heap.size := World.block_lt_of_cell? _ _ y0
            have zWB : B9 < W0.heap.size := World.block_lt_of_cell? _ _ x0
            have CB0 : Hid (∀ W' : World, Below W0.heap.size W0 W' → Calls Tryd.prog 70 #[.agg #[.slice ad L.length cc, .map (some ra), .map (some rk)], .agg #[.int .i64 q0, .int .i64 q1, .int .i64 q2, .int .i64 q3], .agg #[.int .i64 A, .int .i64 B, .int .i64 C, .int .i64 D, .int .i64 E, .int .i64 F]] W' fun e w' => e = .returned (.agg #[.int .i64 f0, .int .i64 f1, .int .i64 f2, .int .i64 f3, .int .i64 f4, .int .i64 f5]) ∧ Below W'.heap.size W' w') := fun W' hW' => CB.out W' (bl_via HB0.out hW')
            go_cut [10] (fun s10 wx => ∃ g10 : Nat, s10 = .pointer (some ⟨g10, 0, none⟩) ∧ M1 wx g10 f0 f1 f2 f3 f4 f5 ∧ Below W0.heap.size W0 wx ∧ W0.heap.size ≤ g10)
            case first =>
              go_region_held3 (fun w' => w'.cell? ⟨w.heap.size, 0, none⟩ = some (.slice ad L.length cc) ∧ w'.cell? ⟨w.heap.size, 1, none⟩ = some (.map (some ra)) ∧ w'.cell? ⟨w.heap.size, 2, none⟩ = some (.map (some rk)) ∧ w'.cell? ⟨B9, 0, none⟩ = some (.int .i64 q0) ∧ w'.cell? ⟨B9, 1, none⟩ = some (.int .i64 q1) ∧ w'.cell? ⟨B9, 2, none⟩ = some (.int .i64 q2) ∧ w'.cell? ⟨B9, 3, none⟩ = some (.int .i64 q3) ∧ w'.cell? ⟨w.heap.size + 1, i * 6, none⟩ = some (.int .i64 A) ∧ w'.cell? ⟨w.heap.size + 1, i * 6 + 1, none⟩ = some (.int .i64 B) ∧ w'.cell? ⟨w.heap.size + 1, i * 6 + 2, none⟩ = some (.int .i64 C) ∧ w'.cell? ⟨w.heap.size + 1, i * 6 + 3, none⟩ = some (.int .i64 D) ∧ w'.cell? ⟨w.heap.size + 1, i * 6 + 4, none⟩ = some (.int .i64 E) ∧ w'.cell? ⟨w.heap.size + 1, i * 6 + 5, none⟩ = some (.int .i64 F))
                ((refine ⟨?_, ?_, ?_, ?_, ?_, ?_, ?_, ?_, ?_, ?_, ?_, ?_, ?_⟩ <;> (repeat' (first | (with_reducible assumption) | (with_reducible refine st_far ?_ ?_) | (dsimp only; omega) | (simp [go_sem]; done) | (with_reducible refine al_old ?_) | (with_reducible refine dr_old ?_)))))
                ((go_at_call 70; refine (CB0.out _ (by with_reducible repeat (first | exact bl_refl _ | refine bl_drew ?_ | refine bl_alloc ?_))).mono ?_; rintro e w8 ⟨rfl, hb⟩; have p0_8 : w8.cell? ⟨w.heap.size, 0, none⟩ = some (.slice ad L.length cc) := cl_kept hb (by with_reducible (repeat (first | assumption | refine dr_old ?_ | refine al_old ?_))); have p1_8 : w8.cell? ⟨w.heap.size, 1, none⟩ = some (.map (some ra)) := cl_kept hb (by with_reducible (repeat (first | assumption | refine dr_old ?_ | refine al_old ?_))); have p2_8 : w8.cell? ⟨w.heap.size, 2, none⟩ = some (.map (some rk)) := cl_kept hb (by with_reducible (repeat (first | assumption | refine dr_old ?_ | refine al_old ?_))); have x0_8 : w8.cell? ⟨B9, 0, none⟩ = some (.int .i64 q0) := cl_kept hb (by with_reducible (repeat (first | assumption | refine dr_old ?_ | refine al_old ?_))); have x1_8 : w8.cell? ⟨B9, 1, none⟩ = some (.int .i64 q1) := cl_kept hb (by with_reducible (repeat (first | assumption | refine dr_old ?_ | refine al_old ?_))); have x2_8 : w8.cell? ⟨B9, 2, none⟩ = some (.int .i64 q2) := cl_kept hb (by with_reducible (repeat (first | assumption | refine dr_old ?_ | refine al_old ?_))); have x3_8 : w8.cell? ⟨B9, 3, none⟩ = some (.int .i64 q3) := cl_kept hb (by with_reducible (repeat (first | assumption | refine dr_old ?_ | refine al_old ?_))); have y0_8 : w8.cell? ⟨w.heap.size + 1, i * 6, none⟩ = some (.int .i64 A) := cl_kept hb (by with_reducible (repeat (first | assumption | refine dr_old ?_ | refine al_old ?_))); have y1_8 : w8.cell? ⟨w.heap.size + 1, i * 6 + 1, none⟩ = some (.int .i64 B) := cl_kept hb (by with_reducible (repeat (first | assumption | refine dr_old ?_ | refine al_old ?_))); have y2_8 : w8.cell? ⟨w.heap.size + 1, i * 6 + 2, none⟩ = some (.int .i64 C) := cl_kept hb (by with_reducible (repeat (first | assumption | refine dr_old ?_ | refine al_old ?_))); have y3_8 : w8.cell? ⟨w.heap.size + 1, i * 6 + 3, none⟩ = some (.int .i64 D) := cl_kept hb (by with_reducible (repeat (first | assumption | refine dr_old ?_ | refine al_old ?_))); have y4_8 : w8.cell? ⟨w.heap.size + 1, i * 6 + 4, none⟩ = some (.int .i64 E) := cl_kept hb (by with_reducible (repeat (first | assumption | refine dr_old ?_ | refine al_old ?_))); have y5_8 : w8.cell? ⟨w.heap.size + 1, i * 6 + 5, none⟩ = some (.int .i64 F) := cl_kept hb (by with_reducible (repeat (first | assumption | refine dr_old ?_ | refine al_old ?_))); (first | (have hfz := fresh6_a (g := W0.heap.size) rfl hb; obtain ⟨⟨fy0, fy1, fy2, fy3, fy4, fy5⟩, ⟨fz0, fz1, fz2, fz3, fz4, fz5⟩, fzz⟩ := hfz) | (have hfz := fresh6_d (g := W0.heap.size) rfl hb; obtain ⟨⟨fy0, fy1, fy2, fy3, fy4, fy5⟩, ⟨fz0, fz1, fz2, fz3, fz4, fz5⟩, fzz⟩ := hfz) | (have hfz := fresh6_dd (g := W0.heap.size) rfl hb; obtain ⟨⟨fy0, fy1, fy2, fy3, fy4, fy5⟩, ⟨fz0, fz1, fz2, fz3, fz4, fz5⟩, fzz⟩ := hfz) | skip); have hq : Below W0.heap.size W0 w8 := (by with_reducible (first | exact hb | exact bl_undrew hb | exact bl_undrew (bl_undrew hb) | exact bl_via (bl_alloc (bl_refl _)) hb | exact bl_via (bl_drew (bl_alloc (bl_refl _))) hb | exact bl_via (bl_alloc (bl_drew (bl_refl _))) hb | exact bl_via (bl_drew (bl_alloc (bl_drew (bl_refl _)))) hb | exact bl_via (bl_drew (bl_drew (bl_alloc (bl_refl _)))) hb | exact bl_via (bl_alloc (bl_drew (bl_drew (bl_refl _)))) hb)); have HQ8 : Hid (Below W0.heap.size W0 w8) := hq; have zs0 : w.heap.size < w8.heap.size := World.block_lt_of_cell? _ _ p0_8; have zs1 : w.heap.size + 1 < w8.heap.size := World.block_lt_of_cell? _ _ y0_8; have zs2 : B9 < w8.heap.size := World.block_lt_of_cell? _ _ x0_8; have zs3 := hq.size; clear hb hq))
              all_goals
                go_wp2
                go_meet
                case rel =>
                  refine ⟨_, rfl, ?_, ?_, ?_⟩
                  · first | (simp [M1, go_sem]; done) | (simp [M1, go_sem, *]; done)
                  · with_reducible repeat' (first | exact HQ8.out | refine bl_set ?_ ?_ | refine bl_alloc ?_ | refine bl_drew ?_)
                    all_goals (first | omega | (dsimp only; omega) | (simp; done))
                  · first | exact Nat.le_refl _ | omega | (simp; omega)
            case rest =>
              obtain ⟨g10, rfl, hM1, hBc, hg10⟩ := hcut
              have HMc : Hid (PlM w wc ad L.length cc ra rk M' (R ++ Y) vC) := HM.out.kept (bl_via HB0.out hBc)
              have HRc : Hid (JW wc (w.heap.size + 1 + 1) (some ⟨jb, 0, none⟩) J) := HR.out.kept (bl_via HB0.out hBc)
              have x4c := cl_kept hBc x4
              obtain ⟨g0, g1, g2, g3, g4, g5⟩ := hM1
              have z10 : g10 < wc.heap.size := World.block_lt_of_cell? _ _ g0
              have zB9 : B9 < wc.heap.size := World.block_lt_of_cell? _ _ x4c
              obtain ⟨⟨v0, v1, v2, v3, v4, v5⟩, b0, b1, b2, b3, b4, b5⟩ := HMc.out.1 j hj
              have zgc : w.heap.size + 1 < wc.heap.size := World.block_lt_of_cell? _ _ v0
              have hne9 : w.heap.size + 1 ≠ B9 := by omega
              have hne10 : w.heap.size + 1 ≠ g10 := by omega
              have hne9' : B9 ≠ w.heap.size + 1 := by omega
              have hne10' : g10 ≠ w.heap.size + 1 := by omega
              clear HB0 CB CB0 hBc HM HR p0 p1 p2 x0 x1 x2 x3 x4 y0 y1 y2 y3 y4 y5 c0 c1 c2 c3 c4 zp zp1 zjb zg zg1 zW zW1 zWB hg10 zB
              have HJ3 : Hid (∀ m' (h : m' < J.length), m' = m → J[m'] = ((q0, q1, q2, q3), (j : Int))) := fun m' h e => by
                subst e
                exact HQ.out.symm
              by_cases hjm : j ∈ R ++ Y
              · obtain ⟨a0, a1, a2, a3, a4, a5, hmj⟩ : ∃ a0 a1 a2 a3 a4 a5, M' j = (a0, a1, a2, a3, a4, a5) := ⟨_, _, _, _, _, _, rfl⟩
                rw [hmj] at v0 v1 v2 v3 v4 v5
                dsimp only at v0 v1 v2 v3 v4 v5
                have hz : sameM a0 a1 a2 a3 a4 a5 0 0 0 0 0 0 = false := by
                  cases hc : sameM a0 a1 a2 a3 a4 a5 0 0 0 0 0 0 with
                  | false => rfl
                  | true =>
                    exfalso
                    simp only [sameM, decide_eq_true_eq] at hc
                    obtain ⟨rfl, rfl, rfl, rfl, rfl, rfl⟩ := hc
                    have h9 := (HS3.out.1.2.2.2.1 j hjm).2.1
                    rw [hmj] at h9
                    exact absurd h9 (by decide)
                by_cases heq : (a0, a1, a2, a3, a4, a5) = (f0, f1, f2, f3, f4, f5)
                · have hsm : sameM a0 a1 a2 a3 a4 a5 f0 f1 f2 f3 f4 f5 = true := by
                    simp only [Prod.mk.injEq] at heq
                    simp only [sameM, decide_eq_true_eq]
                    exact heq
                  have HOK : Hid (j ∈ R ++ Y ∧ M' j = farM kd (q0, q1, q2, q3) (M' i)) := ⟨hjm, by rw [hmj, heq]; exact HFAR.out.symm⟩
                  clear heq hmj
                  go_wp2
                  go_quiet (fail)
                  go_wp2
                  go_roundg (J.length - (m + 1))
                  case measure => omega
                  case rel =>
                    refine ⟨m + 1, Y, M', by omega, rfl, by go_num, HS3.out.1, HS3.out.2.1, HS3.out.2.2.1, fun m' h' hm' j' hj' => ?_, HMc.out.kept (bl_drewN (bl_refl _)), HRc.out.kept (bl_drewN (bl_refl _))⟩
                    by_cases em : m' = m
                    · rw [HJ3.out m' h' em] at hj' ⊢
                      simp only at hj'
                      have : j' = j := by omega
                      subst this
                      exact HOK.out
                    · exact HS3.out.2.2.2 m' h' (by omega) j' hj'
                · have hsm : sameM a0 a1 a2 a3 a4 a5 f0 f1 f2 f3 f4 f5 = false := by
                    simp only [Prod.mk.injEq] at heq
                    simp only [sameM, decide_eq_false_iff_not]
                    exact heq
                  have HTE : Hid (¬ ∃ N, Cons kd L N) := HS3.out.1.tear (i := i) (j := j) (List.mem_append_left _ HIR.out) hjm (fun e => HJ2.out.1 e.symm) (e := (q0, q1, q2, q3)) (fun _ => HJ2.out.2.1) (fun _ => HJ2.out.2.2) (by rw [HFAR.out, hmj]; exact heq)
                  clear heq hmj
                  go_wp2
                  go_quiet (fail)
                  go_wp2
                  exact bodyPost_ret (v := .tuple #[.slice none 0 0, .int .i64 8]) (by simp [results, Tryd.results42, go_sem]) rfl ⟨bl_drewN HMc.out.2.2.1, Or.inr ⟨HTE.out, rfl⟩⟩
              · have hmj : M' j = noM := HS3.out.2.1 j hjm
                rw [hmj] at v0 v1 v2 v3 v4 v5
                simp only [noM] at v0 v1 v2 v3 v4 v5
                have hz : sameM 0 0 0 0 0 0 0 0 0 0 0 0 = true := by decide
                have HF : Hid (MI kd L (R ++ (Y ++ [j])) (fun q => if q = j then (f0, f1, f2, f3, f4, f5) else M' q)) := by
                  have h9 := HS3.out.1.found hL HND.out.2.2 (i := i) (j := j) (List.mem_append_left _ HIR.out) hj hjm (e := (q0, q1, q2, q3)) (fun _ => HJ2.out.2.1) HJ2.out.2.2
                  rw [HFAR.out, List.append_assoc] at h9
                  exact h9
                have hlen : (R ++ Y).length + 1 ≤ 1000 := by
                  have := HS3.out.1.len
                  omega
                have hbase := HMc.out.2.2.2.2
                clear hmj
                go_wp2_with (at_builtin; refine wpList_append_own _ rfl (.tmp 57) (.tmp 60) 22 rfl (w.heap.size + 1 + 1) 3 i3 (.int .i64 0) 1 8 Tryd.underlying22 HI.out.1 HI.out.2.1 HI.out.2.2.1 HI.out.2.2.2 rfl (by decide) vC (R ++ Y).length (rowN (R ++ Y)) rfl ?own ⟨wc.heap.size, 0, none⟩ 1 1 [.int .i64 (j : Int)] rfl rfl ?c1 ?c2 ?b1 ?b2 ?b3 ?grow)
                case own =>
                  try rw [← List.length_append]
                  exact (HMc.out.2.1.kept (set6_grown wc (w.heap.size + 1) j (f0, f1, f2, f3, f4, f5)) (by
                    cases hu : vC.ownBlock with
                    | none => exact Or.inl rfl
                    | some q =>
                      refine Or.inr (fun e1 => ?_)
                      have := (HMc.out.2.1.lt q hu).1
                      simp at e1
                      omega)).alloc _
                case c1 => exact cell_one _ (by simp [go_sem])
                case c2 => exact one_cell _
                case b1 =>
                  unfold maxLen
                  first | omega | (rw [List.length_append] at hlen; omega)
                case b2 => first | omega | (rw [List.length_append] at hlen; omega)
                case b3 =>
                  simp
                  omega
                case grow =>
                  intro v' w3 hown hgrow _
                  rw [← List.length_append] at hown
                  have HM3 : Hid (PlM w w3 ad L.length cc ra rk (fun q => if q = j then (f0, f1, f2, f3, f4, f5) else M' q) (R ++ (Y ++ [j])) v') := by
                    have := HMc.out.more (m := (f0, f1, f2, f3, f4, f5)) hj (bl_alloc (bl_refl _)) hgrow hown
                    rwa [List.append_assoc] at this
                  have HR3 : Hid (JW w3 (w.heap.size + 1 + 1) (some ⟨jb, 0, none⟩) J) := by
                    have h0 := HRc.out.grown (set6_grown wc (w.heap.size + 1) j (f0, f1, f2, f3, f4, f5)) (fun g' hg' e1 => by
                      have h2 := (HRc.out.2 g' e1).1
                      simp at hg'
                      omega)
                    have h1 : JW w3 (w.heap.size + 1 + 1) (some ⟨jb, 0, none⟩) J := (h0.kept (bl_alloc (bl_refl _))).grown hgrow (HRc.out.not_row HMc.out.2.1)
                    exact h1
                  clear hown hgrow
                  go_wp2
                  go_roundg (J.length - (m + 1))
                  case measure => omega
                  case rel =>
                    have hsub : ∀ q ∈ R ++ Y, q ∈ R ++ (Y ++ [j]) := fun q hq => by
                      rw [← List.append_assoc]
                      exact List.mem_append_left _ hq
                    have hij : i ≠ j := fun e => HJ2.out.1 e.symm
                    refine ⟨m + 1, Y ++ [j], (fun q => if q = j then (f0, f1, f2, f3, f4, f5) else M' q), by omega, rfl, by go_num, HF.out, fun q hq => ?_, fun q hq => ?_, fun m' h' hm' j' hj' => ?_, HM3.out, HR3.out⟩
                    · have h8 : q ∉ R ++ Y := fun h => hq (hsub q h)
                      have h7 : q ≠ j := fun e => hq (by subst e; simp)
                      simp only [if_neg h7]
                      exact HS3.out.2.1 q h8
                    · have h7 : q ≠ j := fun e => hjm (by subst e; exact List.mem_append_left _ hq)
                      simp only [if_neg h7]
                      exact HS3.out.2.2.1 q hq
                    · simp only [if_neg hij]
                      by_cases em : m' = m
                      · rw [HJ3.out m' h' em] at hj' ⊢
                        simp only at hj'
                        have : j' = j := by omega
                        subst this
                        simp only [if_true]
                        exact ⟨by simp, HFAR.out.symm⟩
                      · have h6 := HS3.out.2.2.2 m' h' (by omega) j' hj'
                        have h7 : j' ≠ j := fun e => hjm (by subst e; exact h6.1)
                        simp only [if_neg h7]
                        exact ⟨hsub j' h6.1, h6.2⟩
          · have im : ¬ (m : Int) < (J.length : Int) := by omega
            obtain rfl : m = J.length := by omega
            go_wp2
            go_roundg (L.length - (n + 1))
            case measure => omega
            case rel =>
              have hmono : ∀ q ∈ R, q ∈ R ++ Y ∧ M' q = M q := fun q hq => ⟨List.mem_append_left _ hq, HS3.out.2.2.1 q hq⟩
              refine ⟨n + 1, R ++ Y, M', by omega, by omega, by go_num, HS3.out.1, HS3.out.2.1, ⟨by rw [List.length_append]; omega, fun m hm hmn => ?_⟩, HM.out⟩
              by_cases em : m = n
              · subst em
                have e1 : (R ++ Y)[m] = i := by rw [List.getElem_append_left hnR]; exact HIE.out.symm
                rw [e1]
                intro k hk hi' j hj hne hjt
                have hmem : (edg L[i] k, (j : Int)) ∈ J := by rw [HJ.out]; exact jl_mem.2 ⟨k, hk, rfl, j, hj, rfl, fun e => hne e.symm, hjt⟩
                obtain ⟨m', hm', e2⟩ := List.getElem_of_mem hmem
                have h9 := HS3.out.2.2.2 m' hm' hm' j (by rw [e2])
                rw [e2] at h9
                exact h9
              · have hmR : m < R.length := by omega
                have e1 : (R ++ Y)[m] = R[m] := List.getElem_append_left hmR
                rw [e1]
                exact (HSP.out.2.2.2 m hmR (by omega)).mono (List.getElem_mem hmR) hmono
      · have n1 : ¬ (n : Int) < (L.length : Int) := by omega
        obtain rfl : n = L.length := by omega
        clear hI hno hE hM hrc
        go_wp2
        refine bodyPost_ret (v := .tuple #[.slice (some ⟨w.heap.size + 1, 0, none⟩) L.length L.length, .int .i64 0]) (by simp [results, Tryd.results42, go_sem]) rfl ⟨HM.out.2.2.1, Or.inl ⟨M, ?_, rfl, HM.out.1⟩⟩
        exact (MI.cons HND.out.2.1 HND.out.1 HSP.out.1 (fun i hi => by
          obtain ⟨m, hm, e⟩ := List.getElem_of_mem hi
          subst e
          exact HSP.out.2.2.2 m hm (by omega))).2
end Go.Proofs.YtmjneoaciopioaaDoor
