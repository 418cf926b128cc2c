/- A paper that is being laid out: what lies where. -/
import Derived.Test.YtmjneoaciopioaaDoorQlbe
import Derived.Test.YtmjneoaciopioaaDoorQlbb
namespace Go.Proofs.YtmjneoaciopioaaDoor
open Go.RowKit Go.ChangeMaps

/-- The paper's own three cells. -/
def Pc (w : World) (pb ra rk : Nat) (vt : Value) : Prop :=
  w.cell? ⟨pb, 0, none⟩ = some vt ∧ w.cell? ⟨pb, 1, none⟩ = some (.map (some ra)) ∧ w.cell? ⟨pb, 2, none⟩ = some (.map (some rk)) ∧ w.frozen? ⟨pb, 0, none⟩ = false
theorem Pc.lt {w : World} {pb ra rk : Nat} {vt : Value} (h : Pc w pb ra rk vt) : pb < w.heap.size := World.block_lt_of_cell? _ _ h.1
theorem Pc.grown {w w' : World} {pb ra rk : Nat} {vt : Value} {row : Option Nat} (h : Pc w pb ra rk vt) (hg : w.grownBy w' row) (hne : some pb ≠ row) : Pc w' pb ra rk vt :=
  ⟨hg.cell h.1 hne, hg.cell h.2.1 hne, hg.cell h.2.2.1 hne, (World.frozen?_of_block (a := ⟨pb, 0, none⟩) (hg.block pb h.lt hne)).trans h.2.2.2⟩
theorem Pc.apart {w : World} {pb ra rk r : Nat} {vt : Value} {ls : List ((Int × Int × Int × Int) × Value × Nat)} {c : Nat} (h : Pc w pb ra rk vt) (he : EM w r ls c) : pb ≠ r := by
  rintro rfl
  have := h.1
  unfold EM at he
  simp [World.cell?, he] at this

/-- The paper: its cells, its triangles, of each edge which have it; no crease yet; all of it newer than w0. -/
def PP (w0 w : World) (base pb ra rk : Nat) (vt : Value) (L : List (Int × Int × Int)) (G : Int × Int × Int × Int → List Int) : Prop :=
  Pc w pb ra rk vt ∧ w.ownsRow base 80 3 vt L.length (flatV L) ∧ GP w base ra vt G ∧ (∃ c, EM w rk [] c ∧ Good [] c) ∧ (w0.heap.size ≤ pb ∧ pb < base ∧ w0.heap.size ≤ ra ∧ ra < base ∧ w0.heap.size ≤ rk ∧ rk < base ∧ ra ≠ rk ∧ base ≤ w.heap.size) ∧ Below w0.heap.size w0 w
theorem PP.kept {w0 w w' : World} {base pb ra rk : Nat} {vt : Value} {L : List (Int × Int × Int)} {G : Int × Int × Int × Int → List Int} (h : PP w0 w base pb ra rk vt L G) (hb : Below w.heap.size w w') : PP w0 w' base pb ra rk vt L G := by
  obtain ⟨h1, h2, h3, ⟨c, h4, h4g⟩, ⟨a1, a2, a3, a4, a5, a6, a7, a8⟩, h6⟩ := h
  exact ⟨h1.grown (bl_grown hb) (by simp), own_below h2 hb, h3.kept hb, ⟨c, h4.grown (bl_grown hb) (by simp), h4g⟩, ⟨a1, a2, a3, a4, a5, a6, a7, Nat.le_trans a8 hb.size⟩, bl_via h6 hb⟩

theorem PP.entry {w0 wr w : World} {base pb ra rk : Nat} {vt : Value} {L : List (Int × Int × Int)} {G : Int × Int × Int × Int → List Int} (h : PP w0 wr base pb ra rk vt L G) (hb : Below wr.heap.size wr w) (e : Int × Int × Int × Int) (n : Int) :
    ∃ v0 st W2, (Instr.mapEntry 60 (.map (some ra)) (ek e)).run Tryd.prog w = .ok (.tuple #[v0, .int .i64 st]) W2 ∧ w.grownBy W2 (some ra) ∧ W2.heap.size = w.heap.size ∧ W2.ownsRow base 3 1 v0 (G e).length ((G e).map (Value.int .i64)) ∧ (∀ g, v0.ownBlock = some g → base ≤ g ∧ g < wr.heap.size) ∧
      ∀ v' W3, W2.grownBy W3 v0.ownBlock → W3.ownsRow base 3 1 v' ((G e).length + 1) ((G e).map (Value.int .i64) ++ [.int .i64 n]) → (v'.ownBlock = v0.ownBlock ∨ v'.ownBlock = some W2.heap.size) →
        ∃ W4, (Instr.entryStore 60 (.map (some ra)) (.int .i64 st) v').run Tryd.prog W3 = .ok () W4 ∧ W3.grownBy W4 (some ra) ∧ PP w0 W4 base pb ra rk vt L (fun j => if j = e then G e ++ [n] else G j) := by
  have hk := h.kept hb
  obtain ⟨h1, h2, h3, ⟨c, h4, h4g⟩, ⟨a1, a2, a3, a4, a5, a6, a7, a8⟩, h6⟩ := hk
  have hemr : ∃ ls c, EM w ra ls c := by
    obtain ⟨ls, c, q, _⟩ := h3
    exact ⟨ls, c, q⟩
  obtain ⟨lsr, cr, hemr⟩ := hemr
  obtain ⟨v0, st, W2, r1, r2, r3, r4, r5⟩ := h3.entry a4 (fun g hg => (own_lt h2 g hg).2) e n
  have htop : ∀ g, v0.ownBlock = some g → base ≤ g ∧ g < wr.heap.size := by
    obtain ⟨q1, q2, ⟨ls, cl, b1, b2, b3, b4, b5⟩, q3⟩ := h
    have b1' : EM w ra ls cl := b1.grown (bl_grown hb) (by simp)
    obtain ⟨st', ls1, c1, hrun, _⟩ := entry27 Tryd.underlying60 zero70 b1' b2 e
    rw [hrun] at r1
    simp only [Result.ok.injEq, Value.tuple.injEq, Array.mk.injEq, List.cons.injEq] at r1
    obtain ⟨⟨rfl, _⟩, _⟩ := r1
    intro g hg
    cases hl : lk ls e with
    | none =>
      rw [hl] at hg
      simp [Value.ownBlock] at hg
    | some v =>
      rw [hl] at hg
      exact own_lt (b4 e v hl).1 g hg
  refine ⟨v0, st, W2, r1, r2, r3, r4, htop, fun v' W3 g1 g2 g3 => ?_⟩
  obtain ⟨W4, s1, s2, s3⟩ := r5 v' W3 g1 g2 g3
  have hrow : ∀ k : Nat, k < base → some k ≠ v0.ownBlock := fun k hk e1 => by
    have := (htop k e1.symm).1
    omega
  have hrowt : vt.ownBlock = none ∨ vt.ownBlock ≠ some ra := by
    cases hu : vt.ownBlock with
    | none => exact Or.inl rfl
    | some g =>
      refine Or.inr (fun e1 => ?_)
      have := (own_lt h2 g hu).1
      simp at e1
      omega
  have hvv : vt.ownBlock = none ∨ vt.ownBlock ≠ v0.ownBlock := by
    obtain ⟨ls, cl, b1, b2, b3, b4, b5⟩ := h3
    obtain ⟨st', ls1, c1, hrun, _⟩ := entry27 Tryd.underlying60 zero70 b1 b2 e
    rw [hrun] at r1
    simp only [Result.ok.injEq, Value.tuple.injEq, Array.mk.injEq, List.cons.injEq] at r1
    obtain ⟨⟨rfl, _⟩, _⟩ := r1
    cases hl : lk ls e with
    | none =>
      cases hu : vt.ownBlock with
      | none => exact Or.inl rfl
      | some g => exact Or.inr (by simp [Value.ownBlock])
    | some v =>
      rcases (b4 e v hl).2.2 with q | q
      · exact Or.inl q
      · exact Or.inr (fun e1 => q e1.symm)
  have hpa : some pb ≠ some ra := fun e1 => h1.apart hemr (by simpa using e1)
  refine ⟨W4, s1, s2, ((h1.grown r2 hpa).grown g1 (hrow pb a2)).grown s2 hpa, ((h2.kept r2 hrowt).kept g1 hvv).kept s2 hrowt, s3, ⟨c, ((h4.grown r2 (fun e1 => a7 (by simp at e1; exact e1.symm))).grown g1 (hrow rk a6)).grown s2 (fun e1 => a7 (by simp at e1; exact e1.symm)), h4g⟩, ⟨a1, a2, a3, a4, a5, a6, a7, Nat.le_trans a8 (Nat.le_trans r2.size (Nat.le_trans g1.size s2.size))⟩, ?_⟩
  have hlt : w0.heap.size ≤ w.heap.size := h6.size
  have k1 := h6.grown r2 hlt (fun k hk => by simp at hk; omega)
  have k2 := k1.grown g1 (Nat.le_trans hlt r2.size) (fun k hk => by have := (htop k hk).1; omega)
  exact k2.grown s2 (Nat.le_trans hlt (Nat.le_trans r2.size g1.size)) (fun k hk => by simp at hk; omega)

/-- The triangles get one more, and the paper's cell is written anew. -/
theorem PP.pushed {w0 wr w w3 : World} {base pb ra rk g cap : Nat} {vt : Value} {L : List (Int × Int × Int)} {t : Int × Int × Int} {G : Int × Int × Int × Int → List Int} (h : PP w0 wr base pb ra rk vt L G) (hb : Below wr.heap.size wr w) (hg : w.grownBy w3 vt.ownBlock)
    (hown : w3.ownsRow base 80 3 (.slice (some ⟨g, 0, none⟩) (L.length + 1) cap) (L.length + 1) (flatV L ++ [.int .i64 t.1, .int .i64 t.2.1, .int .i64 t.2.2])) (hl : vt.ownBlock = some g ∨ g = w.heap.size) :
    PP w0 (w3.setCell ⟨pb, 0, none⟩ (.slice (some ⟨g, 0, none⟩) (L.length + 1) cap)) base pb ra rk (.slice (some ⟨g, 0, none⟩) (L.length + 1) cap) (L ++ [t]) G := by
  obtain ⟨h1, h2, h3, ⟨c, h4, h4g⟩, ⟨a1, a2, a3, a4, a5, a6, a7, a8⟩, h6⟩ := h.kept hb
  have hrow : ∀ k : Nat, k < base → some k ≠ vt.ownBlock := fun k hk e1 => by
    have := (own_lt h2 k e1.symm).1
    omega
  have hvb : (Value.slice (some ⟨g, 0, none⟩) (L.length + 1) cap).ownBlock = some g := rfl
  have p1 := h1.grown hg (hrow pb a2)
  have hemr : ∃ ls c, EM w ra ls c := by
    obtain ⟨ls, c, q, _⟩ := h3
    exact ⟨ls, c, q⟩
  obtain ⟨lsr, cr, hemr⟩ := hemr
  have hpa : pb ≠ ra := h1.apart hemr
  have hpk : pb ≠ rk := h1.apart h4
  have gp := h3.other (vt' := .slice (some ⟨g, 0, none⟩) (L.length + 1) cap) a4 hg (fun g hg => (own_lt h2 g hg).1) (by
    rw [hvb]
    rcases hl with q | q
    · exact Or.inl q.symm
    · exact Or.inr (by rw [q]))
  have hs : w3.grownBy (w3.setCell ⟨pb, 0, none⟩ (.slice (some ⟨g, 0, none⟩) (L.length + 1) cap)) (some pb) := by
    have hb := Below.setCell (w := w3) (p := ⟨pb, 0, none⟩) (Below.refl pb w3) (Nat.le_refl _) (.slice (some ⟨g, 0, none⟩) (L.length + 1) cap)
    exact ⟨hb.os, hb.tape, hb.output, hb.size, fun k _ hk => by
      have : k ≠ pb := fun e1 => hk (by rw [e1])
      exact Below.heap_setCell _ _ _ k this⟩
  have hgb : base ≤ g := (own_lt hown g hvb).1
  have hgs : some g ≠ some pb := fun e1 => by
    simp at e1
    omega
  refine ⟨⟨?_, ?_, ?_, ?_⟩, ?_, ?_, ⟨c, (h4.grown hg (hrow rk a6)).grown hs (fun e1 => hpk (by simpa using e1.symm)), h4g⟩, ⟨a1, a2, a3, a4, a5, a6, a7, Nat.le_trans a8 (Nat.le_trans hg.size hs.size)⟩, ?_⟩
  · exact World.cell?_setCell_same _ _ _ p1.1
  · exact (World.cell?_setCell_other _ _ _ _ (by simp)).trans p1.2.1
  · exact (World.cell?_setCell_other _ _ _ _ (by simp)).trans p1.2.2.1
  · exact (World.frozen?_setCell _ _ _ _).trans p1.2.2.2
  · rw [List.length_append, List.length_singleton, flatV_add]
    exact hown.kept hs (Or.inr (by rw [hvb]; exact hgs))
  · obtain ⟨ls, cl, b1, b2, b3, b4, b5⟩ := gp
    refine ⟨ls, cl, b1.grown hs (fun e1 => hpa (by simpa using e1.symm)), b2, b3, fun e v he => ?_, b5⟩
    obtain ⟨q1, q2, q3⟩ := b4 e v he
    refine ⟨q1.kept hs ?_, q2, q3⟩
    obtain ⟨g', e1, e2, _⟩ := own_some q1 (List.length_pos_iff.2 q2)
    rw [e1]
    exact Or.inr (fun e3 => by simp at e3; omega)
  · have k1 := h6.grown hg h6.size (fun k hk => by have := (own_lt h2 k hk).1; omega)
    exact k1.grown hs (Nat.le_trans h6.size hg.size) (fun k hk => by simp at hk; omega)
end Go.Proofs.YtmjneoaciopioaaDoor
