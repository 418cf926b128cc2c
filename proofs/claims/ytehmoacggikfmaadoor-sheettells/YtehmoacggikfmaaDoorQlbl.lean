/- A part of the proof of sheetTells_holds. -/
import Derived.Test.YtehmoacggikfmaaDoorQlbk
import Derived.Test.YtehmoacggikfmaaDoorQlay
import Derived.Maps.AppendAt
import Derived.Test.YtehmoacggikfmaaDoorQlbe
namespace Go.Proofs.YtehmoacggikfmaaDoor
open Go.RowKit Go.ChangeMaps

/-- Which triangles of a list have an edge. -/
def gix (l : List (Int × Int × Int)) (e : Int × Int × Int × Int) : List Int := ((List.range l.length).filter fun i => hasT (l.getD i (0, 0, 0)) e).map fun (i : Nat) => (i : Int)
theorem gix_nil (e : Int × Int × Int × Int) : gix [] e = [] := rfl
theorem gix_snoc (l : List (Int × Int × Int)) (t : Int × Int × Int) (e : Int × Int × Int × Int) : gix (l ++ [t]) e = gix l e ++ if hasT t e = true then [(l.length : Int)] else [] := by
  unfold gix
  rw [List.length_append, List.length_singleton, List.range_succ, List.filter_append, List.map_append]
  congr 1
  · congr 1
    apply List.filter_congr
    intro i hi
    have hi' : i < l.length := by simpa using hi
    simp [hi', List.getElem_append_left, Nat.lt_succ_of_lt hi']
  · have e1 : (l ++ [t]).getD l.length (0, 0, 0) = t := by simp
    cases h : hasT t e
    · simp [h]
    · simp [h]
theorem gix_len (l : List (Int × Int × Int)) (e : Int × Int × Int × Int) : (gix l e).length ≤ l.length := by
  unfold gix
  rw [List.length_map]
  exact Nat.le_trans (List.length_filter_le _ _) (by simp)
theorem gix_mem {l : List (Int × Int × Int)} {e : Int × Int × Int × Int} {j : Int} : j ∈ gix l e ↔ ∃ i : Nat, ∃ h : i < l.length, j = (i : Int) ∧ hasT l[i] e = true := by
  unfold gix
  simp only [List.mem_map, List.mem_filter, List.mem_range]
  constructor
  · rintro ⟨i, ⟨hi, ht⟩, rfl⟩
    exact ⟨i, hi, rfl, by simpa [hi] using ht⟩
  · rintro ⟨i, hi, rfl, ht⟩
    exact ⟨i, ⟨hi, by simpa [hi] using ht⟩, rfl⟩

/-- Of each edge its triangles, in memory: rows apart from one another and from the row of the triangles. -/
def GP (w : World) (base ra : Nat) (vt : Value) (G : Int × Int × Int × Int → List Int) : Prop :=
  ∃ ls clock, EM w ra ls clock ∧ Good ls clock ∧ (∀ e, lk ls e = none → G e = []) ∧
    (∀ e v, lk ls e = some v → w.ownsRow base 3 1 v (G e).length ((G e).map (Value.int .i64)) ∧ G e ≠ [] ∧ (vt.ownBlock = none ∨ v.ownBlock ≠ vt.ownBlock)) ∧
    (∀ e e' v v', e ≠ e' → lk ls e = some v → lk ls e' = some v' → v.ownBlock ≠ v'.ownBlock)

theorem own_some {w : World} {base : Nat} {e : TypeId} {size : Nat} {v : Value} {n : Nat} {xs : List Value} (h : w.ownsRow base e size v n xs) (hn : 0 < n) : ∃ g, v.ownBlock = some g ∧ base ≤ g ∧ g < w.heap.size := by
  rcases h.2 with ⟨rfl, h0⟩ | ⟨g, cap, cur, rfl, h2, h3, h4⟩
  · omega
  · refine ⟨g, by simp [Value.ownBlock], h2, ?_⟩
    exact (Array.getElem?_eq_some_iff.1 h3).1
theorem own_lt {w : World} {base : Nat} {e : TypeId} {size : Nat} {v : Value} {n : Nat} {xs : List Value} (h : w.ownsRow base e size v n xs) : ∀ g, v.ownBlock = some g → base ≤ g ∧ g < w.heap.size := fun g hg => h.lt g hg

theorem EM.lt {w : World} {r : Nat} {ls : List ((Int × Int × Int × Int) × Value × Nat)} {c : Nat} (h : EM w r ls c) : r < w.heap.size := (Array.getElem?_eq_some_iff.1 h).1
theorem EM.grown {w w' : World} {r : Nat} {ls : List ((Int × Int × Int × Int) × Value × Nat)} {c : Nat} {row : Option Nat} (h : EM w r ls c) (hg : w.grownBy w' row) (hne : some r ≠ row) : EM w' r ls c := (hg.block r h.lt hne).trans h
theorem bl_grown {w v : World} (h : Below w.heap.size w v) : w.grownBy v none := ⟨h.os, h.tape, h.output, h.size, fun k hk _ => h.block k hk⟩

theorem GP.kept {w w' : World} {base ra : Nat} {vt : Value} {G : Int × Int × Int × Int → List Int} (h : GP w base ra vt G) (hb : Below w.heap.size w w') : GP w' base ra vt G := by
  obtain ⟨ls, c, h1, h2, h3, h4, h5⟩ := h
  refine ⟨ls, c, h1.grown (bl_grown hb) (by simp), h2, h3, fun e v he => ?_, h5⟩
  obtain ⟨a1, a2, a3⟩ := h4 e v he
  exact ⟨own_below a1 hb, a2, a3⟩
/-- The row of the triangles is written, or made anew. -/
theorem GP.other {w w' : World} {base ra : Nat} {vt vt' : Value} {G : Int × Int × Int × Int → List Int} (h : GP w base ra vt G) (hra : ra < base) (hg : w.grownBy w' vt.ownBlock) (hvt : ∀ g, vt.ownBlock = some g → base ≤ g) (hl : vt'.ownBlock = vt.ownBlock ∨ vt'.ownBlock = some w.heap.size) : GP w' base ra vt' G := by
  obtain ⟨ls, c, h1, h2, h3, h4, h5⟩ := h
  refine ⟨ls, c, h1.grown hg (fun e => by have := hvt _ e.symm; omega), h2, h3, fun e v he => ?_, h5⟩
  obtain ⟨a1, a2, a3⟩ := h4 e v he
  obtain ⟨g, hg1, hg2, hg3⟩ := own_some a1 (List.length_pos_iff.2 a2)
  refine ⟨a1.kept hg ?_, a2, ?_⟩
  · rcases a3 with a3 | a3
    · rw [hg1, a3]
      exact Or.inr (by simp)
    · exact Or.inr a3
  · rcases hl with hl | hl
    · rw [hl]
      exact a3
    · rw [hl, hg1]
      refine Or.inr (fun e => ?_)
      simp at e
      omega

theorem zero70 (w : World) : (zeroValue 22).run Tryd.prog w = .ok (.slice none 0 0) w := by kernel_rfl

/-- An edge gets one triangle more: the entry, what is appended to it, the store. -/
theorem GP.entry {w : World} {base ra : Nat} {vt : Value} {G : Int × Int × Int × Int → List Int} (h : GP w base ra vt G) (hra : ra < base) (hvt : ∀ g, vt.ownBlock = some g → g < w.heap.size) (e : Int × Int × Int × Int) (n : Int) :
    ∃ v0 st W2, (Instr.mapEntry 37 (.map (some ra)) (ek e)).run Tryd.prog w = .ok (.tuple #[v0, .int .i64 st]) W2 ∧ w.grownBy W2 (some ra) ∧ W2.heap.size = w.heap.size ∧ W2.ownsRow base 3 1 v0 (G e).length ((G e).map (Value.int .i64)) ∧
      ∀ v' W3, W2.grownBy W3 v0.ownBlock → W3.ownsRow base 3 1 v' ((G e).length + 1) ((G e).map (Value.int .i64) ++ [.int .i64 n]) → (v'.ownBlock = v0.ownBlock ∨ v'.ownBlock = some W2.heap.size) →
        ∃ W4, (Instr.entryStore 37 (.map (some ra)) (.int .i64 st) v').run Tryd.prog W3 = .ok () W4 ∧ W3.grownBy W4 (some ra) ∧ GP W4 base ra vt (fun j => if j = e then G e ++ [n] else G j) := by
  obtain ⟨ls, c, h1, h2, h3, h4, h5⟩ := h
  obtain ⟨st, ls1, c1, hrun, hst⟩ := entry27 Tryd.underlying37 zero70 h1 h2 e
  have hb := h1
  unfold EM at hb
  have hg1 := grown_set hb (.map (ls1.map toE).toArray c1)
  have hne : ∀ {W : World} {v : Value} {n : Nat} {xs : List Value}, W.ownsRow base 3 1 v n xs → v.ownBlock = none ∨ v.ownBlock ≠ some ra := fun {W v n xs} ho => by
    cases hu : v.ownBlock with
    | none => exact Or.inl rfl
    | some g =>
      refine Or.inr (fun e1 => ?_)
      have := (ho.lt g hu).1
      simp at e1
      omega
  have hv0 : (setBlock w ra (.map (ls1.map toE).toArray c1)).ownsRow base 3 1 ((lk ls e).getD (.slice none 0 0)) (G e).length ((G e).map (Value.int .i64)) := by
    cases hl : lk ls e with
    | none =>
      rw [h3 e hl]
      exact World.ownsRow_nil _ _ _ _
    | some v =>
      have a := (h4 e v hl).1
      exact a.kept hg1 (hne a)
  have hsz : (setBlock w ra (.map (ls1.map toE).toArray c1)).heap.size = w.heap.size := by simp [setBlock]
  refine ⟨_, (st : Int), _, hrun, hg1, hsz, hv0, fun v' W3 hg2 hown hloc => ?_⟩
  obtain ⟨ls', c', g1, g2, _, g3⟩ := hst v'
  have hem : EM W3 ra ls1 c1 := by
    have e0 : EM (setBlock w ra (.map (ls1.map toE).toArray c1)) ra ls1 c1 := heap_setBlock_same hb _
    refine e0.grown hg2 ?_
    rcases hne hv0 with e1 | e1
    · rw [e1]
      simp
    · exact fun e2 => e1 e2.symm
  have hg3 := grown_set hem (.map (ls'.map toE).toArray c')
  refine ⟨_, g3 W3 hem, hg3, ls', c', heap_setBlock_same hem _, g1, fun j hj => ?_, fun j v hj => ?_, fun j j' v v2 hjj hj hj' => ?_⟩
  · rw [g2 j] at hj
    by_cases e1 : j = e
    · rw [if_pos e1] at hj
      cases hj
    · rw [if_neg e1] at hj
      dsimp only
      rw [if_neg e1]
      exact h3 j hj
  · rw [g2 j] at hj
    by_cases e1 : j = e
    · dsimp only
      rw [if_pos e1] at hj ⊢
      simp at hj
      subst hj
      refine ⟨?_, by simp, ?_⟩
      · have := hown.kept hg3 (hne hown)
        simpa using this
      · rcases hloc with hl | hl
        · cases hlk : lk ls e with
          | none =>
            rw [hlk] at hl
            have : v'.ownBlock = none := by rw [hl]; rfl
            obtain ⟨g, hg, _⟩ := own_some hown (by omega)
            rw [hg] at this
            cases this
          | some v =>
            rw [hlk] at hl
            rw [hl]
            exact (h4 e v hlk).2.2
        · rw [hl]
          cases hvb : vt.ownBlock with
          | none => exact Or.inl rfl
          | some g =>
            have := hvt g hvb
            refine Or.inr (fun e2 => ?_)
            simp at e2
            omega
    · dsimp only
      rw [if_neg e1] at hj ⊢
      obtain ⟨a1, a2, a3⟩ := h4 j v hj
      refine ⟨?_, a2, a3⟩
      have b1 := a1.kept hg1 (hne a1)
      have b2 : W3.ownsRow base 3 1 v (G j).length ((G j).map (Value.int .i64)) := by
        refine b1.kept hg2 ?_
        cases hlk : lk ls e with
        | none =>
          obtain ⟨g, hg, _⟩ := own_some a1 (List.length_pos_iff.2 a2)
          rw [hg]
          exact Or.inr (by simp [Value.ownBlock])
        | some v0 => exact Or.inr (h5 j e v v0 e1 hj hlk)
      exact b2.kept hg3 (hne b2)
  · rw [g2 j] at hj
    rw [g2 j'] at hj'
    have fresh : ∀ i u, i ≠ e → lk ls i = some u → u.ownBlock ≠ v'.ownBlock := fun i u hi hu => by
      obtain ⟨a1, a2, _⟩ := h4 i u hu
      obtain ⟨g, hg, _, hg3⟩ := own_some a1 (List.length_pos_iff.2 a2)
      rcases hloc with hl | hl
      · cases hlk : lk ls e with
        | none =>
          rw [hlk] at hl
          rw [hl, hg]
          simp [Value.ownBlock]
        | some v0 =>
          rw [hlk] at hl
          rw [hl]
          exact h5 i e u v0 hi hu hlk
      · rw [hl, hg, hsz]
        intro e2
        simp at e2
        omega
    by_cases e1 : j = e
    · rw [if_pos e1] at hj
      rw [if_neg (fun e2 => hjj (e1.trans e2.symm))] at hj'
      simp at hj
      subst hj
      exact fun e2 => fresh j' v2 (fun e3 => hjj (e1.trans e3.symm)) hj' e2.symm
    · rw [if_neg e1] at hj
      by_cases e3 : j' = e
      · rw [if_pos e3] at hj'
        simp at hj'
        subst hj'
        exact fresh j v e1 hj
      · rw [if_neg e3] at hj'
        exact h5 j j' v v2 hjj hj hj'

/-- The paper's own three cells. -/
def Pc (w : World) (pb ra rk : Nat) (vt : Value) : Prop :=
  w.cell? ⟨pb, 0, none⟩ = some vt ∧ w.cell? ⟨pb, 1, none⟩ = some (.map (some ra)) ∧ w.cell? ⟨pb, 2, none⟩ = some (.map (some rk)) ∧ w.frozen? ⟨pb, 0, none⟩ = false
theorem Pc.lt {w : World} {pb ra rk : Nat} {vt : Value} (h : Pc w pb ra rk vt) : pb < w.heap.size := World.block_lt_of_cell? _ _ h.1
theorem Pc.grown {w w' : World} {pb ra rk : Nat} {vt : Value} {row : Option Nat} (h : Pc w pb ra rk vt) (hg : w.grownBy w' row) (hne : some pb ≠ row) : Pc w' pb ra rk vt :=
  ⟨hg.cell h.1 hne, hg.cell h.2.1 hne, hg.cell h.2.2.1 hne, (World.frozen?_of_block (a := ⟨pb, 0, none⟩) (hg.block pb h.lt hne)).trans h.2.2.2⟩
theorem Pc.apart {w : World} {pb ra rk r : Nat} {vt : Value} {ls : List ((Int × Int × Int × Int) × Value × Nat)} {c : Nat} (h : Pc w pb ra rk vt) (he : EM w r ls c) : pb ≠ r := by
  rintro rfl
  have := h.1
  unfold EM at he
  simp [World.cell?, he] at this

/-- The paper: its cells, its triangles, of each edge which have it; no crease yet; all of it newer than w0. -/
def PP (w0 w : World) (base pb ra rk : Nat) (vt : Value) (L : List (Int × Int × Int)) (G : Int × Int × Int × Int → List Int) : Prop :=
  Pc w pb ra rk vt ∧ w.ownsRow base 52 3 vt L.length (flatV L) ∧ GP w base ra vt G ∧ (∃ c, EM w rk [] c ∧ Good [] c) ∧ (w0.heap.size ≤ pb ∧ pb < base ∧ w0.heap.size ≤ ra ∧ ra < base ∧ w0.heap.size ≤ rk ∧ rk < base ∧ ra ≠ rk ∧ base ≤ w.heap.size) ∧ Below w0.heap.size w0 w
theorem PP.kept {w0 w w' : World} {base pb ra rk : Nat} {vt : Value} {L : List (Int × Int × Int)} {G : Int × Int × Int × Int → List Int} (h : PP w0 w base pb ra rk vt L G) (hb : Below w.heap.size w w') : PP w0 w' base pb ra rk vt L G := by
  obtain ⟨h1, h2, h3, ⟨c, h4, h4g⟩, ⟨a1, a2, a3, a4, a5, a6, a7, a8⟩, h6⟩ := h
  exact ⟨h1.grown (bl_grown hb) (by simp), own_below h2 hb, h3.kept hb, ⟨c, h4.grown (bl_grown hb) (by simp), h4g⟩, ⟨a1, a2, a3, a4, a5, a6, a7, Nat.le_trans a8 hb.size⟩, bl_via h6 hb⟩

theorem PP.entry {w0 wr w : World} {base pb ra rk : Nat} {vt : Value} {L : List (Int × Int × Int)} {G : Int × Int × Int × Int → List Int} (h : PP w0 wr base pb ra rk vt L G) (hb : Below wr.heap.size wr w) (e : Int × Int × Int × Int) (n : Int) :
    ∃ v0 st W2, (Instr.mapEntry 37 (.map (some ra)) (ek e)).run Tryd.prog w = .ok (.tuple #[v0, .int .i64 st]) W2 ∧ w.grownBy W2 (some ra) ∧ W2.heap.size = w.heap.size ∧ W2.ownsRow base 3 1 v0 (G e).length ((G e).map (Value.int .i64)) ∧ (∀ g, v0.ownBlock = some g → base ≤ g ∧ g < wr.heap.size) ∧
      ∀ v' W3, W2.grownBy W3 v0.ownBlock → W3.ownsRow base 3 1 v' ((G e).length + 1) ((G e).map (Value.int .i64) ++ [.int .i64 n]) → (v'.ownBlock = v0.ownBlock ∨ v'.ownBlock = some W2.heap.size) →
        ∃ W4, (Instr.entryStore 37 (.map (some ra)) (.int .i64 st) v').run Tryd.prog W3 = .ok () W4 ∧ W3.grownBy W4 (some ra) ∧ PP w0 W4 base pb ra rk vt L (fun j => if j = e then G e ++ [n] else G j) := by
  have hk := h.kept hb
  obtain ⟨h1, h2, h3, ⟨c, h4, h4g⟩, ⟨a1, a2, a3, a4, a5, a6, a7, a8⟩, h6⟩ := hk
  have hemr : ∃ ls c, EM w ra ls c := by
    obtain ⟨ls, c, q, _⟩ := h3
    exact ⟨ls, c, q⟩
  obtain ⟨lsr, cr, hemr⟩ := hemr
  obtain ⟨v0, st, W2, r1, r2, r3, r4, r5⟩ := h3.entry a4 (fun g hg => (own_lt h2 g hg).2) e n
  have htop : ∀ g, v0.ownBlock = some g → base ≤ g ∧ g < wr.heap.size := by
    obtain ⟨q1, q2, ⟨ls, cl, b1, b2, b3, b4, b5⟩, q3⟩ := h
    have b1' : EM w ra ls cl := b1.grown (bl_grown hb) (by simp)
    obtain ⟨st', ls1, c1, hrun, _⟩ := entry27 Tryd.underlying37 zero70 b1' b2 e
    rw [hrun] at r1
    simp only [Result.ok.injEq, Value.tuple.injEq, Array.mk.injEq, List.cons.injEq] at r1
    obtain ⟨⟨rfl, _⟩, _⟩ := r1
    intro g hg
    cases hl : lk ls e with
    | none =>
      rw [hl] at hg
      simp [Value.ownBlock] at hg
    | some v =>
      rw [hl] at hg
      exact own_lt (b4 e v hl).1 g hg
  refine ⟨v0, st, W2, r1, r2, r3, r4, htop, fun v' W3 g1 g2 g3 => ?_⟩
  obtain ⟨W4, s1, s2, s3⟩ := r5 v' W3 g1 g2 g3
  have hrow : ∀ k : Nat, k < base → some k ≠ v0.ownBlock := fun k hk e1 => by
    have := (htop k e1.symm).1
    omega
  have hrowt : vt.ownBlock = none ∨ vt.ownBlock ≠ some ra := by
    cases hu : vt.ownBlock with
    | none => exact Or.inl rfl
    | some g =>
      refine Or.inr (fun e1 => ?_)
      have := (own_lt h2 g hu).1
      simp at e1
      omega
  have hvv : vt.ownBlock = none ∨ vt.ownBlock ≠ v0.ownBlock := by
    obtain ⟨ls, cl, b1, b2, b3, b4, b5⟩ := h3
    obtain ⟨st', ls1, c1, hrun, _⟩ := entry27 Tryd.underlying37 zero70 b1 b2 e
    rw [hrun] at r1
    simp only [Result.ok.injEq, Value.tuple.injEq, Array.mk.injEq, List.cons.injEq] at r1
    obtain ⟨⟨rfl, _⟩, _⟩ := r1
    cases hl : lk ls e with
    | none =>
      cases hu : vt.ownBlock with
      | none => exact Or.inl rfl
      | some g => exact Or.inr (by simp [Value.ownBlock])
    | some v =>
      rcases (b4 e v hl).2.2 with q | q
      · exact Or.inl q
      · exact Or.inr (fun e1 => q e1.symm)
  have hpa : some pb ≠ some ra := fun e1 => h1.apart hemr (by simpa using e1)
  refine ⟨W4, s1, s2, ((h1.grown r2 hpa).grown g1 (hrow pb a2)).grown s2 hpa, ((h2.kept r2 hrowt).kept g1 hvv).kept s2 hrowt, s3, ⟨c, ((h4.grown r2 (fun e1 => a7 (by simp at e1; exact e1.symm))).grown g1 (hrow rk a6)).grown s2 (fun e1 => a7 (by simp at e1; exact e1.symm)), h4g⟩, ⟨a1, a2, a3, a4, a5, a6, a7, Nat.le_trans a8 (Nat.le_trans r2.size (Nat.le_trans g1.size s2.size))⟩, ?_⟩
  have hlt : w0.heap.size ≤ w.heap.size := h6.size
  have k1 := h6.grown r2 hlt (fun k hk => by simp at hk; omega)
  have k2 := k1.grown g1 (Nat.le_trans hlt r2.size) (fun k hk => by have := (htop k hk).1; omega)
  exact k2.grown s2 (Nat.le_trans hlt (Nat.le_trans r2.size g1.size)) (fun k hk => by simp at hk; omega)

/-- The triangles get one more, and the paper's cell is written anew. -/
theorem PP.pushed {w0 wr w w3 : World} {base pb ra rk g cap : Nat} {vt : Value} {L : List (Int × Int × Int)} {t : Int × Int × Int} {G : Int × Int × Int × Int → List Int} (h : PP w0 wr base pb ra rk vt L G) (hb : Below wr.heap.size wr w) (hg : w.grownBy w3 vt.ownBlock)
    (hown : w3.ownsRow base 52 3 (.slice (some ⟨g, 0, none⟩) (L.length + 1) cap) (L.length + 1) (flatV L ++ [.int .i64 t.1, .int .i64 t.2.1, .int .i64 t.2.2])) (hl : vt.ownBlock = some g ∨ g = w.heap.size) :
    PP w0 (w3.setCell ⟨pb, 0, none⟩ (.slice (some ⟨g, 0, none⟩) (L.length + 1) cap)) base pb ra rk (.slice (some ⟨g, 0, none⟩) (L.length + 1) cap) (L ++ [t]) G := by
  obtain ⟨h1, h2, h3, ⟨c, h4, h4g⟩, ⟨a1, a2, a3, a4, a5, a6, a7, a8⟩, h6⟩ := h.kept hb
  have hrow : ∀ k : Nat, k < base → some k ≠ vt.ownBlock := fun k hk e1 => by
    have := (own_lt h2 k e1.symm).1
    omega
  have hvb : (Value.slice (some ⟨g, 0, none⟩) (L.length + 1) cap).ownBlock = some g := rfl
  have p1 := h1.grown hg (hrow pb a2)
  have hemr : ∃ ls c, EM w ra ls c := by
    obtain ⟨ls, c, q, _⟩ := h3
    exact ⟨ls, c, q⟩
  obtain ⟨lsr, cr, hemr⟩ := hemr
  have hpa : pb ≠ ra := h1.apart hemr
  have hpk : pb ≠ rk := h1.apart h4
  have gp := h3.other (vt' := .slice (some ⟨g, 0, none⟩) (L.length + 1) cap) a4 hg (fun g hg => (own_lt h2 g hg).1) (by
    rw [hvb]
    rcases hl with q | q
    · exact Or.inl q.symm
    · exact Or.inr (by rw [q]))
  have hs : w3.grownBy (w3.setCell ⟨pb, 0, none⟩ (.slice (some ⟨g, 0, none⟩) (L.length + 1) cap)) (some pb) := by
    have hb := Below.setCell (w := w3) (p := ⟨pb, 0, none⟩) (Below.refl pb w3) (Nat.le_refl _) (.slice (some ⟨g, 0, none⟩) (L.length + 1) cap)
    exact ⟨hb.os, hb.tape, hb.output, hb.size, fun k _ hk => by
      have : k ≠ pb := fun e1 => hk (by rw [e1])
      exact Below.heap_setCell _ _ _ k this⟩
  have hgb : base ≤ g := (own_lt hown g hvb).1
  have hgs : some g ≠ some pb := fun e1 => by
    simp at e1
    omega
  refine ⟨⟨?_, ?_, ?_, ?_⟩, ?_, ?_, ⟨c, (h4.grown hg (hrow rk a6)).grown hs (fun e1 => hpk (by simpa using e1.symm)), h4g⟩, ⟨a1, a2, a3, a4, a5, a6, a7, Nat.le_trans a8 (Nat.le_trans hg.size hs.size)⟩, ?_⟩
  · exact World.cell?_setCell_same _ _ _ p1.1
  · exact (World.cell?_setCell_other _ _ _ _ (by simp)).trans p1.2.1
  · exact (World.cell?_setCell_other _ _ _ _ (by simp)).trans p1.2.2.1
  · exact (World.frozen?_setCell _ _ _ _).trans p1.2.2.2
  · rw [List.length_append, List.length_singleton, flatV_add]
    exact hown.kept hs (Or.inr (by rw [hvb]; exact hgs))
  · obtain ⟨ls, cl, b1, b2, b3, b4, b5⟩ := gp
    refine ⟨ls, cl, b1.grown hs (fun e1 => hpa (by simpa using e1.symm)), b2, b3, fun e v he => ?_, b5⟩
    obtain ⟨q1, q2, q3⟩ := b4 e v he
    refine ⟨q1.kept hs ?_, q2, q3⟩
    obtain ⟨g', e1, e2, _⟩ := own_some q1 (List.length_pos_iff.2 q2)
    rw [e1]
    exact Or.inr (fun e3 => by simp at e3; omega)
  · have k1 := h6.grown hg h6.size (fun k hk => by have := (own_lt h2 k hk).1; omega)
    exact k1.grown hs (Nat.le_trans h6.size hg.size) (fun k hk => by simp at hk; omega)
end Go.Proofs.YtehmoacggikfmaaDoor
