/- What one comes to from a triangle across edges that may be crossed: the mathematics of a search. -/
import Derived.Test.YtehmoacggikfmaaDoorQlbl
namespace Go.Proofs.YtehmoacggikfmaaDoor
open Go.RowKit Go.ChangeMaps

/-- Two triangles with an edge in common that may be crossed. -/
def AdjC (cr : Int × Int × Int × Int → Bool) (t u : Int × Int × Int) : Prop := u ≠ t ∧ ∃ e, hasT t e = true ∧ hasT u e = true ∧ cr e = true
theorem AdjC.symm {cr : Int × Int × Int × Int → Bool} {t u : Int × Int × Int} (h : AdjC cr t u) : AdjC cr u t := ⟨fun e => h.1 e.symm, h.2.imp fun _ he => ⟨he.2.1, he.1, he.2.2⟩⟩
def ReachC (cr : Int × Int × Int × Int → Bool) (l : List (Int × Int × Int)) (t u : Int × Int × Int) : Prop := t ∈ l ∧ ∀ p : Int × Int × Int → Prop, p t → (∀ a b, p a → b ∈ l → AdjC cr a b → p b) → p u
theorem ReachC.here {cr : Int × Int × Int × Int → Bool} {l : List (Int × Int × Int)} {t : Int × Int × Int} (h : t ∈ l) : ReachC cr l t t := ⟨h, fun _ k _ => k⟩
theorem ReachC.step {cr : Int × Int × Int × Int → Bool} {l : List (Int × Int × Int)} {t u v : Int × Int × Int} (h : ReachC cr l t u) (hv : v ∈ l) (ha : AdjC cr u v) : ReachC cr l t v := ⟨h.1, fun p k s => s _ _ (h.2 p k s) hv ha⟩
theorem ReachC.ind {cr : Int × Int × Int × Int → Bool} {l : List (Int × Int × Int)} {t : Int × Int × Int} {motive : ∀ u, ReachC cr l t u → Prop} (here : ∀ h : t ∈ l, motive t (ReachC.here h))
    (step : ∀ {u v} (h : ReachC cr l t u) (hv : v ∈ l) (ha : AdjC cr u v), motive u h → motive v (ReachC.step h hv ha)) {u : Int × Int × Int} (h : ReachC cr l t u) : motive u h := by
  obtain ⟨_, m⟩ := h.2 (fun x => ∃ k : ReachC cr l t x, motive x k) ⟨ReachC.here h.1, here h.1⟩ (fun _ _ ⟨_, m⟩ hb hab => ⟨_, step _ hb hab m⟩)
  exact m
theorem ReachC.mem {cr : Int × Int × Int × Int → Bool} {l : List (Int × Int × Int)} {t u : Int × Int × Int} (h : ReachC cr l t u) : t ∈ l ∧ u ∈ l := by
  induction h using ReachC.ind with
  | here h => exact ⟨h, h⟩
  | step _ hv _ ih => exact ⟨ih.1, hv⟩
theorem ReachC.trans {cr : Int × Int × Int × Int → Bool} {l : List (Int × Int × Int)} {t u v : Int × Int × Int} (h : ReachC cr l t u) (k : ReachC cr l u v) : ReachC cr l t v := by
  induction k using ReachC.ind with
  | here _ => exact h
  | step _ hv ha ih => exact ih.step hv ha
theorem ReachC.symm {cr : Int × Int × Int × Int → Bool} {l : List (Int × Int × Int)} {t u : Int × Int × Int} (h : ReachC cr l t u) : ReachC cr l u t := by
  induction h using ReachC.ind with
  | here h => exact .here h
  | step h hv ha ih => exact ((ReachC.here hv).step h.mem.2 ha.symm).trans ih
theorem reach_all {l : List (Int × Int × Int)} {t u : Int × Int × Int} : ReachC (fun _ => true) l t u ↔ Reach l t u := by
  constructor
  · intro h
    induction h using ReachC.ind with
    | here h => exact .here h
    | step _ hv ha ih => exact ih.step hv ⟨ha.1, ha.2.imp fun _ he => ⟨he.1, he.2.1⟩⟩
  · intro h
    induction h using Reach.ind with
    | here h => exact .here h
    | step _ hv ha ih => exact ih.step hv ⟨ha.1, ha.2.imp fun _ he => ⟨he.1, he.2, rfl⟩⟩

/-- The labels, once the triangles of R have got a number. -/
def lab (part : Nat → Int) (num : Int) (R : List Nat) : Nat → Int := fun i => if i ∈ R then num else part i
/-- The triangles found so far. -/
def Sp (cr : Int × Int × Int × Int → Bool) (L : List (Int × Int × Int)) (part : Nat → Int) (f : Nat) (R : List Nat) : Prop :=
  f ∈ R ∧ R.Nodup ∧ ∀ i ∈ R, ∃ h : i < L.length, part i < 0 ∧ ∃ hf : f < L.length, ReachC cr L L[f] L[i]
/-- All that have an edge are found, or had a number before. -/
def DoneE (L : List (Int × Int × Int)) (part : Nat → Int) (R : List Nat) (e : Int × Int × Int × Int) : Prop := ∀ j (hj : j < L.length), hasT L[j] e = true → j ∈ R ∨ 0 ≤ part j
/-- .. at the edges of a triangle that may be crossed, up to its edge k. -/
def DoneT (cr : Int × Int × Int × Int → Bool) (L : List (Int × Int × Int)) (part : Nat → Int) (R : List Nat) (t : Int × Int × Int) (k : Nat) : Prop := ∀ k', k' < k → cr (edg t k') = true → DoneE L part R (edg t k')
theorem DoneE.mono {L : List (Int × Int × Int)} {part : Nat → Int} {R R' : List Nat} {e : Int × Int × Int × Int} (h : DoneE L part R e) (hs : ∀ i ∈ R, i ∈ R') : DoneE L part R' e := fun j hj ht => (h j hj ht).imp (hs j) id
theorem DoneT.mono {cr : Int × Int × Int × Int → Bool} {L : List (Int × Int × Int)} {part : Nat → Int} {R R' : List Nat} {t : Int × Int × Int} {k : Nat} (h : DoneT cr L part R t k) (hs : ∀ i ∈ R, i ∈ R') : DoneT cr L part R' t k := fun k' hk hc => (h k' hk hc).mono hs
theorem DoneT.step {cr : Int × Int × Int × Int → Bool} {L : List (Int × Int × Int)} {part : Nat → Int} {R : List Nat} {t : Int × Int × Int} {k : Nat} (h : DoneT cr L part R t k) (hd : cr (edg t k) = true → DoneE L part R (edg t k)) : DoneT cr L part R t (k + 1) := fun k' hk hc => by
  by_cases e : k' = k
  · subst e
    exact hd hc
  · exact h k' (by omega) hc

theorem erase_len {R : List Nat} (n : Nat) (_hn : R.Nodup) : R.length ≤ (R.erase n).length + 1 := by
  by_cases h : n ∈ R
  · rw [List.length_erase_of_mem h]
    omega
  · rw [List.erase_of_not_mem h]
    omega
theorem nodup_len : ∀ (n : Nat) (R : List Nat), R.Nodup → (∀ i ∈ R, i < n) → R.length ≤ n
  | 0, R, _, h => by
    cases R with
    | nil => simp
    | cons a r => exact absurd (h a (by simp)) (by omega)
  | n + 1, R, hn, h => by
    have h1 := nodup_len n (R.erase n) (hn.erase n) (fun i hi => by
      have h2 := h i (List.mem_of_mem_erase hi)
      have h3 : i ≠ n := fun e => by
        subst e
        exact (List.Nodup.not_mem_erase hn) hi
      omega)
    have := erase_len n hn
    omega
theorem Sp.len {cr : Int × Int × Int × Int → Bool} {L : List (Int × Int × Int)} {part : Nat → Int} {f : Nat} {R : List Nat} (h : Sp cr L part f R) : R.length ≤ L.length := nodup_len _ _ h.2.1 (fun i hi => (h.2.2 i hi).1)
/-- One more is found. -/
theorem Sp.found {cr : Int × Int × Int × Int → Bool} {L : List (Int × Int × Int)} {part : Nat → Int} {f : Nat} {R : List Nat} (h : Sp cr L part f R) (hnd : L.Nodup) {i j : Nat} (hi : i ∈ R) (hj : j < L.length) (hn : j ∉ R) (hp : part j < 0) {e : Int × Int × Int × Int} (hc : cr e = true) (h1 : ∀ hi' : i < L.length, hasT L[i] e = true) (h2 : hasT L[j] e = true) : Sp cr L part f (R ++ [j]) := by
  obtain ⟨hi1, hi2, hf, hr⟩ := h.2.2 i hi
  refine ⟨List.mem_append_left _ h.1, ?_, fun k hk => ?_⟩
  · rw [List.nodup_append]
    refine ⟨h.2.1, by simp, fun a ha b hb => ?_⟩
    simp at hb
    subst hb
    exact fun e => hn (e ▸ ha)
  · rcases List.mem_append.1 hk with hk | hk
    · exact h.2.2 k hk
    · simp at hk
      subst hk
      refine ⟨hj, hp, hf, hr.step (List.getElem_mem hj) ⟨fun e1 => ?_, e, h1 hi1, h2, hc⟩⟩
      have := nodup_inj hnd hj hi1 e1
      exact hn (this ▸ hi)
theorem lab_found (part : Nat → Int) (num : Int) (R : List Nat) (j : Nat) : lab part num (R ++ [j]) = fun i => if i = j then num else lab part num R i := by
  funext i
  unfold lab
  by_cases e : i = j
  · simp [e]
  · simp [e]

/-- Numbers in a row of memory that may be written. -/
def ZRow (w : World) (g n : Nat) (f : Nat → Int) : Prop := ∀ i, i < n → w.cell? ⟨g, i, none⟩ = some (.int .i64 (f i)) ∧ w.frozen? ⟨g, i, none⟩ = false
theorem ZRow.grown {w w' : World} {g n : Nat} {f : Nat → Int} {row : Option Nat} (h : ZRow w g n f) (hg : w.grownBy w' row) (hne : some g ≠ row) : ZRow w' g n f := fun i hi =>
  ⟨hg.cell (h i hi).1 hne, (World.frozen?_of_block (a := ⟨g, i, none⟩) (hg.block g (World.block_lt_of_cell? _ _ (h i hi).1) hne)).trans (h i hi).2⟩
theorem ZRow.kept {w w' : World} {g n : Nat} {f : Nat → Int} (h : ZRow w g n f) (hb : Below w.heap.size w w') : ZRow w' g n f := h.grown (bl_grown hb) (by simp)
theorem ZRow.set {w : World} {g n : Nat} {f : Nat → Int} (h : ZRow w g n f) {i : Nat} (v : Int) (hi : i < n) : ZRow (w.setCell ⟨g, i, none⟩ (.int .i64 v)) g n (fun j => if j = i then v else f j) := fun j hj => by
  refine ⟨?_, by rw [World.frozen?_setCell]; exact (h j hj).2⟩
  by_cases e : j = i
  · subst e
    rw [World.cell?_setCell_same _ _ _ (h j hj).1]
    simp
  · rw [World.cell?_setCell_other _ _ _ _ (by simp <;> omega)]
    rw [(h j hj).1]
    simp [e]

/-- A paper that is laid out, as a search reads it. -/
def PA (wE : World) (ad : Option Addr) (ra : Nat) (L : List (Int × Int × Int)) : Prop :=
  TRow wE ad L ∧ ∀ e, ∃ a cap, Row wE a (gix L e) ∧ ∀ wx : World, Below wE.heap.size wE wx → (Instr.lookup 37 (.map (some ra)) (ek e) false).run Tryd.prog wx = .ok (.slice a (gix L e).length cap) wx
theorem PP.pa {w0 w : World} {base pb ra rk cc : Nat} {ad : Option Addr} {L : List (Int × Int × Int)} (h : PP w0 w base pb ra rk (.slice ad L.length cc) L (gix L)) : PA w ad ra L := by
  obtain ⟨h1, h2, ⟨ls, c, b1, b2, b3, b4, b5⟩, h4⟩ := h
  refine ⟨?_, fun e => ?_⟩
  · obtain ⟨a, cap, e, hT⟩ := own_tris h2
    simp only [Value.slice.injEq] at e
    rw [e.1]
    exact hT
  · cases hl : lk ls e with
    | none =>
      refine ⟨none, 0, by rw [b3 e hl]; intro i hi; simp at hi, fun wx hb => ?_⟩
      have := lookup27 Tryd.underlying37 zero70 (b1.grown (bl_grown hb) (by simp)) b2 e
      rw [hl] at this
      rw [b3 e hl]
      exact this
    | some v =>
      obtain ⟨d1, d2, d3⟩ := b4 e v hl
      obtain ⟨b, off, cap, hv, hr⟩ : ∃ b off cap, v = .slice (some ⟨b, off, none⟩) (gix L e).length cap ∧ Row w (some ⟨b, off, none⟩) (gix L e) := by
        rcases d1.2 with ⟨rfl, h0⟩ | ⟨g, cap, cur, rfl, _⟩
        · exact absurd (List.length_eq_zero_iff.1 h0) d2
        · refine ⟨g, 0, cap, rfl, fun i hi => ⟨g, 0, rfl, ?_⟩⟩
          have := d1.cellAt i (by omega)
          rw [Nat.zero_add, this]
          simp [hi]
      refine ⟨some ⟨b, off, none⟩, cap, hr, fun wx hb => ?_⟩
      have := lookup27 Tryd.underlying37 zero70 (b1.grown (bl_grown hb) (by simp)) b2 e
      rw [hl, hv] at this
      exact this
theorem PA.kept {w w' : World} {ad : Option Addr} {ra : Nat} {L : List (Int × Int × Int)} (h : PA w ad ra L) (hb : Below w.heap.size w w') : PA w' ad ra L :=
  ⟨h.1.kept hb, fun e => by
    obtain ⟨a, cap, h1, h2⟩ := h.2 e
    exact ⟨a, cap, h1.kept hb, fun wx hx => h2 wx (bl_via hb hx)⟩⟩
end Go.Proofs.YtehmoacggikfmaaDoor
