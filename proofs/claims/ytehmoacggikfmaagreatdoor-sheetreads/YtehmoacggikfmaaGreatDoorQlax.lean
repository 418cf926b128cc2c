/- A part of the proof of sheetReads_holds. -/
import Derived.Test.YtehmoacggikfmaaGreatDoorQlas
import Derived.Test.YtehmoacggikfmaaGreatDoorQlal
import Derived.Maps.RangeRun
import Derived.Maps.RangeWalk
import Derived.RangeFuncNested
import Derived.RangeFuncBound
import Derived.RangeFuncCalls
import Derived.RangeFuncLeaves
import Derived.RangeFuncBox
import Derived.Shelf.Abstract
import Derived.Shelf.RegionOpen
import Derived.WalkKit
import Derived.OwnWalkIn
import Derived.TacticsInMore
import Derived.LoopNIn
import Derived.LoopIn
import Derived.Sort.LoopGhostIn
import Derived.Sort.MapsRangeIn
import Derived.Maps.OwnIn
import Derived.Test.YtehmoacggikfmaaGreatDoorQlac
import Derived.Test.YtehmoacggikfmaaGreatDoorQlak
namespace Go.Proofs.YtehmoacggikfmaaGreatDoor
open Go.RowKit Go.ChangeMaps

/-- Two triangles with an edge in common that may be crossed. -/
def AdjC (cr : Int × Int × Int × Int → Bool) (t u : Int × Int × Int) : Prop := u ≠ t ∧ ∃ e, hasT t e = true ∧ hasT u e = true ∧ cr e = true
theorem AdjC.symm {cr : Int × Int × Int × Int → Bool} {t u : Int × Int × Int} (h : AdjC cr t u) : AdjC cr u t := ⟨fun e => h.1 e.symm, h.2.imp fun _ he => ⟨he.2.1, he.1, he.2.2⟩⟩
def ReachC (cr : Int × Int × Int × Int → Bool) (l : List (Int × Int × Int)) (t u : Int × Int × Int) : Prop := t ∈ l ∧ ∀ p : Int × Int × Int → Prop, p t → (∀ a b, p a → b ∈ l → AdjC cr a b → p b) → p u
theorem ReachC.here {cr : Int × Int × Int × Int → Bool} {l : List (Int × Int × Int)} {t : Int × Int × Int} (h : t ∈ l) : ReachC cr l t t := ⟨h, fun _ k _ => k⟩
theorem ReachC.step {cr : Int × Int × Int × Int → Bool} {l : List (Int × Int × Int)} {t u v : Int × Int × Int} (h : ReachC cr l t u) (hv : v ∈ l) (ha : AdjC cr u v) : ReachC cr l t v := ⟨h.1, fun p k s => s _ _ (h.2 p k s) hv ha⟩
theorem ReachC.ind {cr : Int × Int × Int × Int → Bool} {l : List (Int × Int × Int)} {t : Int × Int × Int} {motive : ∀ u, ReachC cr l t u → Prop} (here : ∀ h : t ∈ l, motive t (ReachC.here h))
    (step : ∀ {u v} (h : ReachC cr l t u) (hv : v ∈ l) (ha : AdjC cr u v), motive u h → motive v (ReachC.step h hv ha)) {u : Int × Int × Int} (h : ReachC cr l t u) : motive u h := by
  obtain ⟨_, m⟩ := h.2 (fun x => ∃ k : ReachC cr l t x, motive x k) ⟨ReachC.here h.1, here h.1⟩ (fun _ _ ⟨_, m⟩ hb hab => ⟨_, step _ hb hab m⟩)
  exact m
theorem ReachC.mem {cr : Int × Int × Int × Int → Bool} {l : List (Int × Int × Int)} {t u : Int × Int × Int} (h : ReachC cr l t u) : t ∈ l ∧ u ∈ l := by
  induction h using ReachC.ind with
  | here h => exact ⟨h, h⟩
  | step _ hv _ ih => exact ⟨ih.1, hv⟩
theorem ReachC.trans {cr : Int × Int × Int × Int → Bool} {l : List (Int × Int × Int)} {t u v : Int × Int × Int} (h : ReachC cr l t u) (k : ReachC cr l u v) : ReachC cr l t v := by
  induction k using ReachC.ind with
  | here _ => exact h
  | step _ hv ha ih => exact ih.step hv ha
theorem ReachC.symm {cr : Int × Int × Int × Int → Bool} {l : List (Int × Int × Int)} {t u : Int × Int × Int} (h : ReachC cr l t u) : ReachC cr l u t := by
  induction h using ReachC.ind with
  | here h => exact .here h
  | step h hv ha ih => exact ((ReachC.here hv).step h.mem.2 ha.symm).trans ih
theorem reach_all {l : List (Int × Int × Int)} {t u : Int × Int × Int} : ReachC (fun _ => true) l t u ↔ Reach l t u := by
  constructor
  · intro h
    induction h using ReachC.ind with
    | here h => exact .here h
    | step _ hv ha ih => exact ih.step hv ⟨ha.1, ha.2.imp fun _ he => ⟨he.1, he.2.1⟩⟩
  · intro h
    induction h using Reach.ind with
    | here h => exact .here h
    | step _ hv ha ih => exact ih.step hv ⟨ha.1, ha.2.imp fun _ he => ⟨he.1, he.2, rfl⟩⟩

/-- The labels, once the triangles of R have got a number. -/
def lab (part : Nat → Int) (num : Int) (R : List Nat) : Nat → Int := fun i => if i ∈ R then num else part i
/-- The triangles found so far. -/
def Sp (cr : Int × Int × Int × Int → Bool) (L : List (Int × Int × Int)) (part : Nat → Int) (f : Nat) (R : List Nat) : Prop :=
  f ∈ R ∧ R.Nodup ∧ ∀ i ∈ R, ∃ h : i < L.length, part i < 0 ∧ ∃ hf : f < L.length, ReachC cr L L[f] L[i]
/-- All that have an edge are found, or had a number before. -/
def DoneE (L : List (Int × Int × Int)) (part : Nat → Int) (R : List Nat) (e : Int × Int × Int × Int) : Prop := ∀ j (hj : j < L.length), hasT L[j] e = true → j ∈ R ∨ 0 ≤ part j
/-- .. at the edges of a triangle that may be crossed, up to its edge k. -/
def DoneT (cr : Int × Int × Int × Int → Bool) (L : List (Int × Int × Int)) (part : Nat → Int) (R : List Nat) (t : Int × Int × Int) (k : Nat) : Prop := ∀ k', k' < k → cr (edg t k') = true → DoneE L part R (edg t k')
theorem DoneE.mono {L : List (Int × Int × Int)} {part : Nat → Int} {R R' : List Nat} {e : Int × Int × Int × Int} (h : DoneE L part R e) (hs : ∀ i ∈ R, i ∈ R') : DoneE L part R' e := fun j hj ht => (h j hj ht).imp (hs j) id
theorem DoneT.mono {cr : Int × Int × Int × Int → Bool} {L : List (Int × Int × Int)} {part : Nat → Int} {R R' : List Nat} {t : Int × Int × Int} {k : Nat} (h : DoneT cr L part R t k) (hs : ∀ i ∈ R, i ∈ R') : DoneT cr L part R' t k := fun k' hk hc => (h k' hk hc).mono hs
theorem DoneT.step {cr : Int × Int × Int × Int → Bool} {L : List (Int × Int × Int)} {part : Nat → Int} {R : List Nat} {t : Int × Int × Int} {k : Nat} (h : DoneT cr L part R t k) (hd : cr (edg t k) = true → DoneE L part R (edg t k)) : DoneT cr L part R t (k + 1) := fun k' hk hc => by
  by_cases e : k' = k
  · subst e
    exact hd hc
  · exact h k' (by omega) hc

theorem erase_len {R : List Nat} (n : Nat) (_hn : R.Nodup) : R.length ≤ (R.erase n).length + 1 := by
  by_cases h : n ∈ R
  · rw [List.length_erase_of_mem h]
    omega
  · rw [List.erase_of_not_mem h]
    omega
theorem nodup_len : ∀ (n : Nat) (R : List Nat), R.Nodup → (∀ i ∈ R, i < n) → R.length ≤ n
  | 0, R, _, h => by
    cases R with
    | nil => simp
    | cons a r => exact absurd (h a (by simp)) (by omega)
  | n + 1, R, hn, h => by
    have h1 := nodup_len n (R.erase n) (hn.erase n) (fun i hi => by
      have h2 := h i (List.mem_of_mem_erase hi)
      have h3 : i ≠ n := fun e => by
        subst e
        exact (List.Nodup.not_mem_erase hn) hi
      omega)
    have := erase_len n hn
    omega
theorem Sp.len {cr : Int × Int × Int × Int → Bool} {L : List (Int × Int × Int)} {part : Nat → Int} {f : Nat} {R : List Nat} (h : Sp cr L part f R) : R.length ≤ L.length := nodup_len _ _ h.2.1 (fun i hi => (h.2.2 i hi).1)
/-- One more is found. -/
theorem Sp.found {cr : Int × Int × Int × Int → Bool} {L : List (Int × Int × Int)} {part : Nat → Int} {f : Nat} {R : List Nat} (h : Sp cr L part f R) (hnd : L.Nodup) {i j : Nat} (hi : i ∈ R) (hj : j < L.length) (hn : j ∉ R) (hp : part j < 0) {e : Int × Int × Int × Int} (hc : cr e = true) (h1 : ∀ hi' : i < L.length, hasT L[i] e = true) (h2 : hasT L[j] e = true) : Sp cr L part f (R ++ [j]) := by
  obtain ⟨hi1, hi2, hf, hr⟩ := h.2.2 i hi
  refine ⟨List.mem_append_left _ h.1, ?_, fun k hk => ?_⟩
  · rw [List.nodup_append]
    refine ⟨h.2.1, by simp, fun a ha b hb => ?_⟩
    simp at hb
    subst hb
    exact fun e => hn (e ▸ ha)
  · rcases List.mem_append.1 hk with hk | hk
    · exact h.2.2 k hk
    · simp at hk
      subst hk
      refine ⟨hj, hp, hf, hr.step (List.getElem_mem hj) ⟨fun e1 => ?_, e, h1 hi1, h2, hc⟩⟩
      have := nodup_inj hnd hj hi1 e1
      exact hn (this ▸ hi)
theorem lab_found (part : Nat → Int) (num : Int) (R : List Nat) (j : Nat) : lab part num (R ++ [j]) = fun i => if i = j then num else lab part num R i := by
  funext i
  unfold lab
  by_cases e : i = j
  · simp [e]
  · simp [e]

/-- Numbers in a row of memory that may be written. -/
def ZRow (w : World) (g n : Nat) (f : Nat → Int) : Prop := ∀ i, i < n → w.cell? ⟨g, i, none⟩ = some (.int .i64 (f i)) ∧ w.frozen? ⟨g, i, none⟩ = false
theorem ZRow.grown {w w' : World} {g n : Nat} {f : Nat → Int} {row : Option Nat} (h : ZRow w g n f) (hg : w.grownBy w' row) (hne : some g ≠ row) : ZRow w' g n f := fun i hi =>
  ⟨hg.cell (h i hi).1 hne, (World.frozen?_of_block (a := ⟨g, i, none⟩) (hg.block g (World.block_lt_of_cell? _ _ (h i hi).1) hne)).trans (h i hi).2⟩
theorem ZRow.kept {w w' : World} {g n : Nat} {f : Nat → Int} (h : ZRow w g n f) (hb : Below w.heap.size w w') : ZRow w' g n f := h.grown (bl_grown hb) (by simp)
theorem ZRow.set {w : World} {g n : Nat} {f : Nat → Int} (h : ZRow w g n f) {i : Nat} (v : Int) (hi : i < n) : ZRow (w.setCell ⟨g, i, none⟩ (.int .i64 v)) g n (fun j => if j = i then v else f j) := fun j hj => by
  refine ⟨?_, by rw [World.frozen?_setCell]; exact (h j hj).2⟩
  by_cases e : j = i
  · subst e
    rw [World.cell?_setCell_same _ _ _ (h j hj).1]
    simp
  · rw [World.cell?_setCell_other _ _ _ _ (by simp <;> omega)]
    rw [(h j hj).1]
    simp [e]

/-- A paper that is laid out, as a search reads it. -/
def PA (wE : World) (ad : Option Addr) (ra : Nat) (L : List (Int × Int × Int)) : Prop :=
  TRow wE ad L ∧ ∀ e, ∃ a cap, Row wE a (gix L e) ∧ ∀ wx : World, Below wE.heap.size wE wx → (Instr.lookup 36 (.map (some ra)) (ek e) false).run Tryz.prog wx = .ok (.slice a (gix L e).length cap) wx
theorem PP.pa {w0 w : World} {base pb ra rk cc : Nat} {ad : Option Addr} {L : List (Int × Int × Int)} (h : PP w0 w base pb ra rk (.slice ad L.length cc) L (gix L)) : PA w ad ra L := by
  obtain ⟨h1, h2, ⟨ls, c, b1, b2, b3, b4, b5⟩, h4⟩ := h
  refine ⟨?_, fun e => ?_⟩
  · obtain ⟨a, cap, e, hT⟩ := own_tris h2
    simp only [Value.slice.injEq] at e
    rw [e.1]
    exact hT
  · cases hl : lk ls e with
    | none =>
      refine ⟨none, 0, by rw [b3 e hl]; intro i hi; simp at hi, fun wx hb => ?_⟩
      have := lookup27 Tryz.underlying36 zero70 (b1.grown (bl_grown hb) (by simp)) b2 e
      rw [hl] at this
      rw [b3 e hl]
      exact this
    | some v =>
      obtain ⟨d1, d2, d3⟩ := b4 e v hl
      obtain ⟨b, off, cap, hv, hr⟩ : ∃ b off cap, v = .slice (some ⟨b, off, none⟩) (gix L e).length cap ∧ Row w (some ⟨b, off, none⟩) (gix L e) := by
        rcases d1.2 with ⟨rfl, h0⟩ | ⟨g, cap, cur, rfl, _⟩
        · exact absurd (List.length_eq_zero_iff.1 h0) d2
        · refine ⟨g, 0, cap, rfl, fun i hi => ⟨g, 0, rfl, ?_⟩⟩
          have := d1.cellAt i (by omega)
          rw [Nat.zero_add, this]
          simp [hi]
      refine ⟨some ⟨b, off, none⟩, cap, hr, fun wx hb => ?_⟩
      have := lookup27 Tryz.underlying36 zero70 (b1.grown (bl_grown hb) (by simp)) b2 e
      rw [hl, hv] at this
      exact this
theorem PA.kept {w w' : World} {ad : Option Addr} {ra : Nat} {L : List (Int × Int × Int)} (h : PA w ad ra L) (hb : Below w.heap.size w w') : PA w' ad ra L :=
  ⟨h.1.kept hb, fun e => by
    obtain ⟨a, cap, h1, h2⟩ := h.2 e
    exact ⟨a, cap, h1.kept hb, fun wx hx => h2 wx (bl_via hb hx)⟩⟩

abbrev EL := List ((Int × Int × Int × Int) × Value × Nat)
theorem blkE_same {w : World} {r : Nat} (h : r < w.heap.size) (o : Obj) : (setBlock w r o).heap[r]? = some o := by
  simp [setBlock, h]
theorem blkE_other {w : World} {r i : Nat} (h : i ≠ r) (o : Obj) : (setBlock w r o).heap[i]? = w.heap[i]? := by
  simp [setBlock, Ne.symm h]
theorem blkE_grown (w : World) (r : Nat) (o : Obj) : w.grownBy (setBlock w r o) (some r) :=
  ⟨rfl, rfl, rfl, by simp [setBlock], fun k _ hk => blkE_other (fun e => hk (by rw [e])) o⟩
def AllE (ls : EL) (seen : List Nat) : Prop := ∀ x ∈ ls, x.2.2 ∈ seen
def OneE (ls : EL) (seen : List Nat) (e : Int × Int × Int × Int) (xv : Value) (st : Nat) : Prop := (e, xv, st) ∈ ls ∧ st ∉ seen
def StepE (w w' : World) (rm r c : Nat) (ls : EL) (seen : List Nat) (st : Nat) : Prop := EM w' rm ls c ∧ w'.heap[r]? = some (.mapIter (some rm) c (seen ++ [st]).toArray c) ∧ w.grownBy w' (some r)
/-- A step of a range over a map keyed by edges: all have come, or one that has not. -/
theorem wpList_next_em {w : World} {ops : Array Oper} {rest : List Oper} {o : Oper} {a : Act} {Q : Exit → Act → World → Prop} (hg : o.guard = none) (it : Operand) (hop : o.op = Op.next it false) (rm r c : Nat) (ls : EL) (seen : List Nat)
    (hit : a.eval it = .pointer (some ⟨r, 0, none⟩)) (hm : EM w rm ls c) (hr : w.heap[r]? = some (.mapIter (some rm) c seen.toArray c)) (hG : Good ls c) (hne : r ≠ rm)
    (hDone : AllE ls seen → wpList Tryz.prog ops Q rest (a.put o.dst (.tuple #[.bool false])) w)
    (hMore : ∀ (e0 e1 e2 e3 : Int) (xv : Value) (st : Nat) (w' : World), OneE ls seen (e0, e1, e2, e3) xv st → StepE w w' rm r c ls seen st → (Instr.entry (.pointer (some ⟨r, 0, none⟩))).run Tryz.prog w' = .ok (.tuple #[.agg #[.int .i64 e0, .int .i64 e1, .int .i64 e2, .int .i64 e3], xv]) w' →
      wpList Tryz.prog ops Q rest (a.put o.dst (.tuple #[.bool true, .agg #[.int .i64 e0, .int .i64 e1, .int .i64 e2, .int .i64 e3], xv])) w') : wpList Tryz.prog ops Q (o :: rest) a w := by
  refine wpList_plain hg fun K' hK' => ?_
  unfold Oper.wp
  have hold : ∀ x ∈ ((ls.map toE).toArray).toList, x.born < c := fun x hx => by
    simp only [List.mem_map] at hx
    obtain ⟨y, hy, rfl⟩ := hx
    exact hG.2.2 y hy
  rcases run_next_at (P := Tryz.prog) w o.type r rm c c seen.toArray _ c hr hm hold (Nat.le_refl _) with ⟨h0, hrun⟩ | ⟨e, he, w1, hw1, hrun⟩
  · simp [execOp, hop, hit, hrun, Result.andThen]
    refine hK' _ _ (hDone (fun x hx => ?_))
    have : leftOf (ls.map toE).toArray seen.toArray = #[] := Array.eq_empty_of_size_eq_zero h0
    unfold leftOf at this
    rw [Array.filter_eq_empty_iff] at this
    have := this (toE x) (by rw [List.mem_toArray]; exact List.mem_map.2 ⟨x, hx, rfl⟩)
    simpa [toE] using this
  · have hel : ∃ x ∈ ls, x.2.2 ∉ seen ∧ toE x = e := by
      unfold leftOf at he
      simp only [Array.toList_filter, List.mem_filter, List.mem_map] at he
      obtain ⟨⟨x, hx, rfl⟩, hs⟩ := he
      exact ⟨x, hx, by simpa [toE] using hs, rfl⟩
    obtain ⟨x, hx, hxs, rfl⟩ := hel
    have hm1 : EM w1 rm ls c ∧ w1.heap[r]? = some (.mapIter (some rm) c seen.toArray c) ∧ w.grownBy w1 none := by
      rcases hw1 with rfl | rfl
      · exact ⟨hm, hr, bl_grown (bl_refl _)⟩
      · exact ⟨hm, hr, bl_grown (bl_drew (bl_refl _))⟩
    obtain ⟨m1, r1, g1⟩ := hm1
    simp [execOp, hop, hit, hrun, Result.andThen]
    obtain ⟨⟨e0, e1, e2, e3⟩, xv, st⟩ := x
    refine hK' _ _ (hMore e0 e1 e2 e3 xv st _ ⟨hx, hxs⟩ ⟨?_, ?_, ?_⟩ ?_)
    · exact (blkE_other (Ne.symm hne) _).trans m1
    · have := blkE_same (w := w1) (Array.getElem?_eq_some_iff.1 r1).1 (.mapIter (some rm) c (seen ++ [st]).toArray c)
      exact this
    · have g2 := blkE_grown w1 r (.mapIter (some rm) c (seen ++ [st]).toArray c)
      exact ⟨g2.os.trans g1.os, g2.tape.trans g1.tape, g2.output.trans g1.output, Nat.le_trans g1.size g2.size, fun k hk hne2 => (g2.block k (Nat.lt_of_lt_of_le hk g1.size) hne2).trans (g1.block k hk (by simp))⟩
    · have e1 := run_entry_at (P := Tryz.prog) (setBlock w1 r (.mapIter (some rm) c (seen ++ [st]).toArray c)) r rm c seen.toArray (ls.map toE).toArray c (toE ((e0, e1, e2, e3), xv, st)) (by
        have := blkE_same (w := w1) (Array.getElem?_eq_some_iff.1 r1).1 (.mapIter (some rm) c (seen ++ [st]).toArray c)
        rw [this]
        simp [toE]) ((blkE_other (Ne.symm hne) _).trans m1) (by simpa using List.mem_map.2 ⟨_, hx, rfl⟩) (by
        have := hG.2.1
        simpa [List.map_map, toE, Function.comp_def] using this)
      exact e1
def stampE (vis : EL) : List Nat := vis.map (fun x => x.2.2)
theorem stampE_add (vis : EL) (x : (Int × Int × Int × Int) × Value × Nat) : stampE (vis ++ [x]) = stampE vis ++ [x.2.2] := by simp [stampE]
theorem sub_lenE : ∀ (a b : List Nat), a.Nodup → (∀ x ∈ a, x ∈ b) → a.length ≤ b.length
  | [], _, _, _ => Nat.zero_le _
  | x :: a, b, hn, hs => by
    rw [List.nodup_cons] at hn
    have := sub_lenE a (b.erase x) hn.2 fun y hy => (List.mem_erase_of_ne (fun (e : y = x) => hn.1 (e ▸ hy))).2 (hs y (by simp [hy]))
    rw [List.length_erase_of_mem (hs x (by simp))] at this
    have := List.length_pos_of_mem (hs x (by simp))
    rw [List.length_cons]
    omega
theorem keyE_inj {ls : EL} (h : (ls.map (fun x => x.1)).Nodup) : ∀ {a b}, a ∈ ls → b ∈ ls → a.1 = b.1 → a = b := by
  induction ls with
  | nil => intro a b ha; cases ha
  | cons x l ih =>
    intro a b ha hb e
    rw [List.map_cons, List.nodup_cons] at h
    rcases List.mem_cons.1 ha with e1 | ha2
    · rcases List.mem_cons.1 hb with e2 | hb2
      · rw [e1, e2]
      · exact absurd (List.mem_map.2 ⟨b, hb2, by rw [← e, e1]⟩) h.1
    · rcases List.mem_cons.1 hb with e2 | hb2
      · exact absurd (List.mem_map.2 ⟨a, ha2, by rw [e, e2]⟩) h.1
      · exact ih h.2 ha2 hb2 e
theorem stampE_inj {ls : EL} (h : (ls.map (fun x => x.2.2)).Nodup) : ∀ {a b}, a ∈ ls → b ∈ ls → a.2.2 = b.2.2 → a = b := by
  induction ls with
  | nil => intro a b ha; cases ha
  | cons x l ih =>
    intro a b ha hb e
    rw [List.map_cons, List.nodup_cons] at h
    rcases List.mem_cons.1 ha with e1 | ha2
    · rcases List.mem_cons.1 hb with e2 | hb2
      · rw [e1, e2]
      · exact absurd (List.mem_map.2 ⟨b, hb2, by rw [← e, e1]⟩) h.1
    · rcases List.mem_cons.1 hb with e2 | hb2
      · exact absurd (List.mem_map.2 ⟨a, ha2, by rw [e, e2]⟩) h.1
      · exact ih h.2 ha2 hb2 e
/-- What has come: of the map, each once. -/
def VisE (ls vis : EL) : Prop := (∀ x ∈ vis, x ∈ ls) ∧ (stampE vis).Nodup
theorem VisE.nil (ls : EL) : VisE ls [] := ⟨fun x hx => (by cases hx), List.nodup_nil⟩
theorem VisE.len {ls vis : EL} (h : VisE ls vis) : vis.length ≤ ls.length := by
  have := sub_lenE (stampE vis) (stampE ls) h.2 (fun x hx => by
    obtain ⟨y, hy, rfl⟩ := List.mem_map.1 hx
    exact List.mem_map.2 ⟨y, h.1 y hy, rfl⟩)
  simpa [stampE] using this
theorem VisE.add {ls vis : EL} {e : Int × Int × Int × Int} {xv : Value} {st : Nat} (h : VisE ls vis) (ho : OneE ls (stampE vis) e xv st) : VisE ls (vis ++ [(e, xv, st)]) := by
  refine ⟨fun x hx => ?_, ?_⟩
  · rcases List.mem_append.1 hx with hx | hx
    · exact h.1 x hx
    · simp at hx
      rw [hx]
      exact ho.1
  · rw [stampE_add, List.nodup_append]
    refine ⟨h.2, by simp, fun a ha b hb => ?_⟩
    simp at hb
    subst hb
    exact fun e => ho.2 (e ▸ ha)
theorem VisE.keys {ls vis : EL} {c : Nat} (h : VisE ls vis) (hG : Good ls c) : (vis.map (fun x => x.1)).Nodup := by
  have h2 : vis.Pairwise (fun a b => a.2.2 ≠ b.2.2) := List.pairwise_map.1 h.2
  refine List.pairwise_map.2 (h2.imp_of_mem (fun {a b} ha hb hne e => hne ?_))
  rw [keyE_inj hG.1 (h.1 a ha) (h.1 b hb) e]
/-- All have come: they are the map's. -/
theorem VisE.all {ls vis : EL} {c : Nat} (h : VisE ls vis) (hG : Good ls c) (hd : AllE ls (stampE vis)) (x : (Int × Int × Int × Int) × Value × Nat) : x ∈ vis ↔ x ∈ ls := by
  refine ⟨h.1 x, fun hx => ?_⟩
  obtain ⟨y, hy, e⟩ := List.mem_map.1 (hd x hx)
  rwa [← stampE_inj hG.2.1 (h.1 y hy) hx e]
theorem lk_in {ls : EL} {c : Nat} (hG : Good ls c) {e : Int × Int × Int × Int} {v : Value} {st : Nat} (h : (e, v, st) ∈ ls) : lk ls e = some v := by
  obtain ⟨j, hj⟩ := List.getElem?_of_mem h
  exact lk_at hG.1 hj rfl
end Go.Proofs.YtehmoacggikfmaaGreatDoor
namespace Go.Proofs.YtehmoacggikfmaaGreatDoor
open Go.RowKit Go.Shelf Go.ChangeMaps
attribute [local go_sem] Oper.semAt_some

/-- A loop's record. -/
def Rec (fn : FuncId) (tmps : Array Value) (ps : Array Tmp) (assign body : Code) (D : Nat) (st : LoopState) : Loop := { state := st, pending := none, fn := fn, tmps := tmps, params := ps, assign := assign, body := body, defers := D }
theorem range_outer {P : Program} {n : Nat} {g : Operand} {ps : Array Tmp} {assign body : Code} {Q : Exit → Act → World → Prop} {a : Act} {w : World} {gf : Nat} {lb : Array Value} (hg : a.eval g = .func (.func gf) #[] lb) (eg : ∀ args w, (callFunc gf args).run P w = .ok (.enter gf args) w)
    (h : ∀ fn, CallsIn .wide (n - 1) P gf (#[.func (.yield (w.heap.size + 1)) #[] #[]] ++ lb) ((w.alloc (.deferred (some []))).alloc (.loop (Rec fn a.tmps ps assign body w.heap.size .ready))) fun e W => (∃ v, e = .returned v) ∧ W.heap[w.heap.size + 1]? = some (.loop (Rec fn a.tmps ps assign body w.heap.size .ready)) ∧ Q .normal { a with defers := { target := .collected w.heap.size, args := #[] } :: a.defers } (W.putObj (w.heap.size + 1) (.loop (Rec fn a.tmps ps assign body w.heap.size .exhausted)))) :
    (Code.rangeFunc g ps assign body).wpIn .wide n P Q a w := by
  refine wpIn_rangeFunc ?_
  intro fn _
  refine ⟨w.heap.size + 1, [{ target := .collected w.heap.size, args := #[] }], ((w.alloc (.deferred (some []))).alloc (.loop (Rec fn a.tmps ps assign body w.heap.size .ready))), { target := .fn (.func gf) lb, args := #[.func (.yield (w.heap.size + 1)) #[] #[]] }, ((w.alloc (.deferred (some []))).alloc (.loop (Rec fn a.tmps ps assign body w.heap.size .ready))), gf, #[.func (.yield (w.heap.size + 1)) #[] #[]] ++ lb, ((w.alloc (.deferred (some []))).alloc (.loop (Rec fn a.tmps ps assign body w.heap.size .ready))), run_enterLoop_outer _ _ _ _ _, ?_, fun _ _ => trivial, ?_, fun h => (by cases h), ?_⟩
  · simp only [resolve, hg]
    simp [go_sem]
  · simp [invoke, go_sem, eg]
  · refine (h fn).mono ?_
    rintro e W ⟨⟨v, rfl⟩, hl, hq⟩
    exact ⟨none, _, run_endLoop hl (by simp [Rec]), hq⟩
theorem round_of {P : Program} {l m : Nat} {R : Ending → World → Prop} {fn : FuncId} {tmps : Array Value} {ps : Array Tmp} {assign body : Code} {D : Nat} {W : World} {args : Array Value} (hl : W.heap[l]? = some (.loop (Rec fn tmps ps assign body D .ready))) (hs : args.size = ps.size) (a₁ : Act)
    (hassign : ∀ K : Act → World → Prop, K a₁ W → assign.wpIn (Fence.wide.inRound l) m P (Exit.then K (fun _ _ _ => False)) { tmps := (ps.zip args).foldl (fun t (p, v) => t.setIfInBounds p v) tmps, defers := [] } W)
    (hbody : body.wpIn (Fence.wide.inRound l) m P (fun e _ W3 => e = .normal ∧ W3.heap[l]? = some (.loop (Rec fn tmps ps assign body D .busy)) ∧ R (.returned (.bool true)) (W3.putObj l (.loop (Rec fn tmps ps assign body D .ready)))) a₁ (W.putObj l (.loop (Rec fn tmps ps assign body D .busy)))) :
    YieldAt .wide m P l args W R := by
  refine ⟨fn, _, assign, body, run_yield hl hs, roundIn_of_wpIn trivial (hassign _ ⟨_, run_beginRound hl rfl, wpIn_mono hbody ?_⟩)⟩
  rintro e a3 W3 ⟨rfl, h3, hr⟩
  exact ⟨_, _, run_endRound none h3, hr⟩
theorem RoundIn_any {m m' : Nat} {P : Program} {l : Nat} {f : FuncId} {tmps : Array Value} {assign body : Code} {w : World} {R : Ending → World → Prop} (h : RoundIn .wide m P l f tmps assign body w R) : RoundIn .wide m' P l f tmps assign body w R := ⟨h.1, fun c cs _ => h.2 c cs (room_wide _)⟩
/-- What whoever loops hands on from round to round: it abides what an iterator does beside it, in a block of its own. -/
structure Frm (J : Option (Nat × Obj) → EL → World → Prop) : Prop where
  gro : ∀ {fb vis W W'}, J fb vis W → Below W.heap.size W W' → J fb vis W'
  new : ∀ {vis W o}, J none vis W → J (some (W.heap.size, o)) vis (W.alloc o)
  put : ∀ {b o vis W} (o' : Obj), J (some (b, o)) vis W → J (some (b, o')) vis (W.putObj b o')
  here : ∀ {b o vis W}, J (some (b, o)) vis W → W.heap[b]? = some o
  tail : ∀ {b o vis W}, J (some (b, o)) vis W → J none vis W
/-- What holds when so many have come, told with the blocks of which it speaks. -/
def JJ (n₀ : Nat) (C : (Nat → Prop) → EL → World → Prop) (fb : Option (Nat × Obj)) (vis : EL) (W : World) : Prop := (∀ x, fb = some x → W.heap[x.1]? = some x.2 ∧ n₀ ≤ x.1) ∧ ∃ mb, C mb vis W ∧ ∀ x, fb = some x → ¬ mb x.1
theorem put_other {W : World} {b c : Nat} {o : Obj} (h : c ≠ b) : (W.putObj b o).heap[c]? = W.heap[c]? := World.putObj_heap_other h
theorem Frm.of {n₀ : Nat} {C : (Nat → Prop) → EL → World → Prop} (s0 : ∀ {mb k W}, C mb k W → n₀ ≤ W.heap.size) (sg : ∀ {mb k W W' row}, C mb k W → W.grownBy W' row → (∀ r, row = some r → n₀ ≤ r ∧ ¬ mb r) → C mb k W') (s3 : ∀ {mb k W b}, C mb k W → mb b → b < W.heap.size) : Frm (JJ n₀ C) := {
  gro := by
    rintro fb k W W' ⟨h2, mb, h3, h4⟩ hb
    exact ⟨fun x hx => ⟨(hb.block x.1 (Array.getElem?_eq_some_iff.1 (h2 x hx).1).1).trans (h2 x hx).1, (h2 x hx).2⟩, mb, sg h3 (bl_grown hb) (fun r e => by cases e), h4⟩
  new := by
    rintro k W o ⟨_, mb, h3, _⟩
    refine ⟨fun x hx => ?_, mb, sg (row := none) h3 (World.grownBy_alloc _ _ _) (fun r e => by cases e), fun x hx hm => ?_⟩
    · cases hx
      exact ⟨heap_alloc_new W o, s0 h3⟩
    · cases hx
      have := s3 h3 hm
      simp only at this
      omega
  put := by
    rintro b o k W o' ⟨h2, mb, h3, h4⟩
    have hb := h2 (b, o) rfl
    have hlt := (Array.getElem?_eq_some_iff.1 hb.1).1
    refine ⟨fun x hx => ?_, mb, sg h3 (grownBy_putObj' W b o') (fun r e => by cases e; exact ⟨hb.2, h4 (b, o) rfl⟩), fun x hx => ?_⟩
    · cases hx
      exact ⟨World.putObj_heap_same hlt, hb.2⟩
    · cases hx
      exact h4 (b, o) rfl
  here := by
    rintro b o k W ⟨h2, _⟩
    exact (h2 (b, o) rfl).1
  tail := by
    rintro b o k W ⟨h2, mb, h3, h4⟩
    refine ⟨?_, mb, h3, ?_⟩ <;> (intro x hx; cases hx) }

theorem run_range_em {w : World} {rm c : Nat} {ls : EL} (h : EM w rm ls c) : (Instr.range 37 (.map (some rm))).run Tryz.prog w = .ok (.pointer (some ⟨w.heap.size, 0, none⟩)) (w.alloc (.mapIter (some rm) c #[] c)) := by
  unfold EM at h
  simp [Instr.range, run_underlying Tryz.underlying37, MapKept.run_getObj_map h, Result.andThen]
theorem emo_same {w : World} {r : Nat} (h : r < w.heap.size) (o : Obj) : (w.putObj r o).heap[r]? = some o := World.putObj_heap_same h
def AllC (ls : EL) (seen : List Nat) : Prop := ∀ x ∈ ls, x.2.2 ∈ seen
def OneC (ls : EL) (seen : List Nat) (x : ((Int × Int × Int × Int) × Value × Nat)) : Prop := x ∈ ls ∧ x.2.2 ∉ seen
/-- A step of a range over such a map, inside a fence: all have come, or one that has not. -/
theorem wpListIn_next_em {F : Fence} {n : Nat} {w : World} {ops : Array Oper} {rest : List Oper} {o : Oper} {a : Act} {Q : Exit → Act → World → Prop} (hg : o.guard = none) (it : Operand) (hop : o.op = Op.next it false) (rm r c : Nat) (ls : EL) (seen : List Nat)
    (hit : a.eval it = .pointer (some ⟨r, 0, none⟩)) (hm : EM w rm ls c) (hr : w.heap[r]? = some (.mapIter (some rm) c seen.toArray c)) (hG : Good ls c) (hne : r ≠ rm)
    (hDone : AllC ls seen → wpListIn F n Tryz.prog ops Q rest (a.put o.dst (.tuple #[.bool false])) w)
    (hMore : ∀ (k1 k2 k3 k4 : Int) (xv : Value) (st : Nat) (W1 : World), OneC ls seen ((k1, k2, k3, k4), xv, st) → Below w.heap.size w W1 → (Instr.entry (.pointer (some ⟨r, 0, none⟩))).run Tryz.prog (W1.putObj r (.mapIter (some rm) c (seen ++ [st]).toArray c)) = .ok (.tuple #[.agg #[.int .i64 k1, .int .i64 k2, .int .i64 k3, .int .i64 k4], xv]) (W1.putObj r (.mapIter (some rm) c (seen ++ [st]).toArray c)) →
      wpListIn F n Tryz.prog ops Q rest (a.put o.dst (.tuple #[.bool true, .agg #[.int .i64 k1, .int .i64 k2, .int .i64 k3, .int .i64 k4], xv])) (W1.putObj r (.mapIter (some rm) c (seen ++ [st]).toArray c))) : wpListIn F n Tryz.prog ops Q (o :: rest) a w := by
  refine wpListIn_plain hg fun K' hK' => ?_
  unfold Oper.wpIn
  refine ⟨by simp [Oper.about, hop], ?_⟩
  rw [Oper.semAt_plain F _ _ (by rw [hop]; intro c hc'; cases hc')]
  have hold : ∀ x ∈ ((ls.map toE).toArray).toList, x.born < c := fun x hx => by
    simp only [List.mem_map] at hx
    obtain ⟨y, hy, rfl⟩ := hx
    exact hG.2.2 y hy
  rcases run_next_at (P := Tryz.prog) w o.type r rm c c seen.toArray _ c hr hm hold (Nat.le_refl _) with ⟨h0, hrun⟩ | ⟨e, he, w1, hw1, hrun⟩
  · simp [execOp, hop, hit, hrun, Result.andThen]
    refine hK' _ _ (hDone (fun x hx => ?_))
    have : leftOf (ls.map toE).toArray seen.toArray = #[] := Array.eq_empty_of_size_eq_zero h0
    unfold leftOf at this
    rw [Array.filter_eq_empty_iff] at this
    have := this (toE x) (by rw [List.mem_toArray]; exact List.mem_map.2 ⟨x, hx, rfl⟩)
    simpa [toE] using this
  · have hel : ∃ x ∈ ls, x.2.2 ∉ seen ∧ toE x = e := by
      unfold leftOf at he
      simp only [Array.toList_filter, List.mem_filter, List.mem_map] at he
      obtain ⟨⟨x, hx, rfl⟩, hs⟩ := he
      exact ⟨x, hx, by simpa [toE] using hs, rfl⟩
    obtain ⟨x, hx, hxs, rfl⟩ := hel
    have hm1 : EM w1 rm ls c ∧ w1.heap[r]? = some (.mapIter (some rm) c seen.toArray c) ∧ Below w.heap.size w w1 := by
      rcases hw1 with rfl | rfl
      · exact ⟨hm, hr, bl_refl _⟩
      · exact ⟨hm, hr, bl_drew (bl_refl _)⟩
    obtain ⟨m1, r1, b1⟩ := hm1
    simp [execOp, hop, hit, hrun, Result.andThen]
    obtain ⟨⟨k1, k2, k3, k4⟩, xv, st⟩ := x
    refine hK' _ _ (hMore k1 k2 k3 k4 xv st w1 ⟨hx, hxs⟩ b1 ?_)
    have zr := (Array.getElem?_eq_some_iff.1 r1).1
    have e1 := run_entry_at (P := Tryz.prog) (w1.putObj r (.mapIter (some rm) c (seen ++ [st]).toArray c)) r rm c seen.toArray (ls.map toE).toArray c (toE ((k1, k2, k3, k4), xv, st)) (by
      rw [emo_same zr]
      simp [toE]) ((put_other (Ne.symm hne)).trans m1) (by simpa using List.mem_map.2 ⟨_, hx, rfl⟩) (by
      have := hG.2.1
      simpa [List.map_map, toE, Function.comp_def] using this)
    exact e1
/-- Those that have come: some of the entries, none twice. -/
def Vis (ls vis : EL) : Prop := (∀ x ∈ vis, x ∈ ls) ∧ (vis.map (fun x => x.2.2)).Nodup
theorem stamp_len : ∀ (a b : List Nat), a.Nodup → (∀ x ∈ a, x ∈ b) → a.length ≤ b.length
  | [], _, _, _ => by simp
  | x :: r, b, h, hs => by
    rw [List.nodup_cons] at h
    have hx := hs x (by simp)
    have h1 := stamp_len r (b.erase x) h.2 (fun y hy => by
      have hne : y ≠ x := fun e => h.1 (e ▸ hy)
      exact (List.mem_erase_of_ne hne).2 (hs y (by simp [hy])))
    rw [List.length_erase_of_mem hx] at h1
    have := List.length_pos_of_mem hx
    rw [List.length_cons]
    omega
theorem Vis.len {ls vis : EL} {c : Nat} (_hG : Good ls c) (h : Vis ls vis) : vis.length ≤ ls.length := by
  have h1 := stamp_len (vis.map (fun x => x.2.2)) (ls.map (fun x => x.2.2)) h.2 (fun y hy => by
    obtain ⟨x, hx, rfl⟩ := List.mem_map.1 hy
    exact List.mem_map.2 ⟨x, h.1 x hx, rfl⟩)
  simpa using h1
theorem Vis.more {ls vis : EL} {x : ((Int × Int × Int × Int) × Value × Nat)} (h : Vis ls vis) (hx : x ∈ ls) (hn : x.2.2 ∉ vis.map (fun x => x.2.2)) : Vis ls (vis ++ [x]) := by
  refine ⟨fun y hy => ?_, ?_⟩
  · rcases List.mem_append.1 hy with hy | hy
    · exact h.1 y hy
    · simp at hy
      rw [hy]
      exact hx
  · rw [List.map_append, List.nodup_append]
    refine ⟨h.2, by simp, fun a ha b hb e => ?_⟩
    simp at hb
    exact hn (by rw [← hb, ← e]; exact ha)
theorem inj_stamp {ls : EL} {c : Nat} (hG : Good ls c) {x y : ((Int × Int × Int × Int) × Value × Nat)} (hx : x ∈ ls) (hy : y ∈ ls) (e : x.2.2 = y.2.2) : x = y := by
  obtain ⟨i, hi, rfl⟩ := List.getElem_of_mem hx
  obtain ⟨j, hj, rfl⟩ := List.getElem_of_mem hy
  have h2 := hG.2.1
  have hp := List.pairwise_iff_getElem.1 h2
  rcases Nat.lt_trichotomy i j with q | q | q
  · exact absurd (by rw [List.getElem_map, List.getElem_map]; exact e) (hp i j (by simpa using hi) (by simpa using hj) q)
  · subst q
    rfl
  · exact absurd (by rw [List.getElem_map, List.getElem_map]; exact e.symm) (hp j i (by simpa using hj) (by simpa using hi) q)
theorem Vis.all {ls vis : EL} {c : Nat} (hG : Good ls c) (h : Vis ls vis) (ha : ∀ x ∈ ls, x.2.2 ∈ vis.map (fun x => x.2.2)) : vis.Perm ls := by
  have n1 : vis.Nodup := List.Pairwise.of_map (fun x => x.2.2) (fun a b q e => q (by rw [e])) h.2
  have n2 : ls.Nodup := List.Pairwise.of_map (fun x => x.2.2) (fun a b q e => q (by rw [e])) hG.2.1
  refine (List.perm_ext_iff_of_nodup n1 n2).2 fun x => ⟨h.1 x, fun hx => ?_⟩
  obtain ⟨y, hy, e⟩ := List.mem_map.1 (ha x hx)
  rw [← inj_stamp hG (h.1 y hy) hx e]
  exact hy
set_option maxRecDepth 100000 in
set_option maxHeartbeats 1600000 in
theorem keys1_in (rm Bm c l m m' : Nat) (ls : EL) (hG : Good ls c) (J : Option (Nat × Obj) → EL → World → Prop) (hF : Frm J)
    (hD : ∀ {fb vis W}, J fb vis W → W.cell? ⟨Bm, 0, none⟩ = some (.map (some rm)) ∧ EM W rm ls c)
    (hY : ∀ {fb vis x W}, J fb vis W → x ∈ ls → vis.length < ls.length → YieldAt .wide m Tryz.prog l #[ek x.1] W fun e W' => e = .returned (.bool true) ∧ J fb (vis ++ [x]) W')
    (W : World) (h0 : J none [] W) :
    CallsIn .wide m' Tryz.prog 54 #[.func (.yield l) #[] #[], .pointer (some ⟨Bm, 0, none⟩)] W fun e W' => (∃ v, e = .returned v) ∧ ∃ vis, vis.Perm ls ∧ J none vis W' := by
  refine callsIn_of_wp Tryz.func54 rfl trivial ?_ rfl
  simp only [Tryz.ntmps54, List.size_toArray, List.length_cons, List.length_nil, Nat.reduceAdd, Nat.reduceSub, Array.replicate_succ, Array.replicate_zero, List.push_toArray, List.append_toArray, List.nil_append, List.cons_append]
  obtain ⟨hd0, hm0⟩ := hD h0
  have hrr := run_range_em hm0
  have zm := hm0.lt
  obtain ⟨r, hr⟩ : ∃ r, r = W.heap.size := ⟨_, rfl⟩
  have h1 := hF.new (o := .mapIter (some rm) c #[] c) h0
  have HD : Hid (∀ fb vis W, J fb vis W → W.cell? ⟨Bm, 0, none⟩ = some (.map (some rm)) ∧ EM W rm ls c) := fun _ _ _ h => hD h
  have HY : Hid (∀ fb vis x W, J fb vis W → x ∈ ls → vis.length < ls.length → YieldAt .wide m Tryz.prog l #[ek x.1] W fun e W' => e = .returned (.bool true) ∧ J fb (vis ++ [x]) W') := fun _ _ _ _ h1 h2 h3 => hY h1 h2 h3
  have HG : Hid (Good ls c) := hG
  have HF : Hid (Frm J) := hF
  have HJ : Hid (J (some (r, .mapIter (some rm) c #[] c)) [] (W.alloc (.mapIter (some rm) c #[] c))) := by rw [hr]; exact h1
  have HNE : Hid (r ≠ rm) := by
    have : r ≠ rm := by omega
    exact this
  clear hD hY hG hF h1 h0 zm
  gi_wp2
  rw [← hr]
  obtain ⟨W1, hW1⟩ : ∃ W1, W1 = W.alloc (.mapIter (some rm) c #[] c) := ⟨_, rfl⟩
  rw [← hW1] at HJ ⊢
  clear hW1 hrr hm0 hd0 hr
  gi_loopg [] ls.length (fun gk wx => ∃ vis : EL, gk = ls.length - vis.length ∧ Vis ls vis ∧ J (some (r, .mapIter (some rm) c (vis.map (fun x => x.2.2)).toArray c)) vis wx)
  case atStart => exact ⟨[], by simp, ⟨by simp, by simp⟩, HJ.out⟩
  case round =>
    clear HJ
    obtain ⟨vis, rfl, hV, hJ⟩ := hrel
    have hm := (HD.out _ _ _ hJ).2
    have hit := HF.out.here hJ
    gi_wp2_with (gi_at_next; refine wpListIn_next_em rfl _ rfl rm r c ls (vis.map (fun x => x.2.2)) rfl hm hit HG.out HNE.out ?done ?more)
    case done =>
      intro hall
      gi_wp2
      go_end0
      exact ⟨⟨_, rfl⟩, vis, hV.all HG.out hall, HF.out.tail hJ⟩
    case more =>
      intro k1 k2 k3 k4 xv st W2 hone hb hen
      obtain ⟨x, hxe⟩ : ∃ x : ((Int × Int × Int × Int) × Value × Nat), x = ((k1, k2, k3, k4), xv, st) := ⟨_, rfl⟩
      rw [← hxe] at hone
      obtain ⟨hx, hxn⟩ := hone
      have hv : ek x.1 = .agg #[.int .i64 k1, .int .i64 k2, .int .i64 k3, .int .i64 k4] := by rw [hxe]; rfl
      have hst : st = x.2.2 := by rw [hxe]
      rw [hst] at hen ⊢
      clear hxe
      have hV2 := hV.more hx hxn
      have hl2 := hV2.len HG.out
      rw [List.length_append, List.length_singleton] at hl2
      have hJ2 := HF.out.put (.mapIter (some rm) c (vis.map (fun x => x.2.2) ++ [x.2.2]).toArray c) (HF.out.gro hJ hb)
      have hyy := HY.out _ _ x _ (HF.out.gro hJ2 (bl_alloc (o := .cells #[.int .i64 k1, .int .i64 k2, .int .i64 k3, .int .i64 k4] 53) (bl_refl _))) hx (by omega)
      have HV2 : Hid (Vis ls (vis ++ [x])) := hV2
      rw [hv] at hyy
      generalize W2.putObj r (.mapIter (some rm) c (vis.map (fun x => x.2.2) ++ [x.2.2]).toArray c) = W3 at hyy hen ⊢
      obtain ⟨fn, tmps, assign, body, hy, hR⟩ := hyy
      clear hm hit hJ hV hb hJ2 hV2
      gi_wp2
      refine ⟨fun h => (by cases h), (RoundIn_any hR).mono ?_⟩
      rintro e W4 ⟨rfl, hJ4⟩
      have HJ4 : Hid (J (some (r, .mapIter (some rm) c ((vis ++ [x]).map (fun x => x.2.2)).toArray c)) (vis ++ [x]) W4) := by
        rw [List.map_append]
        exact hJ4
      clear hJ4 hy hR hen
      gi_wp2
      gi_roundg (ls.length - (vis ++ [x]).length)
      case measure =>
        rw [List.length_append, List.length_singleton]
        omega
      case rel => exact ⟨vis ++ [x], rfl, HV2.out, HJ4.out⟩
end Go.Proofs.YtehmoacggikfmaaGreatDoor
namespace Go.Proofs.YtehmoacggikfmaaGreatDoor
open Go.RowKit Go.ChangeMaps

/-- Maps, number by number; the one that leaves all where it is; none. -/
abbrev M6 := Int × Int × Int × Int × Int × Int
def idM : M6 := (1, 0, 0, 1, 0, 0)
def noM : M6 := (0, 0, 0, 0, 0, 0)
/-- First one map, then another. -/
def aft (m n : M6) : M6 :=
  (dot n.1 n.2.1 m.1 m.2.2.1, dot n.1 n.2.1 m.2.1 m.2.2.2.1, dot n.2.2.1 n.2.2.2.1 m.1 m.2.2.1, dot n.2.2.1 n.2.2.2.1 m.2.1 m.2.2.2.1, dot n.1 n.2.1 m.2.2.2.2.1 m.2.2.2.2.2 + n.2.2.2.2.1, dot n.2.2.1 n.2.2.2.1 m.2.2.2.2.1 m.2.2.2.2.2 + n.2.2.2.2.2)
/-- The line of an edge, and the mirror at a line. -/
def lnW (e : Int × Int × Int × Int) : Int := if e.1 = e.2.2.1 then 0 else if e.2.1 = e.2.2.2 then 1 else if e.2.2.2 < e.2.1 then 2 else 3
def lnC (e : Int × Int × Int × Int) : Int := if e.1 = e.2.2.1 then e.1 else if e.2.1 = e.2.2.2 then e.2.1 else if e.2.2.2 < e.2.1 then e.1 + e.2.1 else e.1 - e.2.1
def mir (v c : Int) : M6 := (mA v, mB v, mB v, mD v, mE v c, mF v c)
/-- The map beyond an edge. -/
def farM (kd : Int × Int × Int × Int → Int) (e : Int × Int × Int × Int) (m : M6) : M6 := if kd e = 0 then m else aft (mir (lnW e) (lnC e)) m
def mapM (m : M6) : Bool := mapB m.1 m.2.1 m.2.2.1 m.2.2.2.1 m.2.2.2.2.1 m.2.2.2.2.2
def GoodM (m : M6) (B : Int) : Prop := mapM m = true ∧ (-B ≤ m.2.2.2.2.1 ∧ m.2.2.2.2.1 ≤ B) ∧ (-B ≤ m.2.2.2.2.2 ∧ m.2.2.2.2.2 ≤ B)
theorem GoodM.mono {m : M6} {B C : Int} (h : GoodM m B) (hB : B ≤ C) : GoodM m C := ⟨h.1, ⟨by have := h.2.1; omega, by have := h.2.1; omega⟩, ⟨by have := h.2.2; omega, by have := h.2.2; omega⟩⟩
theorem idM_good : GoodM idM 0 := ⟨by decide, by decide, by decide⟩
theorem noM_not : mapM noM = false := by decide

theorem line_may {t : Int × Int × Int} {e : Int × Int × Int × Int} (h : hasT t e = true) (hb : (0 ≤ t.1 ∧ t.1 ≤ 8) ∧ (0 ≤ t.2.1 ∧ t.2.1 ≤ 8) ∧ (0 ≤ t.2.2 ∧ t.2.2 ≤ 3)) : lineB (lnW e) (lnC e) = true ∧ -40 ≤ lnC e ∧ lnC e ≤ 40 := by
  obtain ⟨x, y, k⟩ := t
  obtain ⟨p, q, r, s⟩ := e
  simp only [hasT] at h hb
  rw [hasB_or] at h
  obtain ⟨hx, hy, hk⟩ := hb
  have hk4 : k = 0 ∨ k = 1 ∨ k = 2 ∨ k = 3 := by omega
  have key : (p = r → p % 2 = 0) ∧ (q = s → q % 2 = 0) ∧ (p + q) % 2 = 0 ∧ (0 ≤ p ∧ p ≤ 18) ∧ (0 ≤ q ∧ q ≤ 18) := by
    rcases hk4 with rfl | rfl | rfl | rfl <;> simp only [e0_0, e0_1, e0_2, e0_3, e1_0, e1_1, e1_2, e1_3, e2_0, e2_1, e2_2, e2_3] at h <;> omega
  clear h hk4
  by_cases c1 : p = r
  · simp only [lineB, lnW, lnC, if_pos c1, decide_eq_true_eq]
    omega
  · by_cases c2 : q = s
    · simp only [lineB, lnW, lnC, if_neg c1, if_pos c2, decide_eq_true_eq]
      omega
    · by_cases c3 : s < q
      · simp only [lineB, lnW, lnC, if_neg c1, if_neg c2, if_pos c3, decide_eq_true_eq]
        omega
      · simp only [lineB, lnW, lnC, if_neg c1, if_neg c2, if_neg c3, decide_eq_true_eq]
        omega

theorem mir_may {v c : Int} (h : lineB v c = true) (hb : -40 ≤ c ∧ c ≤ 40) : GoodM (mir v c) 80 := by
  obtain ⟨h0, h3, b1, b2, b3⟩ := line_bd h
  have hv : v = 0 ∨ v = 1 ∨ v = 2 ∨ v = 3 := by omega
  rcases hv with rfl | rfl | rfl | rfl <;> simp [GoodM, mapM, mir, mapB, mA, mB, mD, mE, mF, unitB, evenB] <;> omega

/-- The four numbers of a map that may be: a turn or a mirror. -/
theorem map_lin {a b c d e f : Int} (h : mapB a b c d e f = true) : ((a = 1 ∨ a = -1) ∧ b = 0 ∧ c = 0 ∧ (d = 1 ∨ d = -1)) ∨ (a = 0 ∧ (b = 1 ∨ b = -1) ∧ (c = 1 ∨ c = -1) ∧ d = 0) := by
  simp only [mapB, unitB, Bool.and_eq_true, Bool.or_eq_true, decide_eq_true_eq] at h
  omega
theorem map_of {a b c d e f : Int} (h : ((a = 1 ∨ a = -1) ∧ b = 0 ∧ c = 0 ∧ (d = 1 ∨ d = -1)) ∨ (a = 0 ∧ (b = 1 ∨ b = -1) ∧ (c = 1 ∨ c = -1) ∧ d = 0)) (he : e % 2 = 0 ∧ -1000000 ≤ e ∧ e ≤ 1000000) (hf : f % 2 = 0 ∧ -1000000 ≤ f ∧ f ≤ 1000000) : mapB a b c d e f = true := by
  simp only [mapB, unitB, evenB, Bool.and_eq_true, Bool.or_eq_true, decide_eq_true_eq]
  omega
theorem aft_good {m n : M6} {B : Int} (hm : GoodM m 80) (hn : GoodM n B) (hB : B ≤ 900000) : GoodM (aft m n) (B + 160) := by
  obtain ⟨a, b, c, d, e, f⟩ := m
  obtain ⟨A, B', C, D, E, F⟩ := n
  obtain ⟨m1, m2, m3⟩ := hm
  obtain ⟨n1, n2, n3⟩ := hn
  simp only [mapM] at m1 m2 m3 n1 n2 n3
  have me := (map_bd m1).2.2
  have ne := (map_bd n1).2.2
  have ml := map_lin m1
  have nl := map_lin n1
  have key : (((dot A B' a c = 1 ∨ dot A B' a c = -1) ∧ dot A B' b d = 0 ∧ dot C D a c = 0 ∧ (dot C D b d = 1 ∨ dot C D b d = -1)) ∨ (dot A B' a c = 0 ∧ (dot A B' b d = 1 ∨ dot A B' b d = -1) ∧ (dot C D a c = 1 ∨ dot C D a c = -1) ∧ dot C D b d = 0)) ∧ (dot A B' e f = e ∨ dot A B' e f = -e ∨ dot A B' e f = f ∨ dot A B' e f = -f) ∧ (dot C D e f = e ∨ dot C D e f = -e ∨ dot C D e f = f ∨ dot C D e f = -f) := by
    clear m1 m2 m3 n1 n2 n3 me ne
    refine ⟨?_, ?_, ?_⟩
    · rcases ml with ⟨rfl | rfl, rfl, rfl, rfl | rfl⟩ | ⟨rfl, rfl | rfl, rfl | rfl, rfl⟩ <;> rcases nl with ⟨rfl | rfl, rfl, rfl, rfl | rfl⟩ | ⟨rfl, rfl | rfl, rfl | rfl, rfl⟩ <;> decide
    · rcases nl with ⟨rfl | rfl, rfl, rfl, rfl | rfl⟩ | ⟨rfl, rfl | rfl, rfl | rfl, rfl⟩ <;> simp [dot]
    · rcases nl with ⟨rfl | rfl, rfl, rfl, rfl | rfl⟩ | ⟨rfl, rfl | rfl, rfl | rfl, rfl⟩ <;> simp [dot]
  obtain ⟨k1, k2, k3⟩ := key
  clear ml nl m1 n1
  refine ⟨?_, ?_, ?_⟩
  · refine map_of (by simp only [aft]; exact k1) ?_ ?_ <;> simp only [aft] <;> omega
  · simp only [aft]
    omega
  · simp only [aft]
    omega
theorem far_good {kd : Int × Int × Int × Int → Int} {t : Int × Int × Int} {e : Int × Int × Int × Int} {m : M6} {B : Int} (h : hasT t e = true) (hb : (0 ≤ t.1 ∧ t.1 ≤ 8) ∧ (0 ≤ t.2.1 ∧ t.2.1 ≤ 8) ∧ (0 ≤ t.2.2 ∧ t.2.2 ≤ 3)) (hm : GoodM m B) (hB : B ≤ 900000) : GoodM (farM kd e m) (B + 160) := by
  unfold farM
  split
  · exact hm.mono (by omega)
  · exact aft_good (mir_may (line_may h hb).1 (line_may h hb).2) hm hB

/-- Maps that are so for all edges. -/
def Cons (kd : Int × Int × Int × Int → Int) (L : List (Int × Int × Int)) (N : Nat → M6) : Prop :=
  N 0 = idM ∧ ∀ i j (hi : i < L.length) (hj : j < L.length) e, i ≠ j → hasT L[i] e = true → hasT L[j] e = true → N j = farM kd e (N i)
/-- What has been handed on: the triangles K have their maps. -/
def MIp (kd : Int × Int × Int × Int → Int) (L : List (Int × Int × Int)) (K : List Nat) (M : Nat → M6) : Prop :=
  0 ∈ K ∧ K.Nodup ∧ M 0 = idM ∧ (∀ i ∈ K, i < L.length ∧ GoodM (M i) (160 * (K.length : Int))) ∧ ∀ N, Cons kd L N → ∀ i ∈ K, M i = N i
theorem MIp.start {kd : Int × Int × Int × Int → Int} {L : List (Int × Int × Int)} {M : Nat → M6} (h0 : 0 < L.length) (hM : M 0 = idM) : MIp kd L [0] M := by
  refine ⟨by simp, by simp, hM, fun i hi => ?_, fun N hN i hi => ?_⟩
  · simp at hi
    subst hi
    rw [hM]
    exact ⟨h0, idM_good.mono (by simp)⟩
  · simp at hi
    subst hi
    rw [hM, hN.1]
theorem MIp.len {kd : Int × Int × Int × Int → Int} {L : List (Int × Int × Int)} {K : List Nat} {M : Nat → M6} (h : MIp kd L K M) : K.length ≤ L.length := nodup_len _ _ h.2.1 (fun i hi => (h.2.2.2.1 i hi).1)
theorem snoc_nodup {K : List Nat} {j : Nat} (h : K.Nodup) (hj : j ∉ K) : (K ++ [j]).Nodup := by
  rw [List.nodup_append]
  refine ⟨h, by simp, fun a ha b hb => ?_⟩
  simp at hb
  subst hb
  exact fun e => hj (e ▸ ha)
theorem MIp.found {kd : Int × Int × Int × Int → Int} {L : List (Int × Int × Int)} {K : List Nat} {M : Nat → M6} (h : MIp kd L K M) (hL : L.length ≤ 300) (hbd : ∀ t ∈ L, (0 ≤ t.1 ∧ t.1 ≤ 8) ∧ (0 ≤ t.2.1 ∧ t.2.1 ≤ 8) ∧ (0 ≤ t.2.2 ∧ t.2.2 ≤ 3)) {i j : Nat} (hi : i ∈ K) (hj : j < L.length) (hn : j ∉ K) {e : Int × Int × Int × Int} (h1 : ∀ hi' : i < L.length, hasT L[i] e = true) (h2 : hasT L[j] e = true) : MIp kd L (K ++ [j]) (fun q => if q = j then farM kd e (M i) else M q) := by
  have hlen := h.len
  obtain ⟨a1, a2, a3, a4, a5⟩ := h
  obtain ⟨hi', hgi⟩ := a4 i hi
  have hne : i ≠ j := fun e => hn (e ▸ hi)
  have h0 : (0 : Nat) ≠ j := fun e => hn (e ▸ a1)
  refine ⟨List.mem_append_left _ a1, snoc_nodup a2 hn, ?_, fun q hq => ?_, fun N hN q hq => ?_⟩
  · simp only [if_neg h0]
    exact a3
  · have hl : ((K ++ [j]).length : Int) = (K.length : Int) + 1 := by simp
    rw [hl]
    rcases List.mem_append.1 hq with hq | hq
    · have : q ≠ j := fun e => hn (e ▸ hq)
      simp only [if_neg this]
      exact ⟨(a4 q hq).1, (a4 q hq).2.mono (by omega)⟩
    · simp at hq
      subst hq
      simp only [if_true]
      exact ⟨hj, (far_good (h1 hi') (hbd _ (List.getElem_mem hi')) hgi (by omega)).mono (by omega)⟩
  · rcases List.mem_append.1 hq with hq | hq
    · have : q ≠ j := fun e => hn (e ▸ hq)
      simp only [if_neg this]
      exact a5 N hN q hq
    · simp at hq
      subst hq
      simp only [if_true]
      rw [hN.2 i q hi' hj e hne (h1 hi') h2, a5 N hN i hi]
theorem MIp.tear {kd : Int × Int × Int × Int → Int} {L : List (Int × Int × Int)} {K : List Nat} {M : Nat → M6} (h : MIp kd L K M) {i j : Nat} (hi : i ∈ K) (hj : j ∈ K) (hne : i ≠ j) {e : Int × Int × Int × Int} (h1 : ∀ hi' : i < L.length, hasT L[i] e = true) (h2 : ∀ hj' : j < L.length, hasT L[j] e = true) (hM : M j ≠ farM kd e (M i)) : ¬ ∃ N, Cons kd L N := by
  rintro ⟨N, hN⟩
  obtain ⟨a1, a2, a3, a4, a5⟩ := h
  have hi' := (a4 i hi).1
  have hj' := (a4 j hj).1
  apply hM
  rw [a5 N hN i hi, a5 N hN j hj]
  exact hN.2 i j hi' hj' e hne (h1 hi') (h2 hj')

/-- Across one edge of triangle i all is told, and as it should be. -/
def EdK (kd : Int × Int × Int × Int → Int) (L : List (Int × Int × Int)) (K : List Nat) (M : Nat → M6) (i : Nat) (e : Int × Int × Int × Int) : Prop := ∀ j (hj : j < L.length), i ≠ j → hasT L[j] e = true → j ∈ K ∧ M j = farM kd e (M i)
/-- .. across the first n edges. -/
def EdN (kd : Int × Int × Int × Int → Int) (L : List (Int × Int × Int)) (K : List Nat) (M : Nat → M6) (i n : Nat) : Prop := ∀ k, k < n → ∀ hi : i < L.length, EdK kd L K M i (edg L[i] k)
theorem EdK.mono {kd : Int × Int × Int × Int → Int} {L : List (Int × Int × Int)} {K K' : List Nat} {M M' : Nat → M6} {i : Nat} {e : Int × Int × Int × Int} (h : EdK kd L K M i e) (hi : i ∈ K) (hs : ∀ q ∈ K, q ∈ K' ∧ M' q = M q) : EdK kd L K' M' i e := fun j hj hne ht => by
  obtain ⟨a, b⟩ := h j hj hne ht
  exact ⟨(hs j a).1, by rw [(hs j a).2, (hs i hi).2]; exact b⟩
theorem EdN.mono {kd : Int × Int × Int × Int → Int} {L : List (Int × Int × Int)} {K K' : List Nat} {M M' : Nat → M6} {i n : Nat} (h : EdN kd L K M i n) (hi : i ∈ K) (hs : ∀ q ∈ K, q ∈ K' ∧ M' q = M q) : EdN kd L K' M' i n := fun k hk hi' => (h k hk hi').mono hi hs
theorem EdN.step {kd : Int × Int × Int × Int → Int} {L : List (Int × Int × Int)} {K : List Nat} {M : Nat → M6} {i n : Nat} (h : EdN kd L K M i n) (hd : ∀ hi : i < L.length, EdK kd L K M i (edg L[i] n)) : EdN kd L K M i (n + 1) := fun k hk hi => by
  by_cases e : k = n
  · subst e
    exact hd hi
  · exact h k (by omega) hi
theorem found_mono {K : List Nat} {M : Nat → M6} {j : Nat} {v : M6} (hn : j ∉ K) : ∀ q ∈ K, q ∈ K ++ [j] ∧ (fun q => if q = j then v else M q) q = M q := fun q hq => ⟨List.mem_append_left _ hq, by
  have : q ≠ j := fun e => hn (e ▸ hq)
  simp only [if_neg this]⟩

/-- A set of triangles with all their neighbours is all of them. -/
theorem closed_all {L : List (Int × Int × Int)} (hJ : Joined L) (hnd : L.Nodup) (S : Nat → Prop) (h0 : S 0) (hc : ∀ i j (hi : i < L.length) (hj : j < L.length), S i → Adj L[i] L[j] → S j) : ∀ i, i < L.length → S i := by
  obtain ⟨hp, hr⟩ := hJ
  intro i hi
  obtain ⟨c, hc', e, hs⟩ := (hr i hi).2 (fun u => ∃ c, ∃ hc' : c < L.length, L[c] = u ∧ S c) ⟨0, hp, rfl, h0⟩ (fun a b ha hb hab => by
    obtain ⟨c, hc', e, hs⟩ := ha
    obtain ⟨q, hq, e2⟩ := List.getElem_of_mem hb
    subst e e2
    exact ⟨q, hq, rfl, hc c q hc' hq hs hab⟩)
  have := nodup_inj hnd hc' hi e
  subst this
  exact hs
theorem EdN.adj {kd : Int × Int × Int × Int → Int} {L : List (Int × Int × Int)} {K : List Nat} {M : Nat → M6} {i j : Nat} (h : EdN kd L K M i 3) (hi : i < L.length) (hj : j < L.length) (hne : i ≠ j) {e : Int × Int × Int × Int} (h1 : hasT L[i] e = true) (h2 : hasT L[j] e = true) : j ∈ K ∧ M j = farM kd e (M i) := by
  obtain ⟨k, hk, rfl⟩ := hasT_edg h1
  exact h k hk hi j hj hne h2
theorem adj_ne {L : List (Int × Int × Int)} {i j : Nat} {hi : i < L.length} {hj : j < L.length} (h : Adj L[i] L[j]) : i ≠ j := fun e => by
  subst e
  exact h.1 rfl
theorem closed_k {kd : Int × Int × Int × Int → Int} {L : List (Int × Int × Int)} {K KS : List Nat} {M : Nat → M6} (hJ : Joined L) (hnd : L.Nodup) (h0 : 0 ∈ KS) (hsub : ∀ i ∈ K, i ∈ KS) (hcl : ∀ i ∈ KS, EdN kd L K M i 3) : ∀ i, i < L.length → i ∈ KS :=
  closed_all hJ hnd (fun i => i ∈ KS) h0 (fun i j hi hj hs ha => by
    obtain ⟨e, h1, h2⟩ := ha.2
    exact hsub _ ((hcl i hs).adj hi hj (adj_ne ha) h1 h2).1)
/-- All has been told, and as it should be. -/
theorem MIp.cons {kd : Int × Int × Int × Int → Int} {L : List (Int × Int × Int)} {K : List Nat} {M : Nat → M6} (hJ : Joined L) (hnd : L.Nodup) (h : MIp kd L K M) (hcl : ∀ i ∈ K, EdN kd L K M i 3) : (∀ i, i < L.length → i ∈ K) ∧ Cons kd L M := by
  have ha := closed_k hJ hnd h.1 (fun _ h => h) hcl
  exact ⟨ha, h.2.2.1, fun i j hi hj e hne h1 h2 => ((hcl i (ha i hi)).adj hi hj hne h1 h2).2⟩
theorem MIp.conss {kd : Int × Int × Int × Int → Int} {L : List (Int × Int × Int)} {K KS : List Nat} {M : Nat → M6} (h : MIp kd L K M) (ha : ∀ i, i < L.length → i ∈ KS) (hcl : ∀ i ∈ KS, EdN kd L K M i 3) : Cons kd L M :=
  ⟨h.2.2.1, fun i _j hi hj _e hne h1 h2 => ((hcl i (ha i hi)).adj hi hj hne h1 h2).2⟩
theorem cons_one {kd : Int × Int × Int × Int → Int} {L : List (Int × Int × Int)} {N N' : Nat → M6} (hJ : Joined L) (hnd : L.Nodup) (h : Cons kd L N) (h' : Cons kd L N') : ∀ i, i < L.length → N i = N' i :=
  closed_all hJ hnd (fun i => N i = N' i) (h.1.trans h'.1.symm) (fun i j hi hj hs ha => by
    obtain ⟨e, h1, h2⟩ := ha.2
    rw [h.2 i j hi hj e (adj_ne ha) h1 h2, h'.2 i j hi hj e (adj_ne ha) h1 h2, hs])
theorem all_of_len {K : List Nat} {n : Nat} (h : K.Nodup) (hb : ∀ i ∈ K, i < n) (hl : n ≤ K.length) : ∀ i, i < n → i ∈ K := fun i hi => by
  refine Classical.byContradiction fun hno => ?_
  have := nodup_len n (K ++ [i]) (snoc_nodup h hno) (fun j hj => by
    rcases List.mem_append.1 hj with hj | hj
    · exact hb j hj
    · simp at hj
      omega)
  simp at this
  omega
/-- A round in which none was found had them all. -/
theorem round_all {kd : Int × Int × Int × Int → Int} {L : List (Int × Int × Int)} {KS X : List Nat} {M : Nat → M6} (hJ : Joined L) (hnd : L.Nodup) (h0 : 0 ∈ KS) (hcl : ∀ i ∈ KS, EdN kd L (KS ++ X) M i 3) : (∀ i, i < L.length → i ∈ KS) ∨ 0 < X.length := by
  cases X with
  | nil => exact Or.inl (closed_k hJ hnd h0 (by simp) hcl)
  | cons a r => exact Or.inr (by simp)
theorem edge_bd {t : Int × Int × Int} {e : Int × Int × Int × Int} (h : hasT t e = true) (hb : (0 ≤ t.1 ∧ t.1 ≤ 8) ∧ (0 ≤ t.2.1 ∧ t.2.1 ≤ 8) ∧ (0 ≤ t.2.2 ∧ t.2.2 ≤ 3)) : (0 ≤ e.1 ∧ e.1 ≤ 100) ∧ (0 ≤ e.2.1 ∧ e.2.1 ≤ 100) ∧ (0 ≤ e.2.2.1 ∧ e.2.2.1 ≤ 100) ∧ (0 ≤ e.2.2.2 ∧ e.2.2.2 ≤ 100) := by
  obtain ⟨x, y, k⟩ := t
  obtain ⟨p, q, r, s⟩ := e
  simp only [hasT] at h hb
  rw [hasB_or] at h
  obtain ⟨hx, hy, hk⟩ := hb
  have hk4 : k = 0 ∨ k = 1 ∨ k = 2 ∨ k = 3 := by omega
  dsimp only
  rcases hk4 with rfl | rfl | rfl | rfl <;> simp only [e0_0, e0_1, e0_2, e0_3, e1_0, e1_1, e1_2, e1_3, e2_0, e2_1, e2_2, e2_3] at h <;> omega
theorem len_of_all : ∀ (n : Nat) (R : List Nat), (∀ i, i < n → i ∈ R) → n ≤ R.length
  | 0, _, _ => Nat.zero_le _
  | n + 1, R, h => by
    have hn := h n (by omega)
    have h1 := len_of_all n (R.erase n) (fun i hi => (List.mem_erase_of_ne (by omega)).2 (h i (by omega)))
    rw [List.length_erase_of_mem hn] at h1
    have := List.length_pos_of_mem hn
    omega
end Go.Proofs.YtehmoacggikfmaaGreatDoor
