/- A part of the proof of a law on sheets. -/
import Derived.Test.YtmjneoaciopioaaDoorQmaz
import Derived.Test.YtmjneoaciopioaaDoorQmap
namespace Go.Proofs.YtmjneoaciopioaaDoor
open Go.RowKit Go.ChangeMaps

/-- Two triangles with an edge in common that may be crossed. -/
def AdjC (cr : Int × Int × Int × Int → Bool) (t u : Int × Int × Int) : Prop := u ≠ t ∧ ∃ e, hasT t e = true ∧ hasT u e = true ∧ cr e = true
theorem AdjC.symm {cr : Int × Int × Int × Int → Bool} {t u : Int × Int × Int} (h : AdjC cr t u) : AdjC cr u t := ⟨fun e => h.1 e.symm, h.2.imp fun _ he => ⟨he.2.1, he.1, he.2.2⟩⟩
def ReachC (cr : Int × Int × Int × Int → Bool) (l : List (Int × Int × Int)) (t u : Int × Int × Int) : Prop := t ∈ l ∧ ∀ p : Int × Int × Int → Prop, p t → (∀ a b, p a → b ∈ l → AdjC cr a b → p b) → p u
theorem ReachC.here {cr : Int × Int × Int × Int → Bool} {l : List (Int × Int × Int)} {t : Int × Int × Int} (h : t ∈ l) : ReachC cr l t t := ⟨h, fun _ k _ => k⟩
theorem ReachC.step {cr : Int × Int × Int × Int → Bool} {l : List (Int × Int × Int)} {t u v : Int × Int × Int} (h : ReachC cr l t u) (hv : v ∈ l) (ha : AdjC cr u v) : ReachC cr l t v := ⟨h.1, fun p k s => s _ _ (h.2 p k s) hv ha⟩
theorem ReachC.ind {cr : Int × Int × Int × Int → Bool} {l : List (Int × Int × Int)} {t : Int × Int × Int} {motive : ∀ u, ReachC cr l t u → Prop} (here : ∀ h : t ∈ l, motive t (ReachC.here h))
    (step : ∀ {u v} (h : ReachC cr l t u) (hv : v ∈ l) (ha : AdjC cr u v), motive u h → motive v (ReachC.step h hv ha)) {u : Int × Int × Int} (h : ReachC cr l t u) : motive u h := by
  obtain ⟨_, m⟩ := h.2 (fun x => ∃ k : ReachC cr l t x, motive x k) ⟨ReachC.here h.1, here h.1⟩ (fun _ _ ⟨_, m⟩ hb hab => ⟨_, step _ hb hab m⟩)
  exact m
theorem ReachC.mem {cr : Int × Int × Int × Int → Bool} {l : List (Int × Int × Int)} {t u : Int × Int × Int} (h : ReachC cr l t u) : t ∈ l ∧ u ∈ l := by
  induction h using ReachC.ind with
  | here h => exact ⟨h, h⟩
  | step _ hv _ ih => exact ⟨ih.1, hv⟩
theorem ReachC.trans {cr : Int × Int × Int × Int → Bool} {l : List (Int × Int × Int)} {t u v : Int × Int × Int} (h : ReachC cr l t u) (k : ReachC cr l u v) : ReachC cr l t v := by
  induction k using ReachC.ind with
  | here _ => exact h
  | step _ hv ha ih => exact ih.step hv ha
theorem ReachC.symm {cr : Int × Int × Int × Int → Bool} {l : List (Int × Int × Int)} {t u : Int × Int × Int} (h : ReachC cr l t u) : ReachC cr l u t := by
  induction h using ReachC.ind with
  | here h => exact .here h
  | step h hv ha ih => exact ((ReachC.here hv).step h.mem.2 ha.symm).trans ih
theorem reach_all {l : List (Int × Int × Int)} {t u : Int × Int × Int} : ReachC (fun _ => true) l t u ↔ Reach l t u := by
  constructor
  · intro h
    induction h using ReachC.ind with
    | here h => exact .here h
    | step _ hv ha ih => exact ih.step hv ⟨ha.1, ha.2.imp fun _ he => ⟨he.1, he.2.1⟩⟩
  · intro h
    induction h using Reach.ind with
    | here h => exact .here h
    | step _ hv ha ih => exact ih.step hv ⟨ha.1, ha.2.imp fun _ he => ⟨he.1, he.2, rfl⟩⟩

/-- The labels, once the triangles of R have got a number. -/
def lab (part : Nat → Int) (num : Int) (R : List Nat) : Nat → Int := fun i => if i ∈ R then num else part i
/-- The triangles found so far. -/
def Sp (cr : Int × Int × Int × Int → Bool) (L : List (Int × Int × Int)) (part : Nat → Int) (f : Nat) (R : List Nat) : Prop :=
  f ∈ R ∧ R.Nodup ∧ ∀ i ∈ R, ∃ h : i < L.length, part i < 0 ∧ ∃ hf : f < L.length, ReachC cr L L[f] L[i]
/-- All that have an edge are found, or had a number before. -/
def DoneE (L : List (Int × Int × Int)) (part : Nat → Int) (R : List Nat) (e : Int × Int × Int × Int) : Prop := ∀ j (hj : j < L.length), hasT L[j] e = true → j ∈ R ∨ 0 ≤ part j
/-- .. at the edges of a triangle that may be crossed, up to its edge k. -/
def DoneT (cr : Int × Int × Int × Int → Bool) (L : List (Int × Int × Int)) (part : Nat → Int) (R : List Nat) (t : Int × Int × Int) (k : Nat) : Prop := ∀ k', k' < k → cr (edg t k') = true → DoneE L part R (edg t k')
theorem DoneE.mono {L : List (Int × Int × Int)} {part : Nat → Int} {R R' : List Nat} {e : Int × Int × Int × Int} (h : DoneE L part R e) (hs : ∀ i ∈ R, i ∈ R') : DoneE L part R' e := fun j hj ht => (h j hj ht).imp (hs j) id
theorem DoneT.mono {cr : Int × Int × Int × Int → Bool} {L : List (Int × Int × Int)} {part : Nat → Int} {R R' : List Nat} {t : Int × Int × Int} {k : Nat} (h : DoneT cr L part R t k) (hs : ∀ i ∈ R, i ∈ R') : DoneT cr L part R' t k := fun k' hk hc => (h k' hk hc).mono hs
theorem DoneT.step {cr : Int × Int × Int × Int → Bool} {L : List (Int × Int × Int)} {part : Nat → Int} {R : List Nat} {t : Int × Int × Int} {k : Nat} (h : DoneT cr L part R t k) (hd : cr (edg t k) = true → DoneE L part R (edg t k)) : DoneT cr L part R t (k + 1) := fun k' hk hc => by
  by_cases e : k' = k
  · subst e
    exact hd hc
  · exact h k' (by omega) hc

theorem erase_len {R : List Nat} (n : Nat) (_hn : R.Nodup) : R.length ≤ (R.erase n).length + 1 := by
  by_cases h : n ∈ R
  · rw [List.length_erase_of_mem h]
    omega
  · rw [List.erase_of_not_mem h]
    omega
theorem nodup_len : ∀ (n : Nat) (R : List Nat), R.Nodup → (∀ i ∈ R, i < n) → R.length ≤ n
  | 0, R, _, h => by
    cases R with
    | nil => simp
    | cons a r => exact absurd (h a (by simp)) (by omega)
  | n + 1, R, hn, h => by
    have h1 := nodup_len n (R.erase n) (hn.erase n) (fun i hi => by
      have h2 := h i (List.mem_of_mem_erase hi)
      have h3 : i ≠ n := fun e => by
        subst e
        exact (List.Nodup.not_mem_erase hn) hi
      omega)
    have := erase_len n hn
    omega
theorem Sp.len {cr : Int × Int × Int × Int → Bool} {L : List (Int × Int × Int)} {part : Nat → Int} {f : Nat} {R : List Nat} (h : Sp cr L part f R) : R.length ≤ L.length := nodup_len _ _ h.2.1 (fun i hi => (h.2.2 i hi).1)
/-- One more is found. -/
theorem Sp.found {cr : Int × Int × Int × Int → Bool} {L : List (Int × Int × Int)} {part : Nat → Int} {f : Nat} {R : List Nat} (h : Sp cr L part f R) (hnd : L.Nodup) {i j : Nat} (hi : i ∈ R) (hj : j < L.length) (hn : j ∉ R) (hp : part j < 0) {e : Int × Int × Int × Int} (hc : cr e = true) (h1 : ∀ hi' : i < L.length, hasT L[i] e = true) (h2 : hasT L[j] e = true) : Sp cr L part f (R ++ [j]) := by
  obtain ⟨hi1, hi2, hf, hr⟩ := h.2.2 i hi
  refine ⟨List.mem_append_left _ h.1, ?_, fun k hk => ?_⟩
  · rw [List.nodup_append]
    refine ⟨h.2.1, by simp, fun a ha b hb => ?_⟩
    simp at hb
    subst hb
    exact fun e => hn (e ▸ ha)
  · rcases List.mem_append.1 hk with hk | hk
    · exact h.2.2 k hk
    · simp at hk
      subst hk
      refine ⟨hj, hp, hf, hr.step (List.getElem_mem hj) ⟨fun e1 => ?_, e, h1 hi1, h2, hc⟩⟩
      have := nodup_inj hnd hj hi1 e1
      exact hn (this ▸ hi)
theorem lab_found (part : Nat → Int) (num : Int) (R : List Nat) (j : Nat) : lab part num (R ++ [j]) = fun i => if i = j then num else lab part num R i := by
  funext i
  unfold lab
  by_cases e : i = j
  · simp [e]
  · simp [e]

/-- Numbers in a row of memory that may be written. -/
def ZRow (w : World) (g n : Nat) (f : Nat → Int) : Prop := ∀ i, i < n → w.cell? ⟨g, i, none⟩ = some (.int .i64 (f i)) ∧ w.frozen? ⟨g, i, none⟩ = false
theorem ZRow.grown {w w' : World} {g n : Nat} {f : Nat → Int} {row : Option Nat} (h : ZRow w g n f) (hg : w.grownBy w' row) (hne : some g ≠ row) : ZRow w' g n f := fun i hi =>
  ⟨hg.cell (h i hi).1 hne, (World.frozen?_of_block (a := ⟨g, i, none⟩) (hg.block g (World.block_lt_of_cell? _ _ (h i hi).1) hne)).trans (h i hi).2⟩
theorem ZRow.kept {w w' : World} {g n : Nat} {f : Nat → Int} (h : ZRow w g n f) (hb : Below w.heap.size w w') : ZRow w' g n f := h.grown (bl_grown hb) (by simp)
theorem ZRow.set {w : World} {g n : Nat} {f : Nat → Int} (h : ZRow w g n f) {i : Nat} (v : Int) (hi : i < n) : ZRow (w.setCell ⟨g, i, none⟩ (.int .i64 v)) g n (fun j => if j = i then v else f j) := fun j hj => by
  refine ⟨?_, by rw [World.frozen?_setCell]; exact (h j hj).2⟩
  by_cases e : j = i
  · subst e
    rw [World.cell?_setCell_same _ _ _ (h j hj).1]
    simp
  · rw [World.cell?_setCell_other _ _ _ _ (by simp <;> omega)]
    rw [(h j hj).1]
    simp [e]

/-- A paper that is laid out, as a search reads it. -/
def PA (wE : World) (ad : Option Addr) (ra : Nat) (L : List (Int × Int × Int)) : Prop :=
  TRow wE ad L ∧ ∀ e, ∃ a cap, Row wE a (gix L e) ∧ ∀ wx : World, Below wE.heap.size wE wx → (Instr.lookup 60 (.map (some ra)) (ek e) false).run Tryd.prog wx = .ok (.slice a (gix L e).length cap) wx
theorem PP.pa {w0 w : World} {base pb ra rk cc : Nat} {ad : Option Addr} {L : List (Int × Int × Int)} (h : PP w0 w base pb ra rk (.slice ad L.length cc) L (gix L)) : PA w ad ra L := by
  obtain ⟨h1, h2, ⟨ls, c, b1, b2, b3, b4, b5⟩, h4⟩ := h
  refine ⟨?_, fun e => ?_⟩
  · obtain ⟨a, cap, e, hT⟩ := own_tris h2
    simp only [Value.slice.injEq] at e
    rw [e.1]
    exact hT
  · cases hl : lk ls e with
    | none =>
      refine ⟨none, 0, by rw [b3 e hl]; intro i hi; simp at hi, fun wx hb => ?_⟩
      have := lookup27 Tryd.underlying60 zero70 (b1.grown (bl_grown hb) (by simp)) b2 e
      rw [hl] at this
      rw [b3 e hl]
      exact this
    | some v =>
      obtain ⟨d1, d2, d3⟩ := b4 e v hl
      obtain ⟨b, off, cap, hv, hr⟩ : ∃ b off cap, v = .slice (some ⟨b, off, none⟩) (gix L e).length cap ∧ Row w (some ⟨b, off, none⟩) (gix L e) := by
        rcases d1.2 with ⟨rfl, h0⟩ | ⟨g, cap, cur, rfl, _⟩
        · exact absurd (List.length_eq_zero_iff.1 h0) d2
        · refine ⟨g, 0, cap, rfl, fun i hi => ⟨g, 0, rfl, ?_⟩⟩
          have := d1.cellAt i (by omega)
          rw [Nat.zero_add, this]
          simp [hi]
      refine ⟨some ⟨b, off, none⟩, cap, hr, fun wx hb => ?_⟩
      have := lookup27 Tryd.underlying60 zero70 (b1.grown (bl_grown hb) (by simp)) b2 e
      rw [hl, hv] at this
      exact this
theorem PA.kept {w w' : World} {ad : Option Addr} {ra : Nat} {L : List (Int × Int × Int)} (h : PA w ad ra L) (hb : Below w.heap.size w w') : PA w' ad ra L :=
  ⟨h.1.kept hb, fun e => by
    obtain ⟨a, cap, h1, h2⟩ := h.2 e
    exact ⟨a, cap, h1.kept hb, fun wx hx => h2 wx (bl_via hb hx)⟩⟩

/-- Maps, number by number; the one that leaves all where it is; none. -/
abbrev M6 := Int × Int × Int × Int × Int × Int
def idM : M6 := (1, 0, 0, 1, 0, 0)
def noM : M6 := (0, 0, 0, 0, 0, 0)
/-- First one map, then another. -/
def aft (m n : M6) : M6 :=
  (dot n.1 n.2.1 m.1 m.2.2.1, dot n.1 n.2.1 m.2.1 m.2.2.2.1, dot n.2.2.1 n.2.2.2.1 m.1 m.2.2.1, dot n.2.2.1 n.2.2.2.1 m.2.1 m.2.2.2.1, dot n.1 n.2.1 m.2.2.2.2.1 m.2.2.2.2.2 + n.2.2.2.2.1, dot n.2.2.1 n.2.2.2.1 m.2.2.2.2.1 m.2.2.2.2.2 + n.2.2.2.2.2)
/-- The line of an edge, and the mirror at a line. -/
def lnW (e : Int × Int × Int × Int) : Int := if e.1 = e.2.2.1 then 0 else if e.2.1 = e.2.2.2 then 1 else if e.2.2.2 < e.2.1 then 2 else 3
def lnC (e : Int × Int × Int × Int) : Int := if e.1 = e.2.2.1 then e.1 else if e.2.1 = e.2.2.2 then e.2.1 else if e.2.2.2 < e.2.1 then e.1 + e.2.1 else e.1 - e.2.1
def mir (v c : Int) : M6 := (mA v, mB v, mB v, mD v, mE v c, mF v c)
/-- The map beyond an edge. -/
def farM (kd : Int × Int × Int × Int → Int) (e : Int × Int × Int × Int) (m : M6) : M6 := if kd e = 0 then m else aft (mir (lnW e) (lnC e)) m
def mapM (m : M6) : Bool := mapB m.1 m.2.1 m.2.2.1 m.2.2.2.1 m.2.2.2.2.1 m.2.2.2.2.2
def GoodM (m : M6) (B : Int) : Prop := mapM m = true ∧ (-B ≤ m.2.2.2.2.1 ∧ m.2.2.2.2.1 ≤ B) ∧ (-B ≤ m.2.2.2.2.2 ∧ m.2.2.2.2.2 ≤ B)
theorem GoodM.mono {m : M6} {B C : Int} (h : GoodM m B) (hB : B ≤ C) : GoodM m C := ⟨h.1, ⟨by have := h.2.1; omega, by have := h.2.1; omega⟩, ⟨by have := h.2.2; omega, by have := h.2.2; omega⟩⟩
theorem idM_good : GoodM idM 0 := ⟨by decide, by decide, by decide⟩
theorem noM_not : mapM noM = false := by decide

theorem line_may {t : Int × Int × Int} {e : Int × Int × Int × Int} (h : hasT t e = true) (hb : (0 ≤ t.1 ∧ t.1 ≤ 8) ∧ (0 ≤ t.2.1 ∧ t.2.1 ≤ 8) ∧ (0 ≤ t.2.2 ∧ t.2.2 ≤ 3)) : lineB (lnW e) (lnC e) = true ∧ -40 ≤ lnC e ∧ lnC e ≤ 40 := by
  obtain ⟨x, y, k⟩ := t
  obtain ⟨p, q, r, s⟩ := e
  simp only [hasT] at h hb
  rw [hasB_or] at h
  obtain ⟨hx, hy, hk⟩ := hb
  have hk4 : k = 0 ∨ k = 1 ∨ k = 2 ∨ k = 3 := by omega
  have key : (p = r → p % 2 = 0) ∧ (q = s → q % 2 = 0) ∧ (p + q) % 2 = 0 ∧ (0 ≤ p ∧ p ≤ 18) ∧ (0 ≤ q ∧ q ≤ 18) := by
    rcases hk4 with rfl | rfl | rfl | rfl <;> simp only [e0_0, e0_1, e0_2, e0_3, e1_0, e1_1, e1_2, e1_3, e2_0, e2_1, e2_2, e2_3] at h <;> omega
  clear h hk4
  by_cases c1 : p = r
  · simp only [lineB, lnW, lnC, if_pos c1, decide_eq_true_eq]
    omega
  · by_cases c2 : q = s
    · simp only [lineB, lnW, lnC, if_neg c1, if_pos c2, decide_eq_true_eq]
      omega
    · by_cases c3 : s < q
      · simp only [lineB, lnW, lnC, if_neg c1, if_neg c2, if_pos c3, decide_eq_true_eq]
        omega
      · simp only [lineB, lnW, lnC, if_neg c1, if_neg c2, if_neg c3, decide_eq_true_eq]
        omega

theorem mir_may {v c : Int} (h : lineB v c = true) (hb : -40 ≤ c ∧ c ≤ 40) : GoodM (mir v c) 80 := by
  obtain ⟨h0, h3, b1, b2, b3⟩ := line_bd h
  have hv : v = 0 ∨ v = 1 ∨ v = 2 ∨ v = 3 := by omega
  rcases hv with rfl | rfl | rfl | rfl <;> simp [GoodM, mapM, mir, mapB, mA, mB, mD, mE, mF, unitB, evenB] <;> omega

/-- The four numbers of a map that may be: a turn or a mirror. -/
theorem map_lin {a b c d e f : Int} (h : mapB a b c d e f = true) : ((a = 1 ∨ a = -1) ∧ b = 0 ∧ c = 0 ∧ (d = 1 ∨ d = -1)) ∨ (a = 0 ∧ (b = 1 ∨ b = -1) ∧ (c = 1 ∨ c = -1) ∧ d = 0) := by
  simp only [mapB, unitB, Bool.and_eq_true, Bool.or_eq_true, decide_eq_true_eq] at h
  omega
theorem map_of {a b c d e f : Int} (h : ((a = 1 ∨ a = -1) ∧ b = 0 ∧ c = 0 ∧ (d = 1 ∨ d = -1)) ∨ (a = 0 ∧ (b = 1 ∨ b = -1) ∧ (c = 1 ∨ c = -1) ∧ d = 0)) (he : e % 2 = 0 ∧ -1000000 ≤ e ∧ e ≤ 1000000) (hf : f % 2 = 0 ∧ -1000000 ≤ f ∧ f ≤ 1000000) : mapB a b c d e f = true := by
  simp only [mapB, unitB, evenB, Bool.and_eq_true, Bool.or_eq_true, decide_eq_true_eq]
  omega
theorem aft_good {m n : M6} {B : Int} (hm : GoodM m 80) (hn : GoodM n B) (hB : B ≤ 900000) : GoodM (aft m n) (B + 160) := by
  obtain ⟨a, b, c, d, e, f⟩ := m
  obtain ⟨A, B', C, D, E, F⟩ := n
  obtain ⟨m1, m2, m3⟩ := hm
  obtain ⟨n1, n2, n3⟩ := hn
  simp only [mapM] at m1 m2 m3 n1 n2 n3
  have me := (map_bd m1).2.2
  have ne := (map_bd n1).2.2
  have ml := map_lin m1
  have nl := map_lin n1
  have key : (((dot A B' a c = 1 ∨ dot A B' a c = -1) ∧ dot A B' b d = 0 ∧ dot C D a c = 0 ∧ (dot C D b d = 1 ∨ dot C D b d = -1)) ∨ (dot A B' a c = 0 ∧ (dot A B' b d = 1 ∨ dot A B' b d = -1) ∧ (dot C D a c = 1 ∨ dot C D a c = -1) ∧ dot C D b d = 0)) ∧ (dot A B' e f = e ∨ dot A B' e f = -e ∨ dot A B' e f = f ∨ dot A B' e f = -f) ∧ (dot C D e f = e ∨ dot C D e f = -e ∨ dot C D e f = f ∨ dot C D e f = -f) := by
    clear m1 m2 m3 n1 n2 n3 me ne
    refine ⟨?_, ?_, ?_⟩
    · rcases ml with ⟨rfl | rfl, rfl, rfl, rfl | rfl⟩ | ⟨rfl, rfl | rfl, rfl | rfl, rfl⟩ <;> rcases nl with ⟨rfl | rfl, rfl, rfl, rfl | rfl⟩ | ⟨rfl, rfl | rfl, rfl | rfl, rfl⟩ <;> decide
    · rcases nl with ⟨rfl | rfl, rfl, rfl, rfl | rfl⟩ | ⟨rfl, rfl | rfl, rfl | rfl, rfl⟩ <;> simp [dot]
    · rcases nl with ⟨rfl | rfl, rfl, rfl, rfl | rfl⟩ | ⟨rfl, rfl | rfl, rfl | rfl, rfl⟩ <;> simp [dot]
  obtain ⟨k1, k2, k3⟩ := key
  clear ml nl m1 n1
  refine ⟨?_, ?_, ?_⟩
  · refine map_of (by simp only [aft]; exact k1) ?_ ?_ <;> simp only [aft] <;> omega
  · simp only [aft]
    omega
  · simp only [aft]
    omega
theorem far_good {kd : Int × Int × Int × Int → Int} {t : Int × Int × Int} {e : Int × Int × Int × Int} {m : M6} {B : Int} (h : hasT t e = true) (hb : (0 ≤ t.1 ∧ t.1 ≤ 8) ∧ (0 ≤ t.2.1 ∧ t.2.1 ≤ 8) ∧ (0 ≤ t.2.2 ∧ t.2.2 ≤ 3)) (hm : GoodM m B) (hB : B ≤ 900000) : GoodM (farM kd e m) (B + 160) := by
  unfold farM
  split
  · exact hm.mono (by omega)
  · exact aft_good (mir_may (line_may h hb).1 (line_may h hb).2) hm hB

/-- Maps that are so for all edges. -/
def Cons (kd : Int × Int × Int × Int → Int) (L : List (Int × Int × Int)) (N : Nat → M6) : Prop :=
  N 0 = idM ∧ ∀ i j (hi : i < L.length) (hj : j < L.length) e, i ≠ j → hasT L[i] e = true → hasT L[j] e = true → N j = farM kd e (N i)
/-- What has been handed on: the triangles K have their maps. -/
def MI (kd : Int × Int × Int × Int → Int) (L : List (Int × Int × Int)) (K : List Nat) (M : Nat → M6) : Prop :=
  0 ∈ K ∧ K.Nodup ∧ M 0 = idM ∧ (∀ i ∈ K, i < L.length ∧ GoodM (M i) (160 * (K.length : Int))) ∧ ∀ N, Cons kd L N → ∀ i ∈ K, M i = N i
theorem MI.start {kd : Int × Int × Int × Int → Int} {L : List (Int × Int × Int)} {M : Nat → M6} (h0 : 0 < L.length) (hM : M 0 = idM) : MI kd L [0] M := by
  refine ⟨by simp, by simp, hM, fun i hi => ?_, fun N hN i hi => ?_⟩
  · simp at hi
    subst hi
    rw [hM]
    exact ⟨h0, idM_good.mono (by simp)⟩
  · simp at hi
    subst hi
    rw [hM, hN.1]
theorem MI.len {kd : Int × Int × Int × Int → Int} {L : List (Int × Int × Int)} {K : List Nat} {M : Nat → M6} (h : MI kd L K M) : K.length ≤ L.length := nodup_len _ _ h.2.1 (fun i hi => (h.2.2.2.1 i hi).1)
theorem snoc_nodup {K : List Nat} {j : Nat} (h : K.Nodup) (hj : j ∉ K) : (K ++ [j]).Nodup := by
  rw [List.nodup_append]
  refine ⟨h, by simp, fun a ha b hb => ?_⟩
  simp at hb
  subst hb
  exact fun e => hj (e ▸ ha)
theorem MI.found {kd : Int × Int × Int × Int → Int} {L : List (Int × Int × Int)} {K : List Nat} {M : Nat → M6} (h : MI kd L K M) (hL : L.length ≤ 300) (hbd : ∀ t ∈ L, (0 ≤ t.1 ∧ t.1 ≤ 8) ∧ (0 ≤ t.2.1 ∧ t.2.1 ≤ 8) ∧ (0 ≤ t.2.2 ∧ t.2.2 ≤ 3)) {i j : Nat} (hi : i ∈ K) (hj : j < L.length) (hn : j ∉ K) {e : Int × Int × Int × Int} (h1 : ∀ hi' : i < L.length, hasT L[i] e = true) (h2 : hasT L[j] e = true) : MI kd L (K ++ [j]) (fun q => if q = j then farM kd e (M i) else M q) := by
  have hlen := h.len
  obtain ⟨a1, a2, a3, a4, a5⟩ := h
  obtain ⟨hi', hgi⟩ := a4 i hi
  have hne : i ≠ j := fun e => hn (e ▸ hi)
  have h0 : (0 : Nat) ≠ j := fun e => hn (e ▸ a1)
  refine ⟨List.mem_append_left _ a1, snoc_nodup a2 hn, ?_, fun q hq => ?_, fun N hN q hq => ?_⟩
  · simp only [if_neg h0]
    exact a3
  · have hl : ((K ++ [j]).length : Int) = (K.length : Int) + 1 := by simp
    rw [hl]
    rcases List.mem_append.1 hq with hq | hq
    · have : q ≠ j := fun e => hn (e ▸ hq)
      simp only [if_neg this]
      exact ⟨(a4 q hq).1, (a4 q hq).2.mono (by omega)⟩
    · simp at hq
      subst hq
      simp only [if_true]
      exact ⟨hj, (far_good (h1 hi') (hbd _ (List.getElem_mem hi')) hgi (by omega)).mono (by omega)⟩
  · rcases List.mem_append.1 hq with hq | hq
    · have : q ≠ j := fun e => hn (e ▸ hq)
      simp only [if_neg this]
      exact a5 N hN q hq
    · simp at hq
      subst hq
      simp only [if_true]
      rw [hN.2 i q hi' hj e hne (h1 hi') h2, a5 N hN i hi]
theorem MI.tear {kd : Int × Int × Int × Int → Int} {L : List (Int × Int × Int)} {K : List Nat} {M : Nat → M6} (h : MI kd L K M) {i j : Nat} (hi : i ∈ K) (hj : j ∈ K) (hne : i ≠ j) {e : Int × Int × Int × Int} (h1 : ∀ hi' : i < L.length, hasT L[i] e = true) (h2 : ∀ hj' : j < L.length, hasT L[j] e = true) (hM : M j ≠ farM kd e (M i)) : ¬ ∃ N, Cons kd L N := by
  rintro ⟨N, hN⟩
  obtain ⟨a1, a2, a3, a4, a5⟩ := h
  have hi' := (a4 i hi).1
  have hj' := (a4 j hj).1
  apply hM
  rw [a5 N hN i hi, a5 N hN j hj]
  exact hN.2 i j hi' hj' e hne (h1 hi') (h2 hj')

/-- Across one edge of triangle i all is told, and as it should be. -/
def EdK (kd : Int × Int × Int × Int → Int) (L : List (Int × Int × Int)) (K : List Nat) (M : Nat → M6) (i : Nat) (e : Int × Int × Int × Int) : Prop := ∀ j (hj : j < L.length), i ≠ j → hasT L[j] e = true → j ∈ K ∧ M j = farM kd e (M i)
/-- .. across the first n edges. -/
def EdN (kd : Int × Int × Int × Int → Int) (L : List (Int × Int × Int)) (K : List Nat) (M : Nat → M6) (i n : Nat) : Prop := ∀ k, k < n → ∀ hi : i < L.length, EdK kd L K M i (edg L[i] k)
theorem EdK.mono {kd : Int × Int × Int × Int → Int} {L : List (Int × Int × Int)} {K K' : List Nat} {M M' : Nat → M6} {i : Nat} {e : Int × Int × Int × Int} (h : EdK kd L K M i e) (hi : i ∈ K) (hs : ∀ q ∈ K, q ∈ K' ∧ M' q = M q) : EdK kd L K' M' i e := fun j hj hne ht => by
  obtain ⟨a, b⟩ := h j hj hne ht
  exact ⟨(hs j a).1, by rw [(hs j a).2, (hs i hi).2]; exact b⟩
theorem EdN.mono {kd : Int × Int × Int × Int → Int} {L : List (Int × Int × Int)} {K K' : List Nat} {M M' : Nat → M6} {i n : Nat} (h : EdN kd L K M i n) (hi : i ∈ K) (hs : ∀ q ∈ K, q ∈ K' ∧ M' q = M q) : EdN kd L K' M' i n := fun k hk hi' => (h k hk hi').mono hi hs
theorem EdN.step {kd : Int × Int × Int × Int → Int} {L : List (Int × Int × Int)} {K : List Nat} {M : Nat → M6} {i n : Nat} (h : EdN kd L K M i n) (hd : ∀ hi : i < L.length, EdK kd L K M i (edg L[i] n)) : EdN kd L K M i (n + 1) := fun k hk hi => by
  by_cases e : k = n
  · subst e
    exact hd hi
  · exact h k (by omega) hi
theorem found_mono {K : List Nat} {M : Nat → M6} {j : Nat} {v : M6} (hn : j ∉ K) : ∀ q ∈ K, q ∈ K ++ [j] ∧ (fun q => if q = j then v else M q) q = M q := fun q hq => ⟨List.mem_append_left _ hq, by
  have : q ≠ j := fun e => hn (e ▸ hq)
  simp only [if_neg this]⟩

/-- A set of triangles with all their neighbours is all of them. -/
theorem closed_all {L : List (Int × Int × Int)} (hJ : Joined L) (hnd : L.Nodup) (S : Nat → Prop) (h0 : S 0) (hc : ∀ i j (hi : i < L.length) (hj : j < L.length), S i → Adj L[i] L[j] → S j) : ∀ i, i < L.length → S i := by
  obtain ⟨hp, hr⟩ := hJ
  intro i hi
  obtain ⟨c, hc', e, hs⟩ := (hr i hi).2 (fun u => ∃ c, ∃ hc' : c < L.length, L[c] = u ∧ S c) ⟨0, hp, rfl, h0⟩ (fun a b ha hb hab => by
    obtain ⟨c, hc', e, hs⟩ := ha
    obtain ⟨q, hq, e2⟩ := List.getElem_of_mem hb
    subst e e2
    exact ⟨q, hq, rfl, hc c q hc' hq hs hab⟩)
  have := nodup_inj hnd hc' hi e
  subst this
  exact hs
theorem EdN.adj {kd : Int × Int × Int × Int → Int} {L : List (Int × Int × Int)} {K : List Nat} {M : Nat → M6} {i j : Nat} (h : EdN kd L K M i 3) (hi : i < L.length) (hj : j < L.length) (hne : i ≠ j) {e : Int × Int × Int × Int} (h1 : hasT L[i] e = true) (h2 : hasT L[j] e = true) : j ∈ K ∧ M j = farM kd e (M i) := by
  obtain ⟨k, hk, rfl⟩ := hasT_edg h1
  exact h k hk hi j hj hne h2
theorem adj_ne {L : List (Int × Int × Int)} {i j : Nat} {hi : i < L.length} {hj : j < L.length} (h : Adj L[i] L[j]) : i ≠ j := fun e => by
  subst e
  exact h.1 rfl
theorem closed_k {kd : Int × Int × Int × Int → Int} {L : List (Int × Int × Int)} {K KS : List Nat} {M : Nat → M6} (hJ : Joined L) (hnd : L.Nodup) (h0 : 0 ∈ KS) (hsub : ∀ i ∈ K, i ∈ KS) (hcl : ∀ i ∈ KS, EdN kd L K M i 3) : ∀ i, i < L.length → i ∈ KS :=
  closed_all hJ hnd (fun i => i ∈ KS) h0 (fun i j hi hj hs ha => by
    obtain ⟨e, h1, h2⟩ := ha.2
    exact hsub _ ((hcl i hs).adj hi hj (adj_ne ha) h1 h2).1)
/-- All has been told, and as it should be. -/
theorem MI.cons {kd : Int × Int × Int × Int → Int} {L : List (Int × Int × Int)} {K : List Nat} {M : Nat → M6} (hJ : Joined L) (hnd : L.Nodup) (h : MI kd L K M) (hcl : ∀ i ∈ K, EdN kd L K M i 3) : (∀ i, i < L.length → i ∈ K) ∧ Cons kd L M := by
  have ha := closed_k hJ hnd h.1 (fun _ h => h) hcl
  exact ⟨ha, h.2.2.1, fun i j hi hj e hne h1 h2 => ((hcl i (ha i hi)).adj hi hj hne h1 h2).2⟩
theorem MI.conss {kd : Int × Int × Int × Int → Int} {L : List (Int × Int × Int)} {K KS : List Nat} {M : Nat → M6} (h : MI kd L K M) (ha : ∀ i, i < L.length → i ∈ KS) (hcl : ∀ i ∈ KS, EdN kd L K M i 3) : Cons kd L M :=
  ⟨h.2.2.1, fun i _j hi hj _e hne h1 h2 => ((hcl i (ha i hi)).adj hi hj hne h1 h2).2⟩
theorem cons_one {kd : Int × Int × Int × Int → Int} {L : List (Int × Int × Int)} {N N' : Nat → M6} (hJ : Joined L) (hnd : L.Nodup) (h : Cons kd L N) (h' : Cons kd L N') : ∀ i, i < L.length → N i = N' i :=
  closed_all hJ hnd (fun i => N i = N' i) (h.1.trans h'.1.symm) (fun i j hi hj hs ha => by
    obtain ⟨e, h1, h2⟩ := ha.2
    rw [h.2 i j hi hj e (adj_ne ha) h1 h2, h'.2 i j hi hj e (adj_ne ha) h1 h2, hs])
theorem all_of_len {K : List Nat} {n : Nat} (h : K.Nodup) (hb : ∀ i ∈ K, i < n) (hl : n ≤ K.length) : ∀ i, i < n → i ∈ K := fun i hi => by
  refine Classical.byContradiction fun hno => ?_
  have := nodup_len n (K ++ [i]) (snoc_nodup h hno) (fun j hj => by
    rcases List.mem_append.1 hj with hj | hj
    · exact hb j hj
    · simp at hj
      omega)
  simp at this
  omega
/-- A round in which none was found had them all. -/
theorem round_all {kd : Int × Int × Int × Int → Int} {L : List (Int × Int × Int)} {KS X : List Nat} {M : Nat → M6} (hJ : Joined L) (hnd : L.Nodup) (h0 : 0 ∈ KS) (hcl : ∀ i ∈ KS, EdN kd L (KS ++ X) M i 3) : (∀ i, i < L.length → i ∈ KS) ∨ 0 < X.length := by
  cases X with
  | nil => exact Or.inl (closed_k hJ hnd h0 (by simp) hcl)
  | cons a r => exact Or.inr (by simp)
theorem edge_bd {t : Int × Int × Int} {e : Int × Int × Int × Int} (h : hasT t e = true) (hb : (0 ≤ t.1 ∧ t.1 ≤ 8) ∧ (0 ≤ t.2.1 ∧ t.2.1 ≤ 8) ∧ (0 ≤ t.2.2 ∧ t.2.2 ≤ 3)) : (0 ≤ e.1 ∧ e.1 ≤ 100) ∧ (0 ≤ e.2.1 ∧ e.2.1 ≤ 100) ∧ (0 ≤ e.2.2.1 ∧ e.2.2.1 ≤ 100) ∧ (0 ≤ e.2.2.2 ∧ e.2.2.2 ≤ 100) := by
  obtain ⟨x, y, k⟩ := t
  obtain ⟨p, q, r, s⟩ := e
  simp only [hasT] at h hb
  rw [hasB_or] at h
  obtain ⟨hx, hy, hk⟩ := hb
  have hk4 : k = 0 ∨ k = 1 ∨ k = 2 ∨ k = 3 := by omega
  dsimp only
  rcases hk4 with rfl | rfl | rfl | rfl <;> simp only [e0_0, e0_1, e0_2, e0_3, e1_0, e1_1, e1_2, e1_3, e2_0, e2_1, e2_2, e2_3] at h <;> omega
theorem len_of_all : ∀ (n : Nat) (R : List Nat), (∀ i, i < n → i ∈ R) → n ≤ R.length
  | 0, _, _ => Nat.zero_le _
  | n + 1, R, h => by
    have hn := h n (by omega)
    have h1 := len_of_all n (R.erase n) (fun i hi => (List.mem_erase_of_ne (by omega)).2 (h i (by omega)))
    rw [List.length_erase_of_mem hn] at h1
    have := List.length_pos_of_mem hn
    omega
end Go.Proofs.YtmjneoaciopioaaDoor
