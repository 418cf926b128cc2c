/- A part of the proof of viewTells_holds. -/
import Derived.Test.YtnpboeodhpenmaaGreatDoorQlbk
import Derived.Test.YtnpboeodhpenmaaGreatDoorQlbm
import Derived.Test.YtnpboeodhpenmaaGreatDoorQlbn
namespace Go.Proofs.YtnpboeodhpenmaaGreatDoor
open Go.RowKit Go.ChangeMaps

theorem HSt.add {w0 wx w2 : World} {B : Nat} {p0 p1 p2 p3 p4 v v' : Value} {R : List ((Int × Int × Int) × Value)} {t : Int × Int × Int} {u : Value} {l : List (Int × Int × Int)} {S : List ((Int × Int × Int) × List (Int × Int × Int))} (h : HSt w0 wx B p0 p1 p2 p3 p4 v R S) (hg : wx.grownBy w2 v.ownBlock) (ho : w2.ownsRow (B + 1) 107 4 v' (R.length + 1) (rowS R ++ [.int .i64 t.1, .int .i64 t.2.1, .int .i64 t.2.2, u])) (hv : v'.ownBlock = v.ownBlock ∨ v'.ownBlock = some wx.heap.size) (hu : ∀ g, u.ownBlock = some g → B < g ∧ g < wx.heap.size ∧ v.ownBlock ≠ some g) (hT : TrisAt wx u l) :
    HSt w0 (w2.setCell ⟨B, 5, none⟩ v') B p0 p1 p2 p3 p4 v' (R ++ [(t, u)]) (S ++ [(t, l)]) := by
  have hn : some B ≠ v.ownBlock := fun e => by
    have := own_base h.own B e.symm
    omega
  have hn' : v'.ownBlock ≠ some B := fun e => by
    have := own_base ho B e
    omega
  have g1 := h.bel.grown hg h.bel.size (fun k hk => by have := own_base h.own k hk; have := h.low; omega)
  have gB := grown_cell w2 B 5 v'
  have c5 := hg.cell h.c5 hn
  have f5 : w2.frozen? ⟨B, 5, none⟩ = false := (World.frozen?_of_block (a := ⟨B, 5, none⟩) (hg.block B h.lt hn)).trans h.f5
  refine ⟨st_else (hg.cell h.c0 hn) (by omega), st_else (hg.cell h.c1 hn) (by omega), st_else (hg.cell h.c2 hn) (by omega), st_else (hg.cell h.c3 hn) (by omega), st_else (hg.cell h.c4 hn) (by omega), st_same c5, by simp [go_sem, f5], ?_, ?_, by simp [h.len], ?_, h.low, g1.setCell (p := ⟨B, 5, none⟩) h.low _⟩
  · rw [rowS_add, List.length_append, List.length_singleton]
    exact ho.kept gB (Or.inr hn')
  · intro s hs g hgb
    rcases List.mem_append.1 hs with hs | hs
    · obtain ⟨a1, a2, a3⟩ := h.apart s hs g hgb
      refine ⟨a1, Nat.lt_of_lt_of_le a2 (Nat.le_trans hg.size gB.size), fun e => ?_⟩
      rcases hv with e2 | e2
      · exact a3 (e2 ▸ e)
      · rw [e2] at e
        cases e
        omega
    · simp at hs
      subst hs
      obtain ⟨a1, a2, a3⟩ := hu g hgb
      refine ⟨a1, Nat.lt_of_lt_of_le a2 (Nat.le_trans hg.size gB.size), fun e => ?_⟩
      rcases hv with e2 | e2
      · exact a3 (e2 ▸ e)
      · rw [e2] at e
        cases e
        omega
  · intro i hi hi'
    by_cases hiR : i < R.length
    · have hiS : i < S.length := by rw [← h.len]; exact hiR
      obtain ⟨e1, e2⟩ := h.hold i hiR hiS
      have q1 : (R ++ [(t, u)])[i] = R[i] := List.getElem_append_left hiR
      have q2 : (S ++ [(t, l)])[i] = S[i] := List.getElem_append_left hiS
      rw [q1, q2]
      refine ⟨e1, (e2.grown hg fun g e => ?_).grown gB fun g e => ?_⟩
      · exact fun e3 => (h.apart _ (List.getElem_mem hiR) g e).2.2 e3.symm
      · have := (h.apart _ (List.getElem_mem hiR) g e).1
        intro e3
        cases e3
        omega
    · have e1 : i = R.length := by simp at hi; omega
      have e2 : i = S.length := by rw [e1, h.len]
      have q1 : (R ++ [(t, u)])[i] = (t, u) := by
        rw [List.getElem_append_right (by omega)]
        simp [e1]
      have q2 : (S ++ [(t, l)])[i] = (t, l) := by
        rw [List.getElem_append_right (by omega)]
        simp [e2]
      rw [q1, q2]
      refine ⟨rfl, (hT.grown hg fun g e => ?_).grown gB fun g e => ?_⟩
      · exact fun e3 => (hu g e).2.2 e3.symm
      · have := (hu g e).1
        intro e3
        cases e3
        omega
theorem trowG_flat {w : World} {g o : Nat} {l : List (Int × Int × Int)} (h : TRowG w (some ⟨g, o, none⟩) l) (j : Nat) (u : Value) (hu : (flatV l)[j]? = some u) : w.cell? ⟨g, o + j, none⟩ = some u := by
  have hj : j < (flatV l).length := (List.getElem?_eq_some_iff.1 hu).1
  rw [flatV_len3] at hj
  obtain ⟨q, hq⟩ : ∃ q, q = j / 3 := ⟨_, rfl⟩
  have hql : q < l.length := by omega
  obtain ⟨g', o', e, c0, c1, c2⟩ := h q hql
  cases e
  obtain ⟨f0, f1, f2⟩ := flatV_at l q hql
  have e3 : j = q * 3 ∨ j = q * 3 + 1 ∨ j = q * 3 + 2 := by omega
  clear hq hj
  rcases e3 with rfl | rfl | rfl
  · rw [f0] at hu
    exact c0.trans hu
  · rw [f1] at hu
    exact c1.trans hu
  · rw [f2] at hu
    exact c2.trans hu
theorem mrowG_flat {w : World} {g o n : Nat} {M : Nat → M6} (h : MRowG w (some ⟨g, o, none⟩) n M) : ∀ j u, (flatM M n)[j]? = some u → w.cell? ((⟨g, o, none⟩ : Addr).add j) = some u := fun j u hu => by
  have hj : j < n * 6 := by
    rcases Nat.lt_or_ge j (n * 6) with q | q
    · exact q
    · rw [List.getElem?_eq_none (by rw [flatM_len]; exact q)] at hu
      cases hu
  have hi : j / 6 < n := by omega
  obtain ⟨g', o', e, c0, c1, c2, c3, c4, c5⟩ := h (j / 6) hi
  cases e
  rw [Nat.add_assoc] at c1 c2 c3 c4 c5
  obtain ⟨f0, f1, f2, f3, f4, f5⟩ := flatM_at M n (j / 6) hi
  have ej : (⟨g, o, none⟩ : Addr).add j = ⟨g, o + j, none⟩ := addr_add _ _ _
  rw [ej]
  have : j % 6 = 0 ∨ j % 6 = 1 ∨ j % 6 = 2 ∨ j % 6 = 3 ∨ j % 6 = 4 ∨ j % 6 = 5 := by omega
  rcases this with e | e | e | e | e | e
  · have q : j = j / 6 * 6 := by omega
    rw [q] at hu ⊢
    rw [f0] at hu
    rw [c0]
    exact hu
  · have q : j = j / 6 * 6 + 1 := by omega
    rw [q] at hu ⊢
    rw [f1] at hu
    rw [c1]
    exact hu
  · have q : j = j / 6 * 6 + 2 := by omega
    rw [q] at hu ⊢
    rw [f2] at hu
    rw [c2]
    exact hu
  · have q : j = j / 6 * 6 + 3 := by omega
    rw [q] at hu ⊢
    rw [f3] at hu
    rw [c3]
    exact hu
  · have q : j = j / 6 * 6 + 4 := by omega
    rw [q] at hu ⊢
    rw [f4] at hu
    rw [c4]
    exact hu
  · have q : j = j / 6 * 6 + 5 := by omega
    rw [q] at hu ⊢
    rw [f5] at hu
    rw [c5]
    exact hu
/-- Triangles, copied. -/
theorem run_copyT (w : World) (a : Option Addr) (l : List (Int × Int × Int)) (c : Nat) (hT : TRowG w a l) (hl : l.length ≤ 5864062014805) :
    ∃ a' c' w', (Builtin.append_ #[55, 55] 55 #[.slice none 0 0, .slice a l.length c]).run Tryz.prog w = .ok (.slice a' l.length c') w' ∧ TrisAt w' (.slice a' l.length c') l ∧ (∀ g, (Value.slice a' l.length c').ownBlock = some g → w.heap.size ≤ g ∧ g < w'.heap.size) ∧ Below w.heap.size w w' := by
  obtain ⟨i, hi, hz, hs, hb⟩ := info_parts inf23
  by_cases h0 : l.length = 0
  · have := run_append_nothing (P := Tryz.prog) w 55 55 51 i Tryz.underlying55 hi a c
    refine ⟨none, 0, w, by rw [h0]; exact this, ⟨none, 0, by rw [h0], fun i hi => by omega⟩, fun g e => by simp [Value.ownBlock] at e, bl_refl _⟩
  · obtain ⟨g, o, rfl, _⟩ := hT 0 (by omega)
    obtain ⟨v', w', hr, ho, hg, _⟩ := run_append_own_at (P := Tryz.prog) w w.heap.size 55 55 51 i (.agg #[.int .i64 0, .int .i64 0, .int .i64 0]) 3 24 Tryz.underlying55 hi hz hs hb rfl (by decide) (.slice none 0 0) 0 [] (World.ownsRow_nil w _ 51 3) ⟨g, o, none⟩ l.length c (flatV l) (flatV_len3 l) (fun j u hu => by rw [addr_add]; exact trowG_flat hT j u hu) (flatV_one l) (by unfold maxLen; omega) (by omega) (Nat.le_refl _)
    rw [Nat.zero_add, List.nil_append] at ho
    obtain ⟨a9, c9, rfl, hT9⟩ := own_tris ho
    exact ⟨a9, c9, w', hr, ⟨a9, c9, rfl, hT9⟩, fun g e => ho.lt g e, (Below.refl _ _).grown hg (Nat.le_refl _) (fun k h => by simp [Value.ownBlock] at h)⟩
/-- Maps, copied. -/
def CopyM (w w' : World) (n : Nat) (M : Nat → M6) (v : Value) : Prop := ∃ a' c', v = .slice a' n c' ∧ (0 < n → ∃ g, a' = some ⟨g, 0, none⟩ ∧ MRow w' g n M ∧ w.heap.size ≤ g) ∧ Below w.heap.size w w'
theorem run_copyM (w : World) (a : Option Addr) (n c : Nat) (M : Nat → M6) (hM : MRowG w a n M) (hl : n ≤ 2932031007402) :
    ∃ v' w', (Builtin.append_ #[26, 26] 26 #[.slice none 0 0, .slice a n c]).run Tryz.prog w = .ok v' w' ∧ CopyM w w' n M v' := by
  obtain ⟨i, hi, hz, hs, hb⟩ := info_parts inf59
  by_cases h0 : n = 0
  · subst h0
    exact ⟨_, w, run_append_nothing (P := Tryz.prog) w 26 26 91 i Tryz.underlying26 hi a c, none, 0, rfl, fun h => by omega, bl_refl _⟩
  · obtain ⟨g, o, rfl, _⟩ := hM 0 (by omega)
    obtain ⟨v', w', hr, ho, hg, _⟩ := run_append_own_at (P := Tryz.prog) w w.heap.size 26 26 91 i (.agg #[.int .i64 0, .int .i64 0, .int .i64 0, .int .i64 0, .int .i64 0, .int .i64 0]) 6 48 Tryz.underlying26 hi hz hs hb rfl (by decide) (.slice none 0 0) 0 [] (World.ownsRow_nil w _ 91 6) ⟨g, o, none⟩ n c (flatM M n) (flatM_len M n) (mrowG_flat hM) (by intro u hu; simp [flatM] at hu; obtain ⟨i, _, hu⟩ := hu; rcases hu with rfl | rfl | rfl | rfl | rfl | rfl <;> rfl) (by unfold maxLen; omega) (by omega) (Nat.le_refl _)
    rw [Nat.zero_add, List.nil_append] at ho
    obtain ⟨g9, c9, rfl⟩ := own_sliceW ho (by omega)
    exact ⟨_, w', hr, _, _, rfl, fun _ => ⟨g9, rfl, own_maps ho, (ho.lt g9 rfl).1⟩, (Below.refl _ _).grown hg (Nat.le_refl _) (fun k h => by simp [Value.ownBlock] at h)⟩
theorem step_append_run {P : Program} {ops : Array Oper} {o : Oper} {a : Act} {w : World} {K : Act → World → Prop} {Q : Exit → Act → World → Prop} {E : Prop} (hgd : o.guard = none) (s x : Operand) (t : TypeId) (ho : o.op = .call { callee := .builtin .append, args := #[s, x], argTypes := #[t, t] }) (vs vx v' : Value) (w' : World) (hs : a.eval s = vs) (hx : a.eval x = vx) (hr : (Builtin.append_ #[t, t] o.type #[vs, vx]).run P w = .ok v' w') (hK : K (a.put o.dst v') w') :
    if Region.wanted o (yielded ops a.tmps) = true then Oper.wp P o a w K Q else E := by
  have hw : Region.wanted o (yielded ops a.tmps) = true := by simp [Region.wanted, hgd]
  rw [if_pos hw]
  exact wp_append_run s x t ho vs vx v' w' hs hx hr hK

/-- A row of numbers apart from the box B. -/
def RowX (w : World) (base B : Nat) (a : Option Addr) (zs : List Int) : Prop := ∀ i (h : i < zs.length), ∃ b off, a = some ⟨b, off, none⟩ ∧ base ≤ b ∧ b ≠ B ∧ w.cell? ⟨b, off + i, none⟩ = some (.int .i64 zs[i])
theorem RowX.row {w : World} {base B : Nat} {a : Option Addr} {zs : List Int} (h : RowX w base B a zs) : Row w a zs := fun i hi => by
  obtain ⟨b, off, e, _, _, hc⟩ := h i hi
  exact ⟨b, off, e, hc⟩
theorem RowX.kept {w w' : World} {base B : Nat} {a : Option Addr} {zs : List Int} (h : RowX w base B a zs) (hb : Below w.heap.size w w') : RowX w' base B a zs := fun i hi => by
  obtain ⟨b, off, e, h1, h2, hc⟩ := h i hi
  exact ⟨b, off, e, h1, h2, cl_kept hb hc⟩
theorem RowX.grown {w w' : World} {base B : Nat} {a : Option Addr} {zs : List Int} (h : RowX w base B a zs) (hg : w.grownBy w' (some B)) : RowX w' base B a zs := fun i hi => by
  obtain ⟨b, off, e, h1, h2, hc⟩ := h i hi
  exact ⟨b, off, e, h1, h2, hg.cell hc (by simpa using h2)⟩
theorem RowX.set {w : World} {base B : Nat} {a : Option Addr} {zs : List Int} (h : RowX w base B a zs) {p : Addr} {u : Value} (hp : p.block < base) : RowX (w.setCell p u) base B a zs := fun i hi => by
  obtain ⟨b, off, e, h1, h2, hc⟩ := h i hi
  exact ⟨b, off, e, h1, h2, set_far hc (by dsimp only; omega)⟩
theorem RowX.setB {w : World} {base B : Nat} {a : Option Addr} {zs : List Int} (h : RowX w base B a zs) {o : Nat} {u : Value} : RowX (w.setCell ⟨B, o, none⟩ u) base B a zs := h.grown (grown_cell w B o u)
theorem RowX.al {w : World} {base B : Nat} {a : Option Addr} {zs : List Int} (h : RowX w base B a zs) {o : Obj} : RowX (w.alloc o) base B a zs := h.kept (bl_alloc (bl_refl _))
theorem RowX.dr {w : World} {base B : Nat} {a : Option Addr} {zs : List Int} (h : RowX w base B a zs) : RowX w.drew base B a zs := h.kept (bl_drew (bl_refl _))
theorem RowF.x1 {w : World} {base base' B : Nat} {a : Option Addr} {zs : List Int} (h : RowF w base' a zs) (h1 : base ≤ base') (h2 : B < base') : RowX w base B a zs := fun i hi => by
  obtain ⟨b, off, e, hb, hc⟩ := h i hi
  exact ⟨b, off, e, by omega, by omega, hc⟩
theorem RowF.x2 {w : World} {base base' B : Nat} {a : Option Addr} {zs : List Int} (h : RowF w base' a zs) (h1 : base ≤ base') (h2 : w.heap.size ≤ B) : RowX w base B a zs := fun i hi => by
  obtain ⟨b, off, e, hb, hc⟩ := h i hi
  have := World.block_lt_of_cell? _ _ hc
  dsimp only at this
  exact ⟨b, off, e, by omega, by omega, hc⟩
/-- Maps apart from the box B. -/
def MapX (w : World) (base B n : Nat) (M : Nat → M6) (a : Option Addr) : Prop := 0 < n → ∃ g, a = some ⟨g, 0, none⟩ ∧ MRow w g n M ∧ base ≤ g ∧ g ≠ B
theorem MapX.kept {w w' : World} {base B n : Nat} {M : Nat → M6} {a : Option Addr} (h : MapX w base B n M a) (hb : Below w.heap.size w w') : MapX w' base B n M a := fun h0 => by
  obtain ⟨g, e, h1, h2, h3⟩ := h h0
  exact ⟨g, e, h1.kept hb, h2, h3⟩
theorem MapX.grown {w w' : World} {base B n : Nat} {M : Nat → M6} {a : Option Addr} (h : MapX w base B n M a) (hg : w.grownBy w' (some B)) : MapX w' base B n M a := fun h0 => by
  obtain ⟨g, e, h1, h2, h3⟩ := h h0
  exact ⟨g, e, h1.grown hg (by simpa using h3), h2, h3⟩
theorem MapX.set {w : World} {base B n : Nat} {M : Nat → M6} {a : Option Addr} (h : MapX w base B n M a) {r o : Nat} {u : Value} (hp : r < base) : MapX (w.setCell ⟨r, o, none⟩ u) base B n M a := fun h0 => by
  obtain ⟨g, e, h1, h2, h3⟩ := h h0
  exact ⟨g, e, h1.grown (grown_cell w r o u) (by simp; omega), h2, h3⟩
theorem MapX.setB {w : World} {base B n : Nat} {M : Nat → M6} {a : Option Addr} (h : MapX w base B n M a) {o : Nat} {u : Value} : MapX (w.setCell ⟨B, o, none⟩ u) base B n M a := h.grown (grown_cell w B o u)
theorem MapX.al {w : World} {base B n : Nat} {M : Nat → M6} {a : Option Addr} (h : MapX w base B n M a) {o : Obj} : MapX (w.alloc o) base B n M a := h.kept (bl_alloc (bl_refl _))
theorem MapX.dr {w : World} {base B n : Nat} {M : Nat → M6} {a : Option Addr} (h : MapX w base B n M a) : MapX w.drew base B n M a := h.kept (bl_drew (bl_refl _))
theorem CopyM.x {w w' : World} {n base B : Nat} {M : Nat → M6} {a : Option Addr} (hc : 0 < n → ∃ g, a = some ⟨g, 0, none⟩ ∧ MRow w' g n M ∧ w.heap.size ≤ g) (h1 : base ≤ w.heap.size) (h2 : B < w.heap.size ∨ w'.heap.size ≤ B) : MapX w' base B n M a := fun h0 => by
  obtain ⟨g, e, hm, hg⟩ := hc h0
  have := World.block_lt_of_cell? _ _ (hm 0 h0).1.1
  dsimp only at this
  exact ⟨g, e, hm, by omega, by omega⟩
theorem step_append_copyM {ops : Array Oper} {o : Oper} {a : Act} {w : World} {K : Act → World → Prop} {Q : Exit → Act → World → Prop} {E : Prop} (hgd : o.guard = none) (s x : Operand) (ho : o.op = .call { callee := .builtin .append, args := #[s, x], argTypes := #[26, 26] }) (hty : o.type = 26) (mp : Option Addr) (mn mc : Nat) (M : Nat → M6) (hs : a.eval s = .slice none 0 0) (hx : a.eval x = .slice mp mn mc) (hM : MRowG w mp mn M) (hl : mn ≤ 2932031007402) (hK : ∀ v' w', CopyM w w' mn M v' → K (a.put o.dst v') w') :
    if Region.wanted o (yielded ops a.tmps) = true then Oper.wp Tryz.prog o a w K Q else E := by
  obtain ⟨v', w', hr, hc⟩ := run_copyM w mp mn mc M hM hl
  exact step_append_run hgd s x 26 ho _ _ v' w' hs hx (by rw [hty]; exact hr) (hK v' w' hc)
def set6x (w : World) (b : Nat) (u0 u1 u2 u3 u4 u5 : Value) : World := (((((w.setCell ⟨b, 0, none⟩ u0).setCell ⟨b, 1, none⟩ u1).setCell ⟨b, 2, none⟩ u2).setCell ⟨b, 3, none⟩ u3).setCell ⟨b, 4, none⟩ u4).setCell ⟨b, 5, none⟩ u5
theorem bl_grown' {w v : World} {r : Option Nat} (h : Below w.heap.size w v) : w.grownBy v r := ⟨h.os, h.tape, h.output, h.size, fun k hk _ => h.block k hk⟩
theorem gb_step {wL w5 w6 : World} {B : Nat} {row : Option Nat} (h : wL.grownBy w5 (some B)) (hg : w5.grownBy w6 row) (hr : ∀ g, row = some g → wL.heap.size ≤ g) : wL.grownBy w6 (some B) :=
  ⟨hg.os.trans h.os, hg.tape.trans h.tape, hg.output.trans h.output, Nat.le_trans h.size hg.size, fun k hk hne => (hg.block k (Nat.lt_of_lt_of_le hk h.size) (fun e => by have := hr k e.symm; omega)).trans (h.block k hk hne)⟩
theorem fresh6a {v w8 : World} {g : Nat} (hg : v.heap.size = g) (hb : Below ((v.alloc (.cells #[.int .i64 0, .int .i64 0, .slice none 0 0, .slice none 0 0, .slice none 0 0, .slice none 0 0] 29))).heap.size ((v.alloc (.cells #[.int .i64 0, .int .i64 0, .slice none 0 0, .slice none 0 0, .slice none 0 0, .slice none 0 0] 29))) w8) : BoxR w8 g := by
  subst hg
  have : BoxR ((v.alloc (.cells #[.int .i64 0, .int .i64 0, .slice none 0 0, .slice none 0 0, .slice none 0 0, .slice none 0 0] 29))) v.heap.size := ⟨⟨by simp [go_sem], by simp [go_sem], by simp [go_sem], by simp [go_sem], by simp [go_sem], by simp [go_sem]⟩, fun q => by simp [go_sem]⟩
  exact this.kept hb
theorem fresh6d {v w8 : World} {g : Nat} (hg : v.heap.size = g) (hb : Below ((v.alloc (.cells #[.int .i64 0, .int .i64 0, .slice none 0 0, .slice none 0 0, .slice none 0 0, .slice none 0 0] 29)).drew).heap.size ((v.alloc (.cells #[.int .i64 0, .int .i64 0, .slice none 0 0, .slice none 0 0, .slice none 0 0, .slice none 0 0] 29)).drew) w8) : BoxR w8 g := by
  subst hg
  have : BoxR ((v.alloc (.cells #[.int .i64 0, .int .i64 0, .slice none 0 0, .slice none 0 0, .slice none 0 0, .slice none 0 0] 29)).drew) v.heap.size := ⟨⟨by simp [go_sem], by simp [go_sem], by simp [go_sem], by simp [go_sem], by simp [go_sem], by simp [go_sem]⟩, fun q => by simp [go_sem]⟩
  exact this.kept hb
/-- A state that was copied. -/
def StCopy (w w' : World) (W H : Int) (zl n mn : Nat) (zs ks : List Int) (M : Nat → M6) (S : List ((Int × Int × Int) × List (Int × Int × Int))) (e : Ending) : Prop := ∃ a ca b cb ma mc t u, e = .returned (.agg #[.int .i64 W, .int .i64 H, .slice a zl ca, .slice b n cb, .slice ma mn mc, .slice t S.length u]) ∧ Row w' a zs ∧ Row w' b ks ∧ (0 < mn → ∃ g, ma = some ⟨g, 0, none⟩ ∧ MRow w' g mn M) ∧ SRow w' t S ∧ Below w.heap.size w w'
theorem cell_four_new (w : World) (a b c : Int) (u : Value) : ∀ j x, ([Value.int .i64 a, .int .i64 b, .int .i64 c, u])[j]? = some x → (w.alloc (.cells #[.int .i64 a, .int .i64 b, .int .i64 c, u] 107)).cell? ((⟨w.heap.size, 0, none⟩ : Addr).add j) = some x := by
  intro j x hx
  match j, hx with
  | 0, hx => simp at hx; subst hx; simp [go_sem, Addr.add]
  | 1, hx => simp at hx; subst hx; simp [go_sem, Addr.add]
  | 2, hx => simp at hx; subst hx; simp [go_sem, Addr.add]
  | 3, hx => simp at hx; subst hx; simp [go_sem, Addr.add]
  | j + 4, hx => simp at hx
set_option maxRecDepth 100000 in
set_option maxHeartbeats 12800000 in
theorem stateOf_any (W H : Int) (a c mp sp : Option Addr) (zl ca n cc mn mc sc : Nat) (zs ks : List Int) (M : Nat → M6) (S : List ((Int × Int × Int) × List (Int × Int × Int))) (w : World)
    (CO : Hid (∀ V : World, Below w.heap.size w V → Calls Tryz.prog 37 #[.agg #[.int .i64 W, .int .i64 H, .slice a zl ca, .slice c n cc]] V fun e w' => ∃ a' ca' b' cb', e = .returned (.agg #[.int .i64 W, .int .i64 H, .slice a' zl ca', .slice b' n cb']) ∧ RowF w' V.heap.size a' zs ∧ RowF w' V.heap.size b' ks ∧ Below V.heap.size V w'))
    (hM : MRowG w mp mn M) (hmn : mn ≤ 2932031007402) (hS : SRowG w sp S) (hSl : S.length ≤ 2932031007402) (hSe : ∀ s ∈ S, s.2.length ≤ 5864062014805) :
    Calls Tryz.prog 9 #[.agg #[.int .i64 W, .int .i64 H, .slice a zl ca, .slice c n cc, .slice mp mn mc, .slice sp S.length sc]] w fun e w' => StCopy w w' W H zl n mn zs ks M S e := by
  obtain ⟨i98, hj1, hj2, hj3, hj4⟩ := info_parts inf98H
  have HI98 : Hid (Tryz.prog.info? 107 = some i98 ∧ i98.zero = some (.agg #[.int .i64 0, .int .i64 0, .int .i64 0, .slice none 0 0]) ∧ i98.size = 4 ∧ i98.bytes = 48) := ⟨hj1, hj2, hj3, hj4⟩
  have HR : Hid (MRowG w mp mn M ∧ SRowG w sp S ∧ ∀ s ∈ S, s.2.length ≤ 5864062014805) := ⟨hM, hS, hSe⟩
  clear hj1 hj2 hj3 hj4 hM hS hSe
  go_enter Tryz.func9, Tryz.ntmps9
  go_upto_region 1 with fail
  refine wp_named (fun W0 hW0 => ?_)
  have HW0 : Hid (Below w.heap.size w W0 ∧ BoxR W0 (w.heap.size + 1) ∧ W0.heap.size = w.heap.size + 2) := by
    rw [hW0]
    exact ⟨bl_alloc (bl_alloc (bl_refl _)), boxR_new _, by simp⟩
  have x0 : W0.cell? ⟨w.heap.size, 0, none⟩ = some (.int .i64 W) := by rw [hW0]; simp [go_sem]
  have x1 : W0.cell? ⟨w.heap.size, 1, none⟩ = some (.int .i64 H) := by rw [hW0]; simp [go_sem]
  have x2 : W0.cell? ⟨w.heap.size, 2, none⟩ = some (.slice a zl ca) := by rw [hW0]; simp [go_sem]
  have x3 : W0.cell? ⟨w.heap.size, 3, none⟩ = some (.slice c n cc) := by rw [hW0]; simp [go_sem]
  have x4 : W0.cell? ⟨w.heap.size, 4, none⟩ = some (.slice mp mn mc) := by rw [hW0]; simp [go_sem]
  have x5 : W0.cell? ⟨w.heap.size, 5, none⟩ = some (.slice sp S.length sc) := by rw [hW0]; simp [go_sem]
  have HX0 : Hid (W0.cell? ⟨w.heap.size, 0, none⟩ = some (.int .i64 W) ∧ W0.cell? ⟨w.heap.size, 1, none⟩ = some (.int .i64 H) ∧ W0.cell? ⟨w.heap.size, 2, none⟩ = some (.slice a zl ca) ∧ W0.cell? ⟨w.heap.size, 3, none⟩ = some (.slice c n cc) ∧ W0.cell? ⟨w.heap.size, 4, none⟩ = some (.slice mp mn mc) ∧ W0.cell? ⟨w.heap.size, 5, none⟩ = some (.slice sp S.length sc)) := ⟨x0, x1, x2, x3, x4, x5⟩
  have z0 : w.heap.size < W0.heap.size := World.block_lt_of_cell? _ _ x0
  clear hW0
  go_cut [3] (fun s3 wx => ∃ (B : Nat) (a' b' ma : Option Addr) (ca' cb' mc' : Nat), s3 = .pointer (some ⟨B, 0, none⟩) ∧ RowX wx W0.heap.size B a' zs ∧ RowX wx W0.heap.size B b' ks ∧ MapX wx W0.heap.size B mn M ma ∧ HSt W0 wx B (.int .i64 W) (.int .i64 H) (.slice a' zl ca') (.slice b' n cb') (.slice ma mn mc') (.slice none 0 0) [] [])
  case first =>
    go_region_held3 (fun w' => w'.cell? ⟨w.heap.size, 0, none⟩ = some (.int .i64 W) ∧ w'.cell? ⟨w.heap.size, 1, none⟩ = some (.int .i64 H) ∧ w'.cell? ⟨w.heap.size, 2, none⟩ = some (.slice a zl ca) ∧ w'.cell? ⟨w.heap.size, 3, none⟩ = some (.slice c n cc) ∧ w'.cell? ⟨w.heap.size, 4, none⟩ = some (.slice mp mn mc) ∧ w'.cell? ⟨w.heap.size, 5, none⟩ = some (.slice sp S.length sc))
      ((refine ⟨?_, ?_, ?_, ?_, ?_, ?_⟩ <;> (repeat' (first | (with_reducible assumption) | (with_reducible refine st_far ?_ ?_) | (dsimp only; omega) | (simp [go_sem]; done) | (with_reducible refine al_old ?_) | (with_reducible refine dr_old ?_)))))
      (first
        | (go_at_call 37; refine (CO.out _ (bl_via HW0.out.1 (by with_reducible repeat (first | exact bl_refl _ | refine bl_drew ?_ | refine bl_alloc ?_)))).mono ?_; rintro e w3 ⟨a', ca', b', cb', rfl, hz, hk, hb⟩; have x0_w3 : w3.cell? ⟨w.heap.size, 0, none⟩ = some (.int .i64 W) := cl_kept hb (by with_reducible (repeat (first | assumption | refine dr_old ?_ | refine al_old ?_))); have x1_w3 : w3.cell? ⟨w.heap.size, 1, none⟩ = some (.int .i64 H) := cl_kept hb (by with_reducible (repeat (first | assumption | refine dr_old ?_ | refine al_old ?_))); have x2_w3 : w3.cell? ⟨w.heap.size, 2, none⟩ = some (.slice a zl ca) := cl_kept hb (by with_reducible (repeat (first | assumption | refine dr_old ?_ | refine al_old ?_))); have x3_w3 : w3.cell? ⟨w.heap.size, 3, none⟩ = some (.slice c n cc) := cl_kept hb (by with_reducible (repeat (first | assumption | refine dr_old ?_ | refine al_old ?_))); have x4_w3 : w3.cell? ⟨w.heap.size, 4, none⟩ = some (.slice mp mn mc) := cl_kept hb (by with_reducible (repeat (first | assumption | refine dr_old ?_ | refine al_old ?_))); have x5_w3 : w3.cell? ⟨w.heap.size, 5, none⟩ = some (.slice sp S.length sc) := cl_kept hb (by with_reducible (repeat (first | assumption | refine dr_old ?_ | refine al_old ?_))); (first | (have hbx := fresh6a (g := W0.heap.size) rfl hb; have HQ3 : Hid (Below W0.heap.size W0 w3 ∧ RowF w3 (W0.heap.size + 1) a' zs ∧ RowF w3 (W0.heap.size + 1) b' ks ∧ BoxR w3 W0.heap.size) := ⟨bl_via (bl_alloc (bl_refl _)) hb, hz.low (by simp), hk.low (by simp), hbx⟩; clear hbx) | (have hbx := fresh6d (g := W0.heap.size) rfl hb; have HQ3 : Hid (Below W0.heap.size W0 w3 ∧ RowF w3 (W0.heap.size + 1) a' zs ∧ RowF w3 (W0.heap.size + 1) b' ks ∧ BoxR w3 W0.heap.size) := ⟨bl_via (bl_drew (bl_alloc (bl_refl _))) hb, hz.low (by simp), hk.low (by simp), hbx⟩; clear hbx) | (have HQ3 : Hid (Below W0.heap.size W0 w3 ∧ RowF w3 W0.heap.size a' zs ∧ RowF w3 W0.heap.size b' ks) := ⟨bl_via (by with_reducible repeat (first | exact bl_refl _ | refine bl_drew ?_)) hb, hz, hk⟩)); have zz3 : w.heap.size < w3.heap.size := World.block_lt_of_cell? _ _ x0_w3; clear hz hk hb)
        | (refine step_append_copyM (by rfl) (.const (.slice none 0 0)) (.tmp 9) (by rfl) (by rfl) mp mn mc M (by rfl) (by rfl) (HR.out.1.kept (bl_via HW0.out.1 (by with_reducible repeat (first | exact HQ3.out.1 | refine bl_drew ?_ | refine bl_alloc ?_)))) hmn ?_; intro v4 w4 hcp; obtain ⟨ma, mc', rfl, hm4, hb⟩ := hcp; have x0_w4 : w4.cell? ⟨w.heap.size, 0, none⟩ = some (.int .i64 W) := cl_kept hb (by with_reducible (repeat (first | assumption | refine dr_old ?_ | refine al_old ?_))); have x1_w4 : w4.cell? ⟨w.heap.size, 1, none⟩ = some (.int .i64 H) := cl_kept hb (by with_reducible (repeat (first | assumption | refine dr_old ?_ | refine al_old ?_))); have x2_w4 : w4.cell? ⟨w.heap.size, 2, none⟩ = some (.slice a zl ca) := cl_kept hb (by with_reducible (repeat (first | assumption | refine dr_old ?_ | refine al_old ?_))); have x3_w4 : w4.cell? ⟨w.heap.size, 3, none⟩ = some (.slice c n cc) := cl_kept hb (by with_reducible (repeat (first | assumption | refine dr_old ?_ | refine al_old ?_))); have x4_w4 : w4.cell? ⟨w.heap.size, 4, none⟩ = some (.slice mp mn mc) := cl_kept hb (by with_reducible (repeat (first | assumption | refine dr_old ?_ | refine al_old ?_))); have x5_w4 : w4.cell? ⟨w.heap.size, 5, none⟩ = some (.slice sp S.length sc) := cl_kept hb (by with_reducible (repeat (first | assumption | refine dr_old ?_ | refine al_old ?_))); (first | (have hbx := fresh6a (g := w3.heap.size) rfl hb; have HQ4 : Hid (Below W0.heap.size W0 w4 ∧ (RowX w4 W0.heap.size w3.heap.size a' zs ∧ RowX w4 W0.heap.size w3.heap.size b' ks) ∧ MapX w4 W0.heap.size w3.heap.size mn M ma ∧ BoxR w4 w3.heap.size) := ⟨bl_via HQ3.out.1 (bl_via (bl_alloc (bl_refl _)) hb), ⟨(HQ3.out.2.1.x2 (Nat.le_refl _) (Nat.le_refl _)).kept (bl_via (bl_alloc (bl_refl _)) hb), (HQ3.out.2.2.x2 (Nat.le_refl _) (Nat.le_refl _)).kept (bl_via (bl_alloc (bl_refl _)) hb)⟩, CopyM.x hm4 (by have := HQ3.out.1.size; simp; omega) (Or.inl (by simp)), hbx⟩; clear hbx; obtain ⟨⟨f0, f1, f2, f3, f4, f5⟩, ff⟩ := HQ4.out.2.2.2; have ff0 := ff 0; have ff1 := ff 1; have ff2 := ff 2; have ff3 := ff 3; have ff4 := ff 4; have ff5 := ff 5; have zf : w3.heap.size < w4.heap.size := World.block_lt_of_cell? _ _ f0; clear ff) | (have HQ4 : Hid (Below W0.heap.size W0 w4 ∧ (RowX w4 W0.heap.size W0.heap.size a' zs ∧ RowX w4 W0.heap.size W0.heap.size b' ks) ∧ MapX w4 W0.heap.size W0.heap.size mn M ma ∧ BoxR w4 W0.heap.size) := ⟨bl_via HQ3.out.1 hb, ⟨(HQ3.out.2.1.x1 (Nat.le_succ _) (Nat.lt_succ_self _)).kept hb, (HQ3.out.2.2.1.x1 (Nat.le_succ _) (Nat.lt_succ_self _)).kept hb⟩, CopyM.x hm4 (by have := HQ3.out.1.size; omega) (Or.inl (by have := HQ3.out.2.2.2.1.1; exact World.block_lt_of_cell? _ _ this)), HQ3.out.2.2.2.kept hb⟩; obtain ⟨⟨f0, f1, f2, f3, f4, f5⟩, ff⟩ := HQ4.out.2.2.2; have ff0 := ff 0; have ff1 := ff 1; have ff2 := ff 2; have ff3 := ff 3; have ff4 := ff 4; have ff5 := ff 5; have zf : W0.heap.size < w4.heap.size := World.block_lt_of_cell? _ _ f0; clear ff) | (have HQ4 : Hid (Below W0.heap.size W0 w4 ∧ (RowX w4 W0.heap.size w4.heap.size a' zs ∧ RowX w4 W0.heap.size w4.heap.size b' ks) ∧ MapX w4 W0.heap.size w4.heap.size mn M ma) := ⟨bl_via HQ3.out.1 hb, ⟨(HQ3.out.2.1.kept hb).x2 (Nat.le_refl _) (Nat.le_refl _), (HQ3.out.2.2.kept hb).x2 (Nat.le_refl _) (Nat.le_refl _)⟩, CopyM.x hm4 (by have := HQ3.out.1.size; omega) (Or.inr (Nat.le_refl _))⟩)); have zz4 : w.heap.size < w4.heap.size := World.block_lt_of_cell? _ _ x0_w4; clear hm4 hb)
        | fail)
    all_goals
      go_wp2
      go_meet
      case rel =>
        refine ⟨_, a', b', ma, ca', cb', mc', rfl, ?_, ?_, ?_, hst_nil (by first | (simp [go_sem]; done) | (simp [go_sem, *]; done)) (by first | (simp [go_sem]; done) | (simp [go_sem, *]; done)) (by first | (simp [go_sem]; done) | (simp [go_sem, *]; done)) (by first | (simp [go_sem]; done) | (simp [go_sem, *]; done)) (by first | (simp [go_sem]; done) | (simp [go_sem, *]; done)) (by first | (simp [go_sem]; done) | (simp [go_sem, *]; done)) (by first | (simp [go_sem]; done) | (simp [go_sem, *]; done)) (by first | exact Nat.le_refl _ | exact HQ4.out.1.size | exact HQ3.out.1.size) ?_⟩
        · with_reducible repeat' (first | exact HQ4.out.2.1.1 | refine RowX.setB ?_ | refine RowX.al ?_ | refine RowX.dr ?_)
        · with_reducible repeat' (first | exact HQ4.out.2.1.2 | refine RowX.setB ?_ | refine RowX.al ?_ | refine RowX.dr ?_)
        · with_reducible repeat' (first | exact HQ4.out.2.2.1 | exact HQ4.out.2.2 | refine MapX.setB ?_ | refine MapX.al ?_ | refine MapX.dr ?_)
        · with_reducible repeat' (first | exact HQ4.out.1 | refine bl_set ?_ ?_ | refine bl_alloc ?_ | refine bl_drew ?_)
          all_goals first | exact Nat.le_refl _ | exact HQ4.out.1.size | exact HQ3.out.1.size
  case rest =>
    obtain ⟨B, a', b', ma, ca', cb', mc', rfl, hra, hrb, hma, hst⟩ := hcut
    obtain ⟨wL, hwL⟩ : ∃ wL, wL = wc := ⟨_, rfl⟩
    rw [← hwL] at hra hrb hma hst ⊢
    clear hwL x0 x1 x2 x3 x4 x5 z0
    have HL : Hid (RowX wL W0.heap.size B a' zs ∧ RowX wL W0.heap.size B b' ks ∧ MapX wL W0.heap.size B mn M ma ∧ HSt W0 wL B (.int .i64 W) (.int .i64 H) (.slice a' zl ca') (.slice b' n cb') (.slice ma mn mc') (.slice none 0 0) [] [] ∧ W0.heap.size ≤ B) := ⟨hra, hrb, hma, hst, hst.low⟩
    clear hra hrb hma hst
    go_wp2
    go_loopg [4] S.length (fun gk s4 wx => ∃ (i : Nat) (v : Value) (R : List ((Int × Int × Int) × Value)), i ≤ S.length ∧ gk = S.length - i ∧ s4 = .int .i64 (i : Int) ∧ (HSt W0 wx B (.int .i64 W) (.int .i64 H) (.slice a' zl ca') (.slice b' n cb') (.slice ma mn mc') v R (S.take i) ∧ wL.grownBy wx (some B) ∧ ∀ g, v.ownBlock = some g → wL.heap.size ≤ g))
    case atStart => exact ⟨0, _, [], by omega, rfl, rfl, HL.out.2.2.2.1, bl_grown' (bl_refl _), fun g e => by simp [Value.ownBlock] at e⟩
    case round =>
      obtain ⟨i, v, R, hi, rfl, rfl, hS, hgb, hvb⟩ := hrel
      have HI : Hid (HSt W0 wr B (.int .i64 W) (.int .i64 H) (.slice a' zl ca') (.slice b' n cb') (.slice ma mn mc') v R (S.take i) ∧ wL.grownBy wr (some B) ∧ (∀ g, v.ownBlock = some g → wL.heap.size ≤ g) ∧ R.length = i) := ⟨hS, hgb, hvb, by rw [hS.len, List.length_take]; omega⟩
      have x5 := cl_kept hS.bel HX0.out.2.2.2.2.2
      have z5 : w.heap.size < wr.heap.size := World.block_lt_of_cell? _ _ x5
      clear hS hgb hvb
      by_cases h1 : i < S.length
      · have i1 : (i : Int) < (S.length : Int) := by omega
        have i0 : (0 : Int) ≤ (i : Int) := by omega
        obtain ⟨gs, os, sa, sc', rfl, c0, c1, c2, c3, hcap, hTm⟩ := HR.out.2.1 i h1
        obtain ⟨X, Y, K, hat⟩ : ∃ X Y K, S[i].1 = (X, Y, K) := ⟨_, _, _, rfl⟩
        obtain ⟨l, hl⟩ : ∃ l, l = S[i].2.length := ⟨_, rfl⟩
        rw [hat] at c0 c1 c2
        rw [← hl] at c3
        dsimp only at c0 c1 c2
        have HSX : Hid (∀ wx : World, Below W0.heap.size W0 wx → wx.cell? ⟨w.heap.size, 5, none⟩ = some (.slice (some ⟨gs, os, none⟩) S.length sc) ∧ wx.cell? ⟨gs, os + i * 4, none⟩ = some (.int .i64 X) ∧ wx.cell? ⟨gs, os + i * 4 + 1, none⟩ = some (.int .i64 Y) ∧ wx.cell? ⟨gs, os + i * 4 + 2, none⟩ = some (.int .i64 K) ∧ wx.cell? ⟨gs, os + i * 4 + 3, none⟩ = some (.slice sa l sc')) := fun wx hx => ⟨cl_kept hx HX0.out.2.2.2.2.2, cl_kept (bl_via HW0.out.1 hx) c0, cl_kept (bl_via HW0.out.1 hx) c1, cl_kept (bl_via HW0.out.1 hx) c2, cl_kept (bl_via HW0.out.1 hx) c3⟩
        have hBd : Below W0.heap.size W0 wr.drew := bl_drew HI.out.1.bel
        have hle : S[i].2.length ≤ 5864062014805 := HR.out.2.2 _ (List.getElem_mem h1)
        obtain ⟨a4, c4, w4, hr4, hT4, hg4, hb4⟩ := run_copyT wr.drew sa S[i].2 sc' (hTm.kept (bl_via HW0.out.1 hBd)) hle
        rw [← hl] at hr4 hT4 hg4
        have hS5 := (HI.out.1.kept (bl_drew (bl_refl _))).kept (bl_via hb4 (bl_alloc (o := .cells #[.int .i64 X, .int .i64 Y, .int .i64 K, .slice a4 l c4] 107) (bl_refl _)))
        have hB4 : Below W0.heap.size W0 w4 := bl_via hBd hb4
        have hB5 : Below W0.heap.size W0 (w4.alloc (.cells #[.int .i64 X, .int .i64 Y, .int .i64 K, .slice a4 l c4] 107)) := bl_alloc hB4
        have hlen : R.length = i := HI.out.2.2.2
        have hBlt : B < wr.heap.size := HI.out.1.lt
        have hsz4 : wr.heap.size ≤ w4.heap.size := by have := hb4.size; simpa using this
        obtain ⟨v7, w6, hr6, ho6, hg6, _, hob6⟩ := run_append_own_at (P := Tryz.prog) (w4.alloc (.cells #[.int .i64 X, .int .i64 Y, .int .i64 K, .slice a4 l c4] 107)) (B + 1) 27 27 107 i98 (.agg #[.int .i64 0, .int .i64 0, .int .i64 0, .slice none 0 0]) 4 48 Tryz.underlying27 HI98.out.1 HI98.out.2.1 HI98.out.2.2.1 HI98.out.2.2.2 rfl (by decide) v R.length (rowS R) hS5.own ⟨w4.heap.size, 0, none⟩ 1 1 [.int .i64 X, .int .i64 Y, .int .i64 K, .slice a4 l c4] rfl (cell_four_new _ _ _ _ _) (by intro u hu; simp at hu; rcases hu with rfl | rfl | rfl | rfl <;> rfl) (by unfold maxLen; omega) (by omega) (by simp; omega)
        obtain ⟨a7, c7, rfl, _⟩ := own_form ho6
        have hB6 : Below W0.heap.size W0 w6 := hB5.grown hg6 hB5.size (fun k hk => by have := own_base hS5.own k hk; have := HL.out.2.2.2.2; omega)
        have hB7 : Below W0.heap.size W0 (w6.setCell ⟨B, 5, none⟩ (.slice a7 (R.length + 1) c7)) := bl_set hB6 HL.out.2.2.2.2
        have hvlt : ∀ g, v.ownBlock = some g → g < wr.heap.size := fun g e => (HI.out.1.own.lt g e).2
        have hF7 := hS5.add (t := (X, Y, K)) (u := .slice a4 l c4) (l := S[i].2) hg6 ho6 hob6 (fun g e => by
          have h9 := hg4 g e
          have h8 : wr.heap.size ≤ g := by have := h9.1; simpa using this
          refine ⟨by omega, by simp; omega, fun e2 => ?_⟩
          have := hvlt g e2
          omega) (hT4.kept (bl_alloc (bl_refl _)))
        have etk : S.take (i + 1) = S.take i ++ [((X, Y, K), S[i].2)] := by
          rw [List.take_succ_eq_append_getElem h1, ← hat]
        have HF7 : Hid (HSt W0 (w6.setCell ⟨B, 5, none⟩ (.slice a7 (R.length + 1) c7)) B (.int .i64 W) (.int .i64 H) (.slice a' zl ca') (.slice b' n cb') (.slice ma mn mc') (.slice a7 (R.length + 1) c7) (R ++ [((X, Y, K), .slice a4 l c4)]) (S.take (i + 1)) ∧ wL.grownBy (w6.setCell ⟨B, 5, none⟩ (.slice a7 (R.length + 1) c7)) (some B) ∧ ∀ g, (Value.slice a7 (R.length + 1) c7).ownBlock = some g → wL.heap.size ≤ g) := by
          have hgL := HI.out.2.1.size
          refine ⟨by rw [etk]; exact hF7, gb_then (gb_step (row := v.ownBlock) (gb_step HI.out.2.1 (bl_grown (bl_drew (bl_refl _))) (fun g e => by cases e)) ?_ ?_) (grown_cell w6 B 5 _), fun g e => ?_⟩
          · exact ⟨hg6.os.trans (bl_grown (bl_via hb4 (bl_alloc (bl_refl _)))).os, hg6.tape.trans (bl_grown (bl_via hb4 (bl_alloc (bl_refl _)))).tape, hg6.output.trans (bl_grown (bl_via hb4 (bl_alloc (bl_refl _)))).output, Nat.le_trans (bl_via hb4 (bl_alloc (bl_refl _))).size hg6.size, fun k hk hne => (hg6.block k (Nat.lt_of_lt_of_le hk (bl_via hb4 (bl_alloc (bl_refl _))).size) hne).trans ((bl_via hb4 (bl_alloc (bl_refl _))).block k hk)⟩
          · exact fun g e => HI.out.2.2.1 g e
          · rcases hob6 with e2 | e2
            · exact HI.out.2.2.1 g (e2.symm.trans e)
            · rw [e2] at e
              cases e
              simp
              omega
        have hnB : some B ≠ v.ownBlock := fun e => by
          have := own_base hS5.own B e.symm
          omega
        have e0 := HI.out.1.c5
        have e4 : w4.cell? ⟨B, 5, none⟩ = some v := cl_kept hb4 (by simpa [go_sem] using e0)
        have e5 : (w4.alloc (.cells #[.int .i64 X, .int .i64 Y, .int .i64 K, .slice a4 l c4] 107)).cell? ⟨B, 5, none⟩ = some v := al_old e4
        have q0 : w6.cell? ⟨B, 5, none⟩ = some v := hg6.cell e5 hnB
        have q1 : w6.frozen? ⟨B, 5, none⟩ = false := (World.frozen?_of_block (a := ⟨B, 5, none⟩) (hg6.block B hS5.lt hnB)).trans hS5.f5
        have HBd : Hid (Below W0.heap.size W0 wr.drew) := hBd
        have HB4 : Hid (Below W0.heap.size W0 w4) := hB4
        have HB5 : Hid (Below W0.heap.size W0 (w4.alloc (.cells #[.int .i64 X, .int .i64 Y, .int .i64 K, .slice a4 l c4] 107))) := hB5
        have HB6 : Hid (Below W0.heap.size W0 w6) := hB6
        have HB7 : Hid (Below W0.heap.size W0 (w6.setCell ⟨B, 5, none⟩ (.slice a7 (R.length + 1) c7))) := hB7
        have zB4 : B < w4.heap.size := by omega
        clear hBd hB4 hB5 hB6 hB7 hF7 hS5 etk hob6 hg6 ho6 hT4 hg4 hb4 hTm hcap c0 c1 c2 c3 hat hl hle hvlt hnB hsz4 hlen
        go_upto_region 5 with fail
        clear x5 z5
        refine wp_region_held_drew (S := fun w' => w'.cell? ⟨w.heap.size, 5, none⟩ = some (.slice (some ⟨gs, os, none⟩) S.length sc) ∧ w'.cell? ⟨gs, os + i * 4, none⟩ = some (.int .i64 X) ∧ w'.cell? ⟨gs, os + i * 4 + 1, none⟩ = some (.int .i64 Y) ∧ w'.cell? ⟨gs, os + i * 4 + 2, none⟩ = some (.int .i64 K) ∧ w'.cell? ⟨gs, os + i * 4 + 3, none⟩ = some (.slice sa l sc')) (by kernel_rfl) (HSX.out _ HBd.out) (fun hHeld => ?_)
        refine wpAnyH_take (i := 0) (v := .pointer (some ⟨B, 5, none⟩)) rfl (by kernel_rfl) (by kernel_rfl) (by kernel_rfl) (fun _ _ _ h => h) (Or.inl ⟨by rfl, ?hyy⟩) (by assumption) ?_
        case hyy => (intro w' hSw; (try dsimp only at hSw); go_simp)
        try simp only [Act.put, List.getElem_toArray, List.getElem_cons_zero, List.setIfInBounds_toArray, List.set_cons_zero, List.set_cons_succ]
        refine wpAnyH_take (i := 2) (v := .pointer (some ⟨w.heap.size, 5, none⟩)) rfl (by kernel_rfl) (by kernel_rfl) (by kernel_rfl) (fun _ _ _ h => h) (Or.inl ⟨by rfl, ?hyy⟩) (by assumption) ?_
        case hyy => (intro w' hSw; (try dsimp only at hSw); go_simp)
        try simp only [Act.put, List.getElem_toArray, List.getElem_cons_succ, List.getElem_cons_zero, List.setIfInBounds_toArray, List.set_cons_zero, List.set_cons_succ]
        refine wpAnyH_take (i := 3) (v := .slice (some ⟨gs, os, none⟩) S.length sc) rfl (by kernel_rfl) (by kernel_rfl) (by kernel_rfl) (fun _ _ _ h => h) (Or.inl ⟨by rfl, ?hyy⟩) (by assumption) ?_
        case hyy => (intro w' hSw; (try dsimp only at hSw); go_simp)
        try simp only [Act.put, List.getElem_toArray, List.getElem_cons_succ, List.getElem_cons_zero, List.setIfInBounds_toArray, List.set_cons_zero, List.set_cons_succ]
        refine wpAnyH_take (i := 4) (v := .int .i64 (i : Int)) rfl (by kernel_rfl) (by kernel_rfl) (by kernel_rfl) (fun _ _ _ h => h) (Or.inl ⟨by rfl, ?hyy⟩) (by assumption) ?_
        case hyy => (intro w' hSw; (try dsimp only at hSw); go_simp)
        try simp only [Act.put, List.getElem_toArray, List.getElem_cons_succ, List.getElem_cons_zero, List.setIfInBounds_toArray, List.set_cons_zero, List.set_cons_succ]
        refine wpAnyH_take (i := 5) (v := .pointer (some ⟨gs, os + i * 4, none⟩)) rfl (by kernel_rfl) (by kernel_rfl) (by kernel_rfl) (fun _ _ _ h => h) (Or.inl ⟨by rfl, ?hyy⟩) (by assumption) ?_
        case hyy => (intro w' hSw; (try dsimp only at hSw); go_simp)
        try simp only [Act.put, List.getElem_toArray, List.getElem_cons_succ, List.getElem_cons_zero, List.setIfInBounds_toArray, List.set_cons_zero, List.set_cons_succ]
        refine wpAnyH_take (i := 6) (v := .pointer (some ⟨gs, os + i * 4, none⟩)) rfl (by kernel_rfl) (by kernel_rfl) (by kernel_rfl) (fun _ _ _ h => h) (Or.inl ⟨by rfl, ?hyy⟩) (by assumption) ?_
        case hyy => (intro w' hSw; (try dsimp only at hSw); go_simp)
        try simp only [Act.put, List.getElem_toArray, List.getElem_cons_succ, List.getElem_cons_zero, List.setIfInBounds_toArray, List.set_cons_zero, List.set_cons_succ]
        refine wpAnyH_take (i := 7) (v := .agg #[.int .i64 X, .int .i64 Y, .int .i64 K]) rfl (by kernel_rfl) (by kernel_rfl) (by kernel_rfl) (fun _ _ _ h => h) (Or.inl ⟨by rfl, ?hyy⟩) (by assumption) ?_
        case hyy => (intro w' hSw; (try dsimp only at hSw); go_simp)
        try simp only [Act.put, List.getElem_toArray, List.getElem_cons_succ, List.getElem_cons_zero, List.setIfInBounds_toArray, List.set_cons_zero, List.set_cons_succ]
        refine wpAnyH_take (i := 8) (v := .pointer (some ⟨w.heap.size, 5, none⟩)) rfl (by kernel_rfl) (by kernel_rfl) (by kernel_rfl) (fun _ _ _ h => h) (Or.inl ⟨by rfl, ?hyy⟩) (by assumption) ?_
        case hyy => (intro w' hSw; (try dsimp only at hSw); go_simp)
        try simp only [Act.put, List.getElem_toArray, List.getElem_cons_succ, List.getElem_cons_zero, List.setIfInBounds_toArray, List.set_cons_zero, List.set_cons_succ]
        refine wpAnyH_take (i := 9) (v := .slice (some ⟨gs, os, none⟩) S.length sc) rfl (by kernel_rfl) (by kernel_rfl) (by kernel_rfl) (fun _ _ _ h => h) (Or.inl ⟨by rfl, ?hyy⟩) (by assumption) ?_
        case hyy => (intro w' hSw; (try dsimp only at hSw); go_simp)
        try simp only [Act.put, List.getElem_toArray, List.getElem_cons_succ, List.getElem_cons_zero, List.setIfInBounds_toArray, List.set_cons_zero, List.set_cons_succ]
        refine wpAnyH_take (i := 10) (v := .int .i64 (i : Int)) rfl (by kernel_rfl) (by kernel_rfl) (by kernel_rfl) (fun _ _ _ h => h) (Or.inl ⟨by rfl, ?hyy⟩) (by assumption) ?_
        case hyy => (intro w' hSw; (try dsimp only at hSw); go_simp)
        try simp only [Act.put, List.getElem_toArray, List.getElem_cons_succ, List.getElem_cons_zero, List.setIfInBounds_toArray, List.set_cons_zero, List.set_cons_succ]
        refine wpAnyH_take (i := 11) (v := .pointer (some ⟨gs, os + i * 4, none⟩)) rfl (by kernel_rfl) (by kernel_rfl) (by kernel_rfl) (fun _ _ _ h => h) (Or.inl ⟨by rfl, ?hyy⟩) (by assumption) ?_
        case hyy => (intro w' hSw; (try dsimp only at hSw); go_simp)
        try simp only [Act.put, List.getElem_toArray, List.getElem_cons_succ, List.getElem_cons_zero, List.setIfInBounds_toArray, List.set_cons_zero, List.set_cons_succ]
        refine wpAnyH_take (i := 12) (v := .pointer (some ⟨gs, os + i * 4 + 3, none⟩)) rfl (by kernel_rfl) (by kernel_rfl) (by kernel_rfl) (fun _ _ _ h => h) (Or.inl ⟨by rfl, ?hyy⟩) (by assumption) ?_
        case hyy => (intro w' hSw; (try dsimp only at hSw); go_simp)
        try simp only [Act.put, List.getElem_toArray, List.getElem_cons_succ, List.getElem_cons_zero, List.setIfInBounds_toArray, List.set_cons_zero, List.set_cons_succ]
        refine wpAnyH_take (i := 13) (v := .slice sa l sc') rfl (by kernel_rfl) (by kernel_rfl) (by kernel_rfl) (fun _ _ _ h => h) (Or.inl ⟨by rfl, ?hyy⟩) (by assumption) ?_
        case hyy => (intro w' hSw; (try dsimp only at hSw); go_simp)
        try simp only [Act.put, List.getElem_toArray, List.getElem_cons_succ, List.getElem_cons_zero, List.setIfInBounds_toArray, List.set_cons_zero, List.set_cons_succ]
        refine wpAnyH_ready (rs := [1, 14]) (by kernel_rfl) (by simp) ?_
        refine AllReadyH.cons rfl (fun K hK => ?_) (AllReadyH.cons rfl (fun K hK => ?_) AllReadyH.nil)
        · go_simp
          refine hK.out _ _ (HSX.out _ HBd.out) (fun hHd => ?_)
          clear hK K
          try simp only [Act.put, List.getElem_toArray, List.getElem_cons_succ, List.getElem_cons_zero, List.setIfInBounds_toArray, List.set_cons_zero, List.set_cons_succ]
          refine wpAnyH_ready (rs := [14]) (by kernel_rfl) (by simp) ?_
          refine AllReadyH.cons rfl (fun K hK => ?_) AllReadyH.nil
          rw [if_pos (by rfl)]
          refine wp_append_run (.const (.slice none 0 0)) (.tmp 32) 55 rfl _ _ (.slice a4 l c4) w4 rfl rfl hr4 ?_
          refine hK.out _ _ (HSX.out _ HB4.out) (fun hHd => ?_)
          clear hK K
          try simp only [Act.put, List.getElem_toArray, List.getElem_cons_succ, List.getElem_cons_zero, List.setIfInBounds_toArray, List.set_cons_zero, List.set_cons_succ]
          refine wpAnyH_take (i := 15) (v := .agg #[.int .i64 X, .int .i64 Y, .int .i64 K, .slice a4 l c4]) rfl (by kernel_rfl) (by kernel_rfl) (by kernel_rfl) (fun _ _ _ h => h) (Or.inl ⟨by rfl, ?hyy⟩) (by assumption) ?_
          case hyy => (intro w' hSw; (try dsimp only at hSw); go_simp)
          try simp only [Act.put, List.getElem_toArray, List.getElem_cons_succ, List.getElem_cons_zero, List.setIfInBounds_toArray, List.set_cons_zero, List.set_cons_succ]
          refine wpAnyH_ready (rs := [16]) (by kernel_rfl) (by simp) ?_
          refine AllReadyH.cons rfl (fun K hK => ?_) AllReadyH.nil
          go_simp
          refine hK.out _ _ (HSX.out _ HB5.out) (fun hHd => ?_)
          clear hK K
          try simp only [Act.put, List.getElem_toArray, List.getElem_cons_succ, List.getElem_cons_zero, List.setIfInBounds_toArray, List.set_cons_zero, List.set_cons_succ]
          refine wpAnyH_ready (rs := [17]) (by kernel_rfl) (by simp) ?_
          refine AllReadyH.cons rfl (fun K hK => ?_) AllReadyH.nil
          rw [if_pos (by rfl)]
          refine wp_append_run (.tmp 20) (.tmp 35) 27 rfl _ _ (.slice a7 (R.length + 1) c7) w6 rfl rfl hr6 ?_
          refine hK.out _ _ (HSX.out _ HB6.out) (fun hHd => ?_)
          clear hK K
          try simp only [Act.put, List.getElem_toArray, List.getElem_cons_succ, List.getElem_cons_zero, List.setIfInBounds_toArray, List.set_cons_zero, List.set_cons_succ]
          refine wpAnyH_take (i := 18) (v := .pointer (some ⟨B, 5, none⟩)) rfl (by kernel_rfl) (by kernel_rfl) (by kernel_rfl) (fun _ _ _ h => h) (Or.inl ⟨by rfl, ?hyy⟩) (by assumption) ?_
          case hyy => (intro w' hSw; (try dsimp only at hSw); go_simp)
          try simp only [Act.put, List.getElem_toArray, List.getElem_cons_succ, List.getElem_cons_zero, List.setIfInBounds_toArray, List.set_cons_zero, List.set_cons_succ]
          refine wpAnyH_ready (rs := [19]) (by kernel_rfl) (by simp) ?_
          refine AllReadyH.cons rfl (fun K hK => ?_) AllReadyH.nil
          go_simp
          refine hK.out _ _ (HSX.out _ HB7.out) (fun hHd => ?_)
          clear hK K
          try simp only [Act.put, List.getElem_toArray, List.getElem_cons_succ, List.getElem_cons_zero, List.setIfInBounds_toArray, List.set_cons_zero, List.set_cons_succ]
          refine wpAnyH_done (by kernel_rfl) ?_ _
          go_wp2
          go_roundg (S.length - (i + 1))
          case measure => omega
          case rel => exact ⟨i + 1, _, _, by omega, rfl, by go_num, HF7.out⟩
        · rw [if_pos (by rfl)]
          refine wp_append_run (.const (.slice none 0 0)) (.tmp 32) 55 rfl _ _ (.slice a4 l c4) w4 rfl rfl hr4 ?_
          refine hK.out _ _ (HSX.out _ HB4.out) (fun hHd => ?_)
          clear hK K
          try simp only [Act.put, List.getElem_toArray, List.getElem_cons_succ, List.getElem_cons_zero, List.setIfInBounds_toArray, List.set_cons_zero, List.set_cons_succ]
          refine wpAnyH_take (i := 15) (v := .agg #[.int .i64 X, .int .i64 Y, .int .i64 K, .slice a4 l c4]) rfl (by kernel_rfl) (by kernel_rfl) (by kernel_rfl) (fun _ _ _ h => h) (Or.inl ⟨by rfl, ?hyy⟩) (by assumption) ?_
          case hyy => (intro w' hSw; (try dsimp only at hSw); go_simp)
          try simp only [Act.put, List.getElem_toArray, List.getElem_cons_succ, List.getElem_cons_zero, List.setIfInBounds_toArray, List.set_cons_zero, List.set_cons_succ]
          refine wpAnyH_ready (rs := [1, 16]) (by kernel_rfl) (by simp) ?_
          refine AllReadyH.cons rfl (fun K hK => ?_) (AllReadyH.cons rfl (fun K hK => ?_) AllReadyH.nil)
          · go_simp
            refine hK.out _ _ (HSX.out _ HB4.out) (fun hHd => ?_)
            clear hK K
            try simp only [Act.put, List.getElem_toArray, List.getElem_cons_succ, List.getElem_cons_zero, List.setIfInBounds_toArray, List.set_cons_zero, List.set_cons_succ]
            refine wpAnyH_ready (rs := [16]) (by kernel_rfl) (by simp) ?_
            refine AllReadyH.cons rfl (fun K hK => ?_) AllReadyH.nil
            go_simp
            refine hK.out _ _ (HSX.out _ HB5.out) (fun hHd => ?_)
            clear hK K
            try simp only [Act.put, List.getElem_toArray, List.getElem_cons_succ, List.getElem_cons_zero, List.setIfInBounds_toArray, List.set_cons_zero, List.set_cons_succ]
            refine wpAnyH_ready (rs := [17]) (by kernel_rfl) (by simp) ?_
            refine AllReadyH.cons rfl (fun K hK => ?_) AllReadyH.nil
            rw [if_pos (by rfl)]
            refine wp_append_run (.tmp 20) (.tmp 35) 27 rfl _ _ (.slice a7 (R.length + 1) c7) w6 rfl rfl hr6 ?_
            refine hK.out _ _ (HSX.out _ HB6.out) (fun hHd => ?_)
            clear hK K
            try simp only [Act.put, List.getElem_toArray, List.getElem_cons_succ, List.getElem_cons_zero, List.setIfInBounds_toArray, List.set_cons_zero, List.set_cons_succ]
            refine wpAnyH_take (i := 18) (v := .pointer (some ⟨B, 5, none⟩)) rfl (by kernel_rfl) (by kernel_rfl) (by kernel_rfl) (fun _ _ _ h => h) (Or.inl ⟨by rfl, ?hyy⟩) (by assumption) ?_
            case hyy => (intro w' hSw; (try dsimp only at hSw); go_simp)
            try simp only [Act.put, List.getElem_toArray, List.getElem_cons_succ, List.getElem_cons_zero, List.setIfInBounds_toArray, List.set_cons_zero, List.set_cons_succ]
            refine wpAnyH_ready (rs := [19]) (by kernel_rfl) (by simp) ?_
            refine AllReadyH.cons rfl (fun K hK => ?_) AllReadyH.nil
            go_simp
            refine hK.out _ _ (HSX.out _ HB7.out) (fun hHd => ?_)
            clear hK K
            try simp only [Act.put, List.getElem_toArray, List.getElem_cons_succ, List.getElem_cons_zero, List.setIfInBounds_toArray, List.set_cons_zero, List.set_cons_succ]
            refine wpAnyH_done (by kernel_rfl) ?_ _
            go_wp2
            go_roundg (S.length - (i + 1))
            case measure => omega
            case rel => exact ⟨i + 1, _, _, by omega, rfl, by go_num, HF7.out⟩
          · go_simp
            refine hK.out _ _ (HSX.out _ HB5.out) (fun hHd => ?_)
            clear hK K
            try simp only [Act.put, List.getElem_toArray, List.getElem_cons_succ, List.getElem_cons_zero, List.setIfInBounds_toArray, List.set_cons_zero, List.set_cons_succ]
            refine wpAnyH_ready (rs := [1]) (by kernel_rfl) (by simp) ?_
            refine AllReadyH.cons rfl (fun K hK => ?_) AllReadyH.nil
            go_simp
            refine hK.out _ _ (HSX.out _ HB5.out) (fun hHd => ?_)
            clear hK K
            try simp only [Act.put, List.getElem_toArray, List.getElem_cons_succ, List.getElem_cons_zero, List.setIfInBounds_toArray, List.set_cons_zero, List.set_cons_succ]
            refine wpAnyH_ready (rs := [17]) (by kernel_rfl) (by simp) ?_
            refine AllReadyH.cons rfl (fun K hK => ?_) AllReadyH.nil
            rw [if_pos (by rfl)]
            refine wp_append_run (.tmp 20) (.tmp 35) 27 rfl _ _ (.slice a7 (R.length + 1) c7) w6 rfl rfl hr6 ?_
            refine hK.out _ _ (HSX.out _ HB6.out) (fun hHd => ?_)
            clear hK K
            try simp only [Act.put, List.getElem_toArray, List.getElem_cons_succ, List.getElem_cons_zero, List.setIfInBounds_toArray, List.set_cons_zero, List.set_cons_succ]
            refine wpAnyH_take (i := 18) (v := .pointer (some ⟨B, 5, none⟩)) rfl (by kernel_rfl) (by kernel_rfl) (by kernel_rfl) (fun _ _ _ h => h) (Or.inl ⟨by rfl, ?hyy⟩) (by assumption) ?_
            case hyy => (intro w' hSw; (try dsimp only at hSw); go_simp)
            try simp only [Act.put, List.getElem_toArray, List.getElem_cons_succ, List.getElem_cons_zero, List.setIfInBounds_toArray, List.set_cons_zero, List.set_cons_succ]
            refine wpAnyH_ready (rs := [19]) (by kernel_rfl) (by simp) ?_
            refine AllReadyH.cons rfl (fun K hK => ?_) AllReadyH.nil
            go_simp
            refine hK.out _ _ (HSX.out _ HB7.out) (fun hHd => ?_)
            clear hK K
            try simp only [Act.put, List.getElem_toArray, List.getElem_cons_succ, List.getElem_cons_zero, List.setIfInBounds_toArray, List.set_cons_zero, List.set_cons_succ]
            refine wpAnyH_done (by kernel_rfl) ?_ _
            go_wp2
            go_roundg (S.length - (i + 1))
            case measure => omega
            case rel => exact ⟨i + 1, _, _, by omega, rfl, by go_num, HF7.out⟩
      · have i1 : ¬ (i : Int) < (S.length : Int) := by omega
        obtain rfl : i = S.length := by omega
        obtain ⟨t9, u9, rfl, hsr⟩ := HI.out.1.srowE HL.out.2.2.2.2
        rw [List.take_length] at hsr
        obtain ⟨⟨f0, f1, f2, f3, f4, f5⟩, ff⟩ := HW0.out.2.1.kept HI.out.1.bel
        have ff0 := ff 0
        have ff1 := ff 1
        have ff2 := ff 2
        have ff3 := ff 3
        have ff4 := ff 4
        have ff5 := ff 5
        have d0 := HI.out.1.c0
        have d1 := HI.out.1.c1
        have d2 := HI.out.1.c2
        have d3 := HI.out.1.c3
        have d4 := HI.out.1.c4
        have d5 := HI.out.1.c5
        rw [List.take_length] at d5
        have zB : B < wr.heap.size := HI.out.1.lt
        have zF : w.heap.size + 1 < wr.heap.size := World.block_lt_of_cell? _ _ f0
        have zW : w.heap.size + 1 < W0.heap.size := by rw [HW0.out.2.2]; omega
        have zBne : B ≠ w.heap.size + 1 := by have := HL.out.2.2.2.2; omega
        have HSR : Hid (SRowE wr W0.heap.size t9 S) := hsr
        have HRX : Hid (RowX wr W0.heap.size B a' zs ∧ RowX wr W0.heap.size B b' ks ∧ MapX wr W0.heap.size B mn M ma ∧ Below w.heap.size w wr) := ⟨HL.out.1.grown HI.out.2.1, HL.out.2.1.grown HI.out.2.1, HL.out.2.2.1.grown HI.out.2.1, bl_via HW0.out.1 HI.out.1.bel⟩
        clear ff hsr
        go_wp2
        refine bodyPost_ret (v := .agg #[.int .i64 W, .int .i64 H, .slice a' zl ca', .slice b' n cb', .slice ma mn mc', .slice t9 S.length u9]) (by simp [results, Tryz.results9, go_sem, *]) rfl ⟨a', ca', b', cb', ma, mc', t9, u9, rfl, RowX.row (base := W0.heap.size) (B := B) ?_, RowX.row (base := W0.heap.size) (B := B) ?_, fun h0 => ?_, SRowE.row (base := W0.heap.size) ?_, ?_⟩
        · with_reducible repeat' (first | exact HRX.out.1 | refine RowX.set ?_ ?_)
          all_goals exact zW
        · with_reducible repeat' (first | exact HRX.out.2.1 | refine RowX.set ?_ ?_)
          all_goals exact zW
        · have h9 : MapX (set6x wr (w.heap.size + 1) (.int .i64 W) (.int .i64 H) (.slice a' zl ca') (.slice b' n cb') (.slice ma mn mc') (.slice t9 S.length u9)) W0.heap.size B mn M ma := by
            unfold set6x
            with_reducible repeat' (first | exact HRX.out.2.2.1 | refine MapX.set ?_ ?_)
            all_goals exact zW
          obtain ⟨g, e, hm, _⟩ := h9 h0
          exact ⟨g, e, hm⟩
        · with_reducible repeat' (first | exact HSR.out | refine SRowE.set ?_ ?_)
          all_goals exact zW
        · with_reducible repeat' (first | exact HRX.out.2.2.2 | refine bl_set ?_ ?_)
          all_goals (dsimp only; omega)
end Go.Proofs.YtnpboeodhpenmaaGreatDoor
