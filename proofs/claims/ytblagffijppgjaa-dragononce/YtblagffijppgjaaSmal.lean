/- Rows that are written; ints, sameInts, equal, slices.Equal. -/
import Derived.Test.YtblagffijppgjaaWays
import Derived.Deep.AppendLies
namespace Go.Proofs.Ytblagffijppgjaa
open Go.RowKit

theorem bl_grown_none {w v : World} (h : w.grownBy v none) : Below w.heap.size w v := (bl_refl w).grown h (Nat.le_refl _) (fun k hk => by cases hk)
theorem add_at (g j : Nat) : (⟨g, 0, none⟩ : Addr).add j = ⟨g, j, none⟩ := by
  unfold Addr.add
  split <;> simp_all
theorem gt_set {H : List Int} {k : Nat} (hk : k < H.length) (v : Int) (j : Nat) : gt (H.set k v) j = if j = k then v else gt H j := by
  unfold gt
  rw [List.getD_eq_getElem?_getD, List.getD_eq_getElem?_getD, List.getElem?_set]
  by_cases e : k = j
  · subst e
    simp [hk]
  · simp [e, Ne.symm e]
/-- Heights in memory, to be written. -/
def HR (w : World) (g n : Nat) (H : List Int) : Prop := H.length = n ∧ ∀ i, i < n → w.cell? ⟨g, i, none⟩ = some (.int .i64 (gt H i)) ∧ w.frozen? ⟨g, i, none⟩ = false
/-- Bools in memory, to be written. -/
def BR (w : World) (g m : Nat) (O : Nat → Bool) : Prop := ∀ i, i < m → w.cell? ⟨g, i, none⟩ = some (.bool (O i)) ∧ w.frozen? ⟨g, i, none⟩ = false
theorem HR.grown {w w' : World} {g n : Nat} {H : List Int} {row : Option Nat} (h : HR w g n H) (hg : w.grownBy w' row) (hne : some g ≠ row) : HR w' g n H := ⟨h.1, fun i hi =>
  ⟨hg.cell (h.2 i hi).1 hne, (World.frozen?_of_block (a := ⟨g, i, none⟩) (hg.block g (World.block_lt_of_cell? _ _ (h.2 i hi).1) hne)).trans (h.2 i hi).2⟩⟩
theorem BR.grown {w w' : World} {g m : Nat} {O : Nat → Bool} {row : Option Nat} (h : BR w g m O) (hg : w.grownBy w' row) (hne : some g ≠ row) : BR w' g m O := fun i hi =>
  ⟨hg.cell (h i hi).1 hne, (World.frozen?_of_block (a := ⟨g, i, none⟩) (hg.block g (World.block_lt_of_cell? _ _ (h i hi).1) hne)).trans (h i hi).2⟩
theorem HR.kept {w w' : World} {g n : Nat} {H : List Int} (h : HR w g n H) (hb : Below w.heap.size w w') : HR w' g n H := h.grown (bl_grown hb) (by simp)
theorem BR.kept {w w' : World} {g m : Nat} {O : Nat → Bool} (h : BR w g m O) (hb : Below w.heap.size w w') : BR w' g m O := h.grown (bl_grown hb) (by simp)
theorem HR.rw {w : World} {g n : Nat} {H : List Int} (h : HR w g n H) : Rw w g H := fun i hi => (h.2 i (by have := h.1; omega)).1
theorem HR.set {w : World} {g n : Nat} {H : List Int} (h : HR w g n H) {k : Nat} (v : Int) (hk : k < n) : HR (w.setCell ⟨g, k, none⟩ (.int .i64 v)) g n (H.set k v) := by
  refine ⟨by rw [List.length_set]; exact h.1, fun j hj => ⟨?_, by rw [World.frozen?_setCell]; exact (h.2 j hj).2⟩⟩
  rw [gt_set (by have := h.1; omega)]
  by_cases e : j = k
  · subst e
    rw [World.cell?_setCell_same _ _ _ (h.2 j hj).1]
    simp
  · rw [World.cell?_setCell_other _ _ _ _ (by simp <;> omega)]
    rw [(h.2 j hj).1]
    simp [e]
theorem BR.set {w : World} {g m : Nat} {O : Nat → Bool} (h : BR w g m O) {k : Nat} (v : Bool) : BR (w.setCell ⟨g, k, none⟩ (.bool v)) g m (fun j => if j = k then v else O j) := fun j hj => by
  refine ⟨?_, by rw [World.frozen?_setCell]; exact (h j hj).2⟩
  by_cases e : j = k
  · subst e
    rw [World.cell?_setCell_same _ _ _ (h j hj).1]
    simp
  · rw [World.cell?_setCell_other _ _ _ _ (by simp <;> omega)]
    rw [(h j hj).1]
    simp [e]
theorem bl_set {w v : World} {p : Addr} {u : Value} (h : Below w.heap.size w v) (hp : w.heap.size ≤ p.block) : Below w.heap.size w (v.setCell p u) := h.setCell hp u
theorem inf4 : (Try.prog.info? 4).map (fun i => (i.zero, i.size, i.bytes)) = some (some (.bool false), 1, 1) := by kernel_rfl
/-- Rows that 'make' made. -/
theorem made_cells {w : World} {base e g n : Nat} {z : Value} (h : w.ownsRow base e 1 (.slice (some ⟨g, 0, none⟩) n n) n (madeCells #[z] n).toList) : ∀ i, i < n → w.cell? ⟨g, i, none⟩ = some z ∧ w.frozen? ⟨g, i, none⟩ = false := fun i hi => by
  have hc := h.cellAt i (by omega)
  rw [toList_madeCells_one] at hc
  refine ⟨by rw [hc]; simp [hi], ?_⟩
  rcases h.2 with ⟨h1, _⟩ | ⟨g', cap, cur, h1, _, h3, _⟩
  · cases h1
  · cases h1
    simp [World.frozen?, h3]
theorem gt_rep (n i : Nat) (h : i < n) : gt (List.replicate n 0) i = 0 := by simp [gt, h]
theorem run_append_nothing {P : Program} (w : World) (t ty e : TypeId) (i : TypeInfo) (ht : P.underlying t = some (.slice e)) (hi : P.info? e = some i) (ao : Option Addr) (c : Nat) :
    (Builtin.append_ #[t, t] ty #[.slice none 0 0, .slice ao 0 c]).run P w = .ok (.slice none 0 0) w := by
  cases ao <;> simp [Builtin.append_, run_underlying ht, run_sizeOf w hi, Builtin.lenOf, Builtin.firstCells, loadCells, loadCellsFrom]
theorem wpList_append_nothing {P : Program} (w : World) {ops : Array Oper} {rest : List Oper} {o : Oper} {a : Act} {Q : Exit → Act → World → Prop} (hgd : o.guard = none) (s x : Operand) (t : TypeId)
    (ho : o.op = .call { callee := .builtin .append, args := #[s, x], argTypes := #[t, t] })
    (e : TypeId) (i : TypeInfo) (ht : P.underlying t = some (.slice e)) (hi : P.info? e = some i) (ao : Option Addr) (c : Nat)
    (hs : a.eval s = .slice none 0 0) (hx : a.eval x = .slice ao 0 c)
    (h : wpList P ops Q rest (a.put o.dst (.slice none 0 0)) w) : wpList P ops Q (o :: rest) a w := by
  refine wpList_plain hgd fun K hK => ?_
  have hrun := run_append_nothing (P := P) w t o.type e i ht hi ao c
  unfold Oper.wp
  simp [execOp, ho, resolve, invoke, builtin, hs, hx, hrun, Result.andThen]
  exact hK _ _ h
theorem row_cells {w : World} {g : Nat} {l : List Int} (h : Rw w g l) : ∀ j u, (rowI l)[j]? = some u → w.cell? ((⟨g, 0, none⟩ : Addr).add j) = some u := fun j u hu => by
  have hj : j < l.length := by
    rcases Nat.lt_or_ge j l.length with h | h
    · exact h
    · rw [List.getElem?_eq_none (by simpa [rowI] using h)] at hu
      cases hu
  rw [add_at, h j hj, gt_lt hj]
  simp [rowI, hj] at hu
  rw [hu]
theorem rowI_one (l : List Int) : ∀ u ∈ rowI l, u.oneCell' = true := by
  intro u hu
  obtain ⟨z, _, rfl⟩ := List.mem_map.1 hu
  rfl
theorem own_rw {w : World} {base e g n cap : Nat} {l : List Int} (h : w.ownsRow base e 1 (.slice (some ⟨g, 0, none⟩) n cap) n (rowI l)) : Rw w g l := fun i hi => by
  have := h.cells (g := g) rfl i (.int .i64 l[i]) (by simp [rowI, hi])
  rw [add_at] at this
  rw [this, gt_lt hi]
theorem own_cap {w : World} {base e g n cap : Nat} {xs : List Value} (h : w.ownsRow base e 1 (.slice (some ⟨g, 0, none⟩) n cap) n xs) : n ≤ cap := by
  rcases h.2 with ⟨h1, _⟩ | ⟨g', cap', cur, h1, h2, h3, h4, _⟩
  · cases h1
  · cases h1
    exact h4
set_option maxRecDepth 100000 in
theorem ints_any (v : Value) (l : List Int) (w : World) (hv : Sg w v l) (hl : l.length ≤ 17592186044416) :
    Calls Try.prog 8 #[v] w fun e w' => ∃ u, e = .returned u ∧ Sl w' u l ∧ Below w.heap.size w w' := by
  obtain ⟨a, c, rfl, hR⟩ := hv
  obtain ⟨i3, hI⟩ := info_parts inf3
  have HI : Hid (Try.prog.info? 3 = some i3 ∧ i3.zero = some (.int .i64 0) ∧ i3.size = 1 ∧ i3.bytes = 8) := hI
  clear hI
  by_cases h0 : l.length = 0
  · have e0 : l = [] := List.length_eq_zero_iff.1 h0
    subst e0
    clear hR h0 hl
    rw [show ([] : List Int).length = 0 from rfl]
    go_enter Try.func8, Try.ntmps8
    go_wp2_with (at_builtin; refine wpList_append_nothing _ rfl (.const (.slice none 0 0)) (.tmp 3) 22 rfl 3 i3 Try.underlying22 HI.out.1 a c rfl rfl ?_)
    go_ret
    exact ⟨_, rfl, Or.inl ⟨rfl, rfl⟩, bl_refl _⟩
  · obtain ⟨g, off, rfl, _⟩ := hR 0 (by omega)
    have HC : Hid (∀ j u, (rowI l)[j]? = some u → w.cell? ((⟨g, off, none⟩ : Addr).add j) = some u) := fun j u hu => by
      have hj : j < l.length := by
        rcases Nat.lt_or_ge j l.length with h | h
        · exact h
        · rw [List.getElem?_eq_none (by simpa [rowI] using h)] at hu
          cases hu
      obtain ⟨g', off', e', h'⟩ := hR j hj
      cases e'
      rw [show (⟨g, off, none⟩ : Addr).add j = ⟨g, off + j, none⟩ from by simp [Addr.add], h', gt_lt hj]
      simp [rowI, hj] at hu
      rw [hu]
    clear hR
    go_enter Try.func8, Try.ntmps8
    go_wp2_with (at_builtin; refine wpList_append_grows _ rfl (.const (.slice none 0 0)) (.tmp 3) 22 rfl 3 i3 (.int .i64 0) 1 8 Try.underlying22 HI.out.1 HI.out.2.1 HI.out.2.2.1 HI.out.2.2.2 rfl (by decide) none 0 0 [] rfl (fun _ => ⟨rfl, rfl⟩) rfl (by intro _ h; simp at h) ⟨g, off, none⟩ l.length c (rowI l) rfl (by simp [rowI]) (by intro j u hu; exact HC.out j u hu) (by intro u hu; obtain ⟨z, _, rfl⟩ := List.mem_map.1 hu; rfl) (by omega) (by unfold maxLen; omega) (by omega) ?grow)
    case grow =>
      intro v' w3 hown hgrow
      have HX : Hid (Sl w3 v' l ∧ Below w.heap.size w w3) := by
        refine ⟨own_sl (n := l.length) (base := w.heap.size) (e := 3) ?_ rfl, (bl_refl w).grown hgrow (Nat.le_refl _) (fun k hk => by cases hk)⟩
        simpa using hown
      clear hown hgrow
      go_wp2
      go_ret
      exact ⟨v', rfl, HX.out.1, HX.out.2⟩

set_option maxRecDepth 100000 in
set_option maxHeartbeats 800000 in
theorem same_any (v u : Value) (l m : List Int) (w : World) (hv : Sg w v l) (hu : Sg w u m) (hl : l.length ≤ 17592186044416) (_hm : m.length ≤ 17592186044416) :
    Calls Try.prog 12 #[v, u] w fun e w' => e = .returned (.bool (l == m)) ∧ Below w.heap.size w w' := by
  obtain ⟨a, c, rfl, hR⟩ := hv
  obtain ⟨b, d, rfl, hS⟩ := hu
  have HR : Hid (∀ i, i < l.length → ∃ g off, a = some ⟨g, off, none⟩ ∧ w.cell? ⟨g, off + i, none⟩ = some (.int .i64 (gt l i))) := hR
  have HS : Hid (∀ i, i < m.length → ∃ g off, b = some ⟨g, off, none⟩ ∧ w.cell? ⟨g, off + i, none⟩ = some (.int .i64 (gt m i))) := hS
  obtain ⟨cb, hcb⟩ : ∃ b, b = (l == m) := ⟨_, rfl⟩
  have HC : Hid (cb = (l == m)) := hcb
  rw [← hcb]
  clear hR hS hcb
  by_cases q : l.length = m.length
  · have qb : ((l.length : Int) != (m.length : Int)) = false := by rw [q]; simp
    go_enter Try.func12, Try.ntmps12
    go_wp2
    clear qb
    go_loopg [5] l.length (fun gk s5 wx => ∃ i : Nat, i ≤ l.length ∧ gk = l.length - i ∧ s5 = .int .i64 (i : Int) ∧ Below w.heap.size w wx ∧ ∀ k, k < i → gt l k = gt m k)
    case atStart => exact ⟨0, by omega, rfl, rfl, bl_refl _, fun k hk => by omega⟩
    case round =>
      obtain ⟨i, hi, rfl, rfl, hB, hno⟩ := hrel
      have HB : Hid (Below w.heap.size w wr ∧ ∀ k, k < i → gt l k = gt m k) := ⟨hB, hno⟩
      clear hB hno
      by_cases h1 : i < l.length
      · have i1 : (i : Int) < (l.length : Int) := by omega
        have i2 : (i : Int) < (m.length : Int) := by omega
        have i0 : (0 : Int) ≤ (i : Int) := by omega
        obtain ⟨g, off, rfl, c0⟩ := HR.out i h1
        replace c0 := cl_kept HB.out.1 c0
        obtain ⟨g2, off2, rfl, c2⟩ := HS.out i (by omega)
        replace c2 := cl_kept HB.out.1 c2
        have zg : g < wr.heap.size := World.block_lt_of_cell? _ _ c0
        have zg2 : g2 < wr.heap.size := World.block_lt_of_cell? _ _ c2
        obtain ⟨vi, hvi⟩ : ∃ v, v = gt l i := ⟨_, rfl⟩
        obtain ⟨ui, hui⟩ : ∃ v, v = gt m i := ⟨_, rfl⟩
        rw [← hvi] at c0
        rw [← hui] at c2
        have HVI : Hid (vi = gt l i ∧ ui = gt m i) := ⟨hvi, hui⟩
        clear hvi hui
        have kc := Kin.cells wr
        have kn : Nonempty (Kin wr) := ⟨⟨wr, bl_refl _⟩⟩
        cases qv : (vi != ui)
        · have HN : Hid (∀ k, k < i + 1 → gt l k = gt m k) := fun k hk => by
            by_cases hki : k < i
            · exact HB.out.2 k hki
            · have : k = i := by omega
              rw [this, ← HVI.out.1, ← HVI.out.2]
              simpa using qv
          go_wp2
          refine wp_region_kin (by kernel_rfl) (by kernel_rfl) ?_
          repeat (go_big_quiet_step (fail))
          refine wpQuiet_nil ?_
          intro wq hw'
          obtain ⟨nq, hw''⟩ := hw'
          have hq : Below wr.heap.size wr wq := hw'' ▸ nq.h
          clear hw'' nq kc kn
          go_wp2
          go_roundg (l.length - (i + 1))
          case measure => omega
          case rel => exact ⟨i + 1, by omega, rfl, by go_num, bl_via HB.out.1 hq, HN.out⟩
        · have HE : Hid (cb = false) := by
            have : cb = false := by
              rw [HC.out, beq_eq_false_iff_ne]
              intro e
              have h2 := HVI.out
              rw [e] at h2
              rw [h2.1, h2.2] at qv
              simp at qv
            exact this
          go_wp2
          refine wp_region_kin (by kernel_rfl) (by kernel_rfl) ?_
          repeat (go_big_quiet_step (fail))
          refine wpQuiet_nil ?_
          intro wq hw'
          obtain ⟨nq, hw''⟩ := hw'
          have hq : Below wr.heap.size wr wq := hw'' ▸ nq.h
          clear hw'' nq kc kn
          go_wp2
          go_ret
          exact ⟨ret_bool HE.out.symm, bl_via HB.out.1 hq⟩
      · have i1 : ¬ (i : Int) < (l.length : Int) := by omega
        obtain rfl : i = l.length := by omega
        have HE : Hid (cb = true) := by
          have : cb = true := by
            rw [HC.out, beq_iff_eq]
            refine List.ext_getElem q (fun k h1 h2 => ?_)
            have := HB.out.2 k h1
            rwa [gt_lt h1, gt_lt h2] at this
          exact this
        go_wp2
        go_ret
        exact ⟨ret_bool HE.out.symm, HB.out.1⟩
  · have qb : ((l.length : Int) != (m.length : Int)) = true := by
      simp only [bne_iff_ne, ne_eq]
      omega
    have HE : Hid (cb = false) := by
      have : cb = false := by
        rw [HC.out, beq_eq_false_iff_ne]
        intro e
        exact q (by rw [e])
      exact this
    go_enter Try.func12, Try.ntmps12
    go_wp2
    go_ret
    exact ⟨ret_bool HE.out.symm, bl_refl _⟩
set_option maxRecDepth 100000 in
set_option maxHeartbeats 800000 in
theorem equals_any (v u : Value) (l m : List Int) (w : World) (hv : Sg w v l) (hu : Sg w u m) (hl : l.length ≤ 17592186044416) (_hm : m.length ≤ 17592186044416) :
    Calls Try.prog 17 #[v, u] w fun e w' => e = .returned (.bool (l == m)) ∧ Below w.heap.size w w' := by
  obtain ⟨a, c, rfl, hR⟩ := hv
  obtain ⟨b, d, rfl, hS⟩ := hu
  have HR : Hid (∀ i, i < l.length → ∃ g off, a = some ⟨g, off, none⟩ ∧ w.cell? ⟨g, off + i, none⟩ = some (.int .i64 (gt l i))) := hR
  have HS : Hid (∀ i, i < m.length → ∃ g off, b = some ⟨g, off, none⟩ ∧ w.cell? ⟨g, off + i, none⟩ = some (.int .i64 (gt m i))) := hS
  obtain ⟨cb, hcb⟩ : ∃ b, b = (l == m) := ⟨_, rfl⟩
  have HC : Hid (cb = (l == m)) := hcb
  rw [← hcb]
  clear hR hS hcb
  by_cases q : l.length = m.length
  · have qb : ((l.length : Int) != (m.length : Int)) = false := by rw [q]; simp
    go_enter Try.func17, Try.ntmps17
    go_wp2
    clear qb
    go_loopg [5] l.length (fun gk s5 wx => ∃ i : Nat, i ≤ l.length ∧ gk = l.length - i ∧ s5 = .int .i64 (i : Int) ∧ Below w.heap.size w wx ∧ ∀ k, k < i → gt l k = gt m k)
    case atStart => exact ⟨0, by omega, rfl, rfl, bl_refl _, fun k hk => by omega⟩
    case round =>
      obtain ⟨i, hi, rfl, rfl, hB, hno⟩ := hrel
      have HB : Hid (Below w.heap.size w wr ∧ ∀ k, k < i → gt l k = gt m k) := ⟨hB, hno⟩
      clear hB hno
      by_cases h1 : i < l.length
      · have i1 : (i : Int) < (l.length : Int) := by omega
        have i2 : (i : Int) < (m.length : Int) := by omega
        have i0 : (0 : Int) ≤ (i : Int) := by omega
        obtain ⟨g, off, rfl, c0⟩ := HR.out i h1
        replace c0 := cl_kept HB.out.1 c0
        obtain ⟨g2, off2, rfl, c2⟩ := HS.out i (by omega)
        replace c2 := cl_kept HB.out.1 c2
        have zg : g < wr.heap.size := World.block_lt_of_cell? _ _ c0
        have zg2 : g2 < wr.heap.size := World.block_lt_of_cell? _ _ c2
        obtain ⟨vi, hvi⟩ : ∃ v, v = gt l i := ⟨_, rfl⟩
        obtain ⟨ui, hui⟩ : ∃ v, v = gt m i := ⟨_, rfl⟩
        rw [← hvi] at c0
        rw [← hui] at c2
        have HVI : Hid (vi = gt l i ∧ ui = gt m i) := ⟨hvi, hui⟩
        clear hvi hui
        have kc := Kin.cells wr
        have kn : Nonempty (Kin wr) := ⟨⟨wr, bl_refl _⟩⟩
        cases qv : (vi != ui)
        · have HN : Hid (∀ k, k < i + 1 → gt l k = gt m k) := fun k hk => by
            by_cases hki : k < i
            · exact HB.out.2 k hki
            · have : k = i := by omega
              rw [this, ← HVI.out.1, ← HVI.out.2]
              simpa using qv
          go_wp2
          refine wp_region_kin (by kernel_rfl) (by kernel_rfl) ?_
          repeat (go_big_quiet_step (fail))
          refine wpQuiet_nil ?_
          intro wq hw'
          obtain ⟨nq, hw''⟩ := hw'
          have hq : Below wr.heap.size wr wq := hw'' ▸ nq.h
          clear hw'' nq kc kn
          go_wp2
          go_roundg (l.length - (i + 1))
          case measure => omega
          case rel => exact ⟨i + 1, by omega, rfl, by go_num, bl_via HB.out.1 hq, HN.out⟩
        · have HE : Hid (cb = false) := by
            have : cb = false := by
              rw [HC.out, beq_eq_false_iff_ne]
              intro e
              have h2 := HVI.out
              rw [e] at h2
              rw [h2.1, h2.2] at qv
              simp at qv
            exact this
          go_wp2
          refine wp_region_kin (by kernel_rfl) (by kernel_rfl) ?_
          repeat (go_big_quiet_step (fail))
          refine wpQuiet_nil ?_
          intro wq hw'
          obtain ⟨nq, hw''⟩ := hw'
          have hq : Below wr.heap.size wr wq := hw'' ▸ nq.h
          clear hw'' nq kc kn
          go_wp2
          go_ret
          exact ⟨ret_bool HE.out.symm, bl_via HB.out.1 hq⟩
      · have i1 : ¬ (i : Int) < (l.length : Int) := by omega
        obtain rfl : i = l.length := by omega
        have HE : Hid (cb = true) := by
          have : cb = true := by
            rw [HC.out, beq_iff_eq]
            refine List.ext_getElem q (fun k h1 h2 => ?_)
            have := HB.out.2 k h1
            rwa [gt_lt h1, gt_lt h2] at this
          exact this
        go_wp2
        go_ret
        exact ⟨ret_bool HE.out.symm, HB.out.1⟩
  · have qb : ((l.length : Int) != (m.length : Int)) = true := by
      simp only [bne_iff_ne, ne_eq]
      omega
    have HE : Hid (cb = false) := by
      have : cb = false := by
        rw [HC.out, beq_eq_false_iff_ne]
        intro e
        exact q (by rw [e])
      exact this
    go_enter Try.func17, Try.ntmps17
    go_wp2
    go_ret
    exact ⟨ret_bool HE.out.symm, bl_refl _⟩
set_option maxRecDepth 100000 in
set_option maxHeartbeats 800000 in
theorem equal_any (v u : Value) (l m : List Int) (w : World) (hv : Sg w v l) (hu : Sg w u m) (hl : l.length ≤ 17592186044416) (_hm : m.length ≤ 17592186044416) :
    Calls Try.prog 23 #[v, u] w fun e w' => e = .returned (.bool (l == m)) ∧ Below w.heap.size w w' := by
  obtain ⟨a, c, rfl, hR⟩ := hv
  obtain ⟨b, d, rfl, hS⟩ := hu
  have HR : Hid (∀ i, i < l.length → ∃ g off, a = some ⟨g, off, none⟩ ∧ w.cell? ⟨g, off + i, none⟩ = some (.int .i64 (gt l i))) := hR
  have HS : Hid (∀ i, i < m.length → ∃ g off, b = some ⟨g, off, none⟩ ∧ w.cell? ⟨g, off + i, none⟩ = some (.int .i64 (gt m i))) := hS
  obtain ⟨cb, hcb⟩ : ∃ b, b = (l == m) := ⟨_, rfl⟩
  have HC : Hid (cb = (l == m)) := hcb
  rw [← hcb]
  clear hR hS hcb
  by_cases q : l.length = m.length
  · have qb : ((l.length : Int) != (m.length : Int)) = false := by rw [q]; simp
    go_enter Try.func23, Try.ntmps23
    go_wp2
    clear qb
    go_loopg [13] l.length (fun gk s13 wx => ∃ i : Nat, i ≤ l.length ∧ gk = l.length - i ∧ s13 = .int .i64 (i : Int) ∧ Below w.heap.size w wx ∧ ∀ k, k < i → gt l k = gt m k)
    case atStart => exact ⟨0, by omega, rfl, rfl, bl_refl _, fun k hk => by omega⟩
    case round =>
      obtain ⟨i, hi, rfl, rfl, hB, hno⟩ := hrel
      have HB : Hid (Below w.heap.size w wr ∧ ∀ k, k < i → gt l k = gt m k) := ⟨hB, hno⟩
      clear hB hno
      by_cases h1 : i < l.length
      · have i1 : (i : Int) < (l.length : Int) := by omega
        have i2 : (i : Int) < (m.length : Int) := by omega
        have i0 : (0 : Int) ≤ (i : Int) := by omega
        obtain ⟨g, off, rfl, c0⟩ := HR.out i h1
        replace c0 := cl_kept HB.out.1 c0
        obtain ⟨g2, off2, rfl, c2⟩ := HS.out i (by omega)
        replace c2 := cl_kept HB.out.1 c2
        have zg : g < wr.heap.size := World.block_lt_of_cell? _ _ c0
        have zg2 : g2 < wr.heap.size := World.block_lt_of_cell? _ _ c2
        obtain ⟨vi, hvi⟩ : ∃ v, v = gt l i := ⟨_, rfl⟩
        obtain ⟨ui, hui⟩ : ∃ v, v = gt m i := ⟨_, rfl⟩
        rw [← hvi] at c0
        rw [← hui] at c2
        have HVI : Hid (vi = gt l i ∧ ui = gt m i) := ⟨hvi, hui⟩
        clear hvi hui
        have kc := Kin.cells wr
        have kn : Nonempty (Kin wr) := ⟨⟨wr, bl_refl _⟩⟩
        cases qv : (vi != ui)
        · have HN : Hid (∀ k, k < i + 1 → gt l k = gt m k) := fun k hk => by
            by_cases hki : k < i
            · exact HB.out.2 k hki
            · have : k = i := by omega
              rw [this, ← HVI.out.1, ← HVI.out.2]
              simpa using qv
          go_wp2
          refine wp_region_kin (by kernel_rfl) (by kernel_rfl) ?_
          repeat (go_big_quiet_step (fail))
          refine wpQuiet_nil ?_
          intro wq hw'
          obtain ⟨nq, hw''⟩ := hw'
          have hq : Below wr.heap.size wr wq := hw'' ▸ nq.h
          clear hw'' nq kc kn
          go_wp2
          go_roundg (l.length - (i + 1))
          case measure => omega
          case rel => exact ⟨i + 1, by omega, rfl, by go_num, bl_via HB.out.1 hq, HN.out⟩
        · have HE : Hid (cb = false) := by
            have : cb = false := by
              rw [HC.out, beq_eq_false_iff_ne]
              intro e
              have h2 := HVI.out
              rw [e] at h2
              rw [h2.1, h2.2] at qv
              simp at qv
            exact this
          go_wp2
          refine wp_region_kin (by kernel_rfl) (by kernel_rfl) ?_
          repeat (go_big_quiet_step (fail))
          refine wpQuiet_nil ?_
          intro wq hw'
          obtain ⟨nq, hw''⟩ := hw'
          have hq : Below wr.heap.size wr wq := hw'' ▸ nq.h
          clear hw'' nq kc kn
          go_wp2
          go_ret
          exact ⟨ret_bool HE.out.symm, bl_via HB.out.1 hq⟩
      · have i1 : ¬ (i : Int) < (l.length : Int) := by omega
        obtain rfl : i = l.length := by omega
        have HE : Hid (cb = true) := by
          have : cb = true := by
            rw [HC.out, beq_iff_eq]
            refine List.ext_getElem q (fun k h1 h2 => ?_)
            have := HB.out.2 k h1
            rwa [gt_lt h1, gt_lt h2] at this
          exact this
        go_wp2
        go_ret
        exact ⟨ret_bool HE.out.symm, HB.out.1⟩
  · have qb : ((l.length : Int) != (m.length : Int)) = true := by
      simp only [bne_iff_ne, ne_eq]
      omega
    have HE : Hid (cb = false) := by
      have : cb = false := by
        rw [HC.out, beq_eq_false_iff_ne]
        intro e
        exact q (by rw [e])
      exact this
    go_enter Try.func23, Try.ntmps23
    go_wp2
    go_ret
    exact ⟨ret_bool HE.out.symm, bl_refl _⟩
end Go.Proofs.Ytblagffijppgjaa
