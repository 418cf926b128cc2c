/- The cells of which something is seen. -/
import Derived.Test.YtnpboeodhpenmaaGreatDoorQlbw
import Derived.Test.YtnpboeodhpenmaaGreatDoorQlap
import Derived.Test.YtnpboeodhpenmaaGreatDoorQlaj
namespace Go.Proofs.YtnpboeodhpenmaaGreatDoor
open Go.RowKit Go.ChangeMaps

/-- What is seen of a cell: the sums of its triangles that are covered, and of those whose back is seen. -/
def shK (k : Int) : Int := if k = 0 then 1 else if k = 1 then 2 else if k = 2 then 4 else 8
def cvb (l : List Seen9) : Nat → Int × Int → Int × Int
  | 0, _ => (0, 0)
  | i + 1, p => if ((l.getD i snD).1.1, (l.getD i snD).1.2.1) = p then ((cvb l i p).1 + shK (l.getD i snD).1.2.2, (cvb l i p).2 + if (l.getD i snD).2.2 = true then shK (l.getD i snD).1.2.2 else 0) else cvb l i p
theorem shK_bd (k : Int) : 1 ≤ shK k ∧ shK k ≤ 8 := by
  unfold shK
  split
  · omega
  · split
    · omega
    · split <;> omega
theorem cvb_bd (l : List Seen9) (p : Int × Int) : ∀ i : Nat, (0 ≤ (cvb l i p).1 ∧ (cvb l i p).1 ≤ 8 * (i : Int)) ∧ (0 ≤ (cvb l i p).2 ∧ (cvb l i p).2 ≤ 8 * (i : Int))
  | 0 => by simp [cvb]
  | i + 1 => by
    have ih := cvb_bd l p i
    have hs := shK_bd (l.getD i snD).1.2.2
    unfold cvb
    split
    · dsimp only
      split <;> omega
    · omega
theorem zero160 (w : World) : (zeroValue 240).run Tryz.prog w = .ok (.agg #[.int .i64 0, .int .i64 0]) w := by kernel_rfl
def cvV (r : Int × Int) : Value := .agg #[.int .i64 r.1, .int .i64 r.2]
structure CI (W0 wx : World) (r : Nat) (l : List Seen9) (i : Nat) : Prop where
  em : ∃ ls c, Qm.EM wx r ls c ∧ Qm.Good ls c ∧ ∀ p, (Qm.lk ls p).getD (.agg #[.int .i64 0, .int .i64 0]) = cvV (cvb l i p)
  gr : W0.grownBy wx (some r)
theorem qem_grown {w w' : World} {r : Nat} {ls : List ((Int × Int) × Value × Nat)} {c : Nat} {row : Option Nat} (h : Qm.EM w r ls c) (hg : w.grownBy w' row) (hne : some r ≠ row) : Qm.EM w' r ls c := (hg.block r (Array.getElem?_eq_some_iff.1 h).1 hne).trans h
theorem CI.lt {W0 wx : World} {r i : Nat} {l : List Seen9} (h : CI W0 wx r l i) : r < wx.heap.size := by
  obtain ⟨⟨ls, c, h1, _⟩, _⟩ := h
  exact (Array.getElem?_eq_some_iff.1 h1).1
theorem CI.far {W0 wx wy : World} {r i : Nat} {l : List Seen9} {row : Option Nat} (h : CI W0 wx r l i) (hg : wx.grownBy wy row) (hr : ∀ j, row = some j → j ≠ r ∧ W0.heap.size ≤ j) : CI W0 wy r l i := by
  obtain ⟨⟨ls, c, h1, h2, h3⟩, h4⟩ := h
  exact ⟨⟨ls, c, qem_grown h1 hg (fun e => (hr r e.symm).1 rfl), h2, h3⟩, h4.andThen hg (fun j hj => Or.inl (hr j hj).2)⟩
theorem CI.still {W0 wx wy : World} {r i : Nat} {l : List Seen9} (h : CI W0 wx r l i) (hb : Below wx.heap.size wx wy) : CI W0 wy r l i := h.far (bl_grown hb) (fun j hj => by cases hj)
theorem CI.look {W0 wx : World} {r i : Nat} {l : List Seen9} (h : CI W0 wx r l i) (x y : Int) : (Instr.lookup 230 (.map (some r)) (.agg #[.int .i64 x, .int .i64 y]) false).run Tryz.prog wx = .ok (.agg #[.int .i64 (cvb l i (x, y)).1, .int .i64 (cvb l i (x, y)).2]) wx := by
  obtain ⟨⟨ls, c, h1, h2, h3⟩, h4⟩ := h
  have := Qm.lookup27 Tryz.underlying230 zero160 h1 h2 (x, y)
  rw [h3 (x, y)] at this
  exact this
theorem CI.next {W0 wx : World} {r i : Nat} {l : List Seen9} (h : CI W0 wx r l i) {X Y : Int} {u v : Int} (e : ((l.getD i snD).1.1, (l.getD i snD).1.2.1) = (X, Y)) (hu : u = (cvb l (i + 1) (X, Y)).1) (hv : v = (cvb l (i + 1) (X, Y)).2) :
    ∃ W', (Instr.mapUpdate 230 (.map (some r)) (.agg #[.int .i64 X, .int .i64 Y]) (.agg #[.int .i64 u, .int .i64 v])).run Tryz.prog wx = .ok () W' ∧ CI W0 W' r l (i + 1) := by
  obtain ⟨⟨ls, c, h1, h2, h3⟩, h4⟩ := h
  obtain ⟨ls', c', r1, r2, r3, _⟩ := Qm.update27 Tryz.underlying230 h1 h2 (X, Y) (.agg #[.int .i64 u, .int .i64 v])
  have hb := h1
  unfold Qm.EM at hb
  have hg := Qm.grown_set hb (.map (ls'.map Qm.toE).toArray c')
  refine ⟨_, r1, ⟨⟨ls', c', heap_setBlock_same hb _, r2, fun p => ?_⟩, h4.trans hg⟩⟩
  rw [r3 p]
  by_cases e1 : p = (X, Y)
  · rw [if_pos e1, e1]
    unfold cvV
    rw [← hu, ← hv]
    rfl
  · rw [if_neg e1, h3 p]
    have : cvb l (i + 1) p = cvb l i p := by
      show (if _ then _ else _) = _
      rw [e, if_neg (fun q => e1 q.symm)]
    rw [this]
theorem cs_far {w : World} {g o : Nat} {a : Addr} {v u : Value} (h : w.cell? a = some v) (hne : g ≠ a.block) : (w.setCell ⟨g, o, none⟩ u).cell? a = some v := (World.cell?_setCell_far _ _ _ _ hne).trans h
/-- What cellsOf answers: a map; what a look-up in it tells. -/
def ClTo (l : List Seen9) (w w' : World) (e : Ending) : Prop := ∃ r, e = .returned (.map (some r)) ∧ (∀ (wx : World) (x y : Int), Below w'.heap.size w' wx → (Instr.lookup 230 (.map (some r)) (.agg #[.int .i64 x, .int .i64 y]) false).run Tryz.prog wx = .ok (.agg #[.int .i64 (cvb l l.length (x, y)).1, .int .i64 (cvb l l.length (x, y)).2]) wx) ∧ Below w.heap.size w w'
set_option maxRecDepth 100000 in
set_option maxHeartbeats 12800000 in
theorem cellsOf_any (a : Option Addr) (cc n : Nat) (l : List Seen9) (w : World) (hl : SnRow w a l) (hn : n = l.length) (hn3 : n ≤ 300) (hk : ∀ s ∈ l, 0 ≤ s.1.2.2 ∧ s.1.2.2 ≤ 3) :
    Calls Tryz.prog 152 #[.slice a n cc] w fun e w' => ClTo l w w' e := by
  have HL : Hid (SnRow w a l ∧ n = l.length ∧ ∀ s ∈ l, 0 ≤ s.1.2.2 ∧ s.1.2.2 ≤ 3) := ⟨hl, hn, hk⟩
  clear hl hn hk
  have hmm := @run_makeMap Tryz.prog
  go_enter Tryz.func152, Tryz.ntmps152
  go_upto_region 2 with fail
  refine wp_named (fun W0 hW0 => ?_)
  have HW : Hid (Below w.heap.size w W0 ∧ CI W0 W0 w.heap.size l 0 ∧ W0.heap.size = w.heap.size + 1) := by
    refine ⟨by rw [hW0]; exact bl_alloc (bl_refl _), ⟨⟨[], 0, ?_, Qm.good_nil, fun p => by simp [Qm.lk, cvb, cvV]⟩, World.grownBy.refl _ _⟩, by rw [hW0]; simp⟩
    rw [hW0]
    exact Qm.em_made w
  clear hW0
  go_wp2
  go_loopg [11] n (fun gk s11 wx => ∃ i : Nat, i ≤ n ∧ gk = n - i ∧ s11 = .int .i64 (i : Int) ∧ CI W0 wx w.heap.size l i)
  case atStart => exact ⟨0, by omega, rfl, rfl, HW.out.2.1⟩
  case round =>
    obtain ⟨i, hi, rfl, rfl, hC⟩ := hrel
    have HC : Hid (CI W0 wr w.heap.size l i ∧ Below w.heap.size w wr) := ⟨hC, HW.out.1.grown hC.gr HW.out.1.size (fun k hk => by simp at hk; omega)⟩
    have zr : w.heap.size < wr.heap.size := hC.lt
    clear hC
    by_cases h1 : i < n
    · have i1 : (i : Int) < (n : Int) := by omega
      have i0 : (0 : Int) ≤ (i : Int) := by omega
      have hiL : i < l.length := by rw [← HL.out.2.1]; exact h1
      obtain ⟨g, e1, c0, c1, c2, c3, c4, c5, c6⟩ := (HL.out.1.kept HC.out.2) i hiL
      subst e1
      have hdi : l.getD i snD = l[i] := by rw [List.getD_eq_getElem?_getD, List.getElem?_eq_getElem hiL]; rfl
      have hkb := HL.out.2.2 _ (List.getElem_mem hiL)
      obtain ⟨⟨X, Y, K9⟩, ⟨x, y, k⟩, tb, hs⟩ : ∃ A B C, l[i] = (A, B, C) := ⟨_, _, _, rfl⟩
      rw [hs] at c0 c1 c2 c3 c4 c5 c6 hkb hdi
      dsimp only at c0 c1 c2 c3 c4 c5 c6 hkb
      have zg : g < wr.heap.size := World.block_lt_of_cell? _ _ c0
      obtain ⟨cv, hcv⟩ : ∃ q, q = (cvb l i (X, Y)).1 := ⟨_, rfl⟩
      obtain ⟨bk, hbk⟩ : ∃ q, q = (cvb l i (X, Y)).2 := ⟨_, rfl⟩
      have hbd := cvb_bd l (X, Y) i
      rw [← hcv, ← hbk] at hbd
      have hv1 : 0 ≤ cv := hbd.1.1
      have hv2 : cv ≤ 3000 := by have := hbd.1.2; omega
      have hv3 : 0 ≤ bk := hbd.2.1
      have hv4 : bk ≤ 3000 := by have := hbd.2.2; omega
      have hlk := (HC.out.1.still (bl_alloc (o := .cells #[.int .i64 X, .int .i64 Y] 242) (bl_alloc (o := .cells #[.int .i64 X, .int .i64 Y, .int .i64 K9, .int .i64 x, .int .i64 y, .int .i64 k, .bool tb] 73) (bl_refl wr)))).look X Y
      rw [← hcv, ← hbk] at hlk
      have HN : Hid ((cvb l (i + 1) (X, Y)).1 = cv + shK K9 ∧ (cvb l (i + 1) (X, Y)).2 = bk + (if tb = true then shK K9 else 0) ∧ ((l.getD i snD).1.1, (l.getD i snD).1.2.1) = (X, Y)) := by
        have e9 : cvb l (i + 1) (X, Y) = (cv + shK K9, bk + if tb = true then shK K9 else 0) := by
          show (if _ then _ else _) = _
          rw [hdi]
          dsimp only
          rw [if_pos rfl, hcv, hbk]
        exact ⟨by rw [e9], by rw [e9], by rw [hdi]⟩
      clear hdi hs hiL hcv hbk hbd
      go_upto_region 7 with fail
      refine wp_named (fun W7 hW7 => ?_)
      have HB7 : Hid (Below wr.heap.size wr W7) := by
        rw [hW7]
        exact bl_alloc (bl_alloc (bl_alloc (bl_refl _)))
      have s2 : W7.cell? ⟨wr.heap.size, 2, none⟩ = some (.int .i64 K9) := by rw [hW7]; simp [go_sem]
      have s6 : W7.cell? ⟨wr.heap.size, 6, none⟩ = some (.bool tb) := by rw [hW7]; simp [go_sem]
      have p0 : W7.cell? ⟨wr.heap.size + 1, 0, none⟩ = some (.int .i64 X) := by rw [hW7]; simp [go_sem]
      have p1 : W7.cell? ⟨wr.heap.size + 1, 1, none⟩ = some (.int .i64 Y) := by rw [hW7]; simp [go_sem]
      have q0 : W7.cell? ⟨wr.heap.size + 1 + 1, 0, none⟩ = some (.int .i64 cv) := by rw [hW7]; simp [go_sem]
      have q1 : W7.cell? ⟨wr.heap.size + 1 + 1, 1, none⟩ = some (.int .i64 bk) := by rw [hW7]; simp [go_sem]
      have f0 : W7.frozen? ⟨wr.heap.size + 1 + 1, 0, none⟩ = false := by rw [hW7]; simp [go_sem]
      have f1 : W7.frozen? ⟨wr.heap.size + 1 + 1, 1, none⟩ = false := by rw [hW7]; simp [go_sem]
      have z5 : wr.heap.size < W7.heap.size := World.block_lt_of_cell? _ _ s2
      have z7 : wr.heap.size + 1 + 1 < W7.heap.size := World.block_lt_of_cell? _ _ q0
      clear hW7 hlk c0 c1 c2 c3 c4 c5 c6 zg
      have hk4 : K9 = 0 ∨ K9 = 1 ∨ K9 = 2 ∨ K9 = 3 := by omega
      rcases hk4 with rfl | rfl | rfl | rfl
      · have HN2 : Hid ((cvb l (i + 1) (X, Y)).1 = cv + 1 ∧ (cvb l (i + 1) (X, Y)).2 = bk + (if tb = true then 1 else 0) ∧ ((l.getD i snD).1.1, (l.getD i snD).1.2.1) = (X, Y)) := HN.out
        clear HN hkb
        refine wp_region_held_drew (S := fun w' => w'.cell? ⟨wr.heap.size, 2, none⟩ = some (.int .i64 0)) (by kernel_rfl) (dr_old s2) (fun hHeld => ?_)
        refine wpAnyH_take (i := 0) (v := .pointer (some ⟨wr.heap.size + 1 + 1, 0, none⟩)) rfl (by kernel_rfl) (by kernel_rfl) (by kernel_rfl) (fun _ _ _ h => h) (Or.inl ⟨by rfl, ?hyy⟩) (by assumption) ?_
        case hyy => (intro w' hSw; (try dsimp only at hSw); go_simp)
        try simp only [Act.put, List.getElem_toArray, List.getElem_cons_zero, List.setIfInBounds_toArray, List.set_cons_zero, List.set_cons_succ]
        refine wpAnyH_take (i := 2) (v := .pointer (some ⟨wr.heap.size, 0, none⟩)) rfl (by kernel_rfl) (by kernel_rfl) (by kernel_rfl) (fun _ _ _ h => h) (Or.inl ⟨by rfl, ?hyy⟩) (by assumption) ?_
        case hyy => (intro w' hSw; (try dsimp only at hSw); go_simp)
        try simp only [Act.put, List.getElem_toArray, List.getElem_cons_succ, List.getElem_cons_zero, List.setIfInBounds_toArray, List.set_cons_zero, List.set_cons_succ]
        refine wpAnyH_take (i := 3) (v := .pointer (some ⟨wr.heap.size, 2, none⟩)) rfl (by kernel_rfl) (by kernel_rfl) (by kernel_rfl) (fun _ _ _ h => h) (Or.inl ⟨by rfl, ?hyy⟩) (by assumption) ?_
        case hyy => (intro w' hSw; (try dsimp only at hSw); go_simp)
        try simp only [Act.put, List.getElem_toArray, List.getElem_cons_succ, List.getElem_cons_zero, List.setIfInBounds_toArray, List.set_cons_zero, List.set_cons_succ]
        refine wpAnyH_take (i := 4) (v := .int .i64 0) rfl (by kernel_rfl) (by kernel_rfl) (by kernel_rfl) (fun _ _ _ h => h) (Or.inl ⟨by rfl, ?hyy⟩) (by assumption) ?_
        case hyy => (intro w' hSw; (try dsimp only at hSw); go_simp)
        try simp only [Act.put, List.getElem_toArray, List.getElem_cons_succ, List.getElem_cons_zero, List.setIfInBounds_toArray, List.set_cons_zero, List.set_cons_succ]
        refine wpAnyH_take (i := 5) (v := .int .i64 1) rfl (by kernel_rfl) (by kernel_rfl) (by kernel_rfl) (fun _ _ _ h => h) (Or.inl ⟨by rfl, ?hyy⟩) (by assumption) ?_
        case hyy => (intro w' hSw; (try dsimp only at hSw); go_simp; exact IntWalk.i64_in _ ⟨by omega, by omega⟩)
        try simp only [Act.put, List.getElem_toArray, List.getElem_cons_succ, List.getElem_cons_zero, List.setIfInBounds_toArray, List.set_cons_zero, List.set_cons_succ]
        refine wpAnyH_ready (rs := [1]) (by kernel_rfl) (by simp) ?_
        refine AllReadyH.cons rfl (fun K hK => ?_) AllReadyH.nil
        go_simp
        refine hK.out _ _ (dr_old s2) (fun hHd => ?_)
        clear hK K
        try simp only [Act.put, List.getElem_toArray, List.getElem_cons_succ, List.getElem_cons_zero, List.setIfInBounds_toArray, List.set_cons_zero, List.set_cons_succ]
        refine wpAnyH_take (i := 6) (v := .int .i64 (cv + 1)) rfl (by kernel_rfl) (by kernel_rfl) (by kernel_rfl) (fun _ _ _ h => h) (Or.inl ⟨by rfl, ?hyy⟩) (by assumption) ?_
        case hyy => (intro w' hSw; (try dsimp only at hSw); go_simp; exact IntWalk.i64_in _ ⟨by omega, by omega⟩)
        try simp only [Act.put, List.getElem_toArray, List.getElem_cons_succ, List.getElem_cons_zero, List.setIfInBounds_toArray, List.set_cons_zero, List.set_cons_succ]
        refine wpAnyH_take (i := 7) (v := .pointer (some ⟨wr.heap.size + 1 + 1, 0, none⟩)) rfl (by kernel_rfl) (by kernel_rfl) (by kernel_rfl) (fun _ _ _ h => h) (Or.inl ⟨by rfl, ?hyy⟩) (by assumption) ?_
        case hyy => (intro w' hSw; (try dsimp only at hSw); go_simp)
        try simp only [Act.put, List.getElem_toArray, List.getElem_cons_succ, List.getElem_cons_zero, List.setIfInBounds_toArray, List.set_cons_zero, List.set_cons_succ]
        refine wpAnyH_ready (rs := [8]) (by kernel_rfl) (by simp) ?_
        refine AllReadyH.cons rfl (fun K hK => ?_) AllReadyH.nil
        go_simp
        refine hK.out _ _ (cs_far (dr_old s2) (by dsimp only; omega)) (fun hHd => ?_)
        clear hK K
        try simp only [Act.put, List.getElem_toArray, List.getElem_cons_succ, List.getElem_cons_zero, List.setIfInBounds_toArray, List.set_cons_zero, List.set_cons_succ]
        refine wpAnyH_done (by kernel_rfl) ?_ _
        go_upto_region 8 with fail
        refine wp_named (fun W8 hW8 => ?_)
        have s2' : W8.cell? ⟨wr.heap.size, 2, none⟩ = some (.int .i64 0) := by rw [hW8]; exact cs_far (dr_old s2) (by dsimp only; omega)
        have s6' : W8.cell? ⟨wr.heap.size, 6, none⟩ = some (.bool tb) := by rw [hW8]; exact cs_far (dr_old s6) (by dsimp only; omega)
        have p0' : W8.cell? ⟨wr.heap.size + 1, 0, none⟩ = some (.int .i64 X) := by rw [hW8]; exact cs_far (dr_old p0) (by dsimp only; omega)
        have p1' : W8.cell? ⟨wr.heap.size + 1, 1, none⟩ = some (.int .i64 Y) := by rw [hW8]; exact cs_far (dr_old p1) (by dsimp only; omega)
        have q0' : W8.cell? ⟨wr.heap.size + 1 + 1, 0, none⟩ = some (.int .i64 (cv + 1)) := by rw [hW8]; exact World.cell?_setCell_same _ _ _ (dr_old q0)
        have q1' : W8.cell? ⟨wr.heap.size + 1 + 1, 1, none⟩ = some (.int .i64 (bk)) := by rw [hW8]; exact (World.cell?_setCell_other _ _ _ _ (by simp)).trans (dr_old q1)
        have f1' : W8.frozen? ⟨wr.heap.size + 1 + 1, 1, none⟩ = false := by rw [hW8]; show (World.setCell W7 _ _).frozen? _ = false; rw [World.frozen?_setCell]; exact f1
        have HW8 : Hid (Below wr.heap.size wr W8) := by rw [hW8]; exact bl_set (bl_drew HB7.out) (by dsimp only; omega)
        have z5' : wr.heap.size < W8.heap.size := World.block_lt_of_cell? _ _ s2'
        have z6' : wr.heap.size + 1 < W8.heap.size := World.block_lt_of_cell? _ _ p0'
        have z7' : wr.heap.size + 1 + 1 < W8.heap.size := World.block_lt_of_cell? _ _ q0'
        clear s2 s6 p0 p1 q0 q1 f1 z5 z7 f0
        clear hW8
        cases tb
        · obtain ⟨W', hrun, hCI⟩ := (HC.out.1.still HW8.out).next (X := X) (Y := Y) (u := cv + 1) (v := bk) HN2.out.2.2 HN2.out.1.symm (by rw [HN2.out.2.1]; simp)
          have HCI : Hid (CI W0 W' w.heap.size l (i + 1)) := hCI
          clear hCI
          go_wp2
          go_roundg (n - (i + 1))
          case measure => omega
          case rel => exact ⟨i + 1, by omega, rfl, by go_num, HCI.out⟩
        · go_upto_region 9 with fail
          refine wp_region_held_drew (S := fun w' => w'.cell? ⟨wr.heap.size, 2, none⟩ = some (.int .i64 0)) (by kernel_rfl) (dr_old s2') (fun hHeld => ?_)
          refine wpAnyH_take (i := 0) (v := .pointer (some ⟨wr.heap.size + 1 + 1, 1, none⟩)) rfl (by kernel_rfl) (by kernel_rfl) (by kernel_rfl) (fun _ _ _ h => h) (Or.inl ⟨by rfl, ?hyy⟩) (by assumption) ?_
          case hyy => (intro w' hSw; (try dsimp only at hSw); go_simp)
          try simp only [Act.put, List.getElem_toArray, List.getElem_cons_zero, List.setIfInBounds_toArray, List.set_cons_zero, List.set_cons_succ]
          refine wpAnyH_take (i := 2) (v := .pointer (some ⟨wr.heap.size, 0, none⟩)) rfl (by kernel_rfl) (by kernel_rfl) (by kernel_rfl) (fun _ _ _ h => h) (Or.inl ⟨by rfl, ?hyy⟩) (by assumption) ?_
          case hyy => (intro w' hSw; (try dsimp only at hSw); go_simp)
          try simp only [Act.put, List.getElem_toArray, List.getElem_cons_succ, List.getElem_cons_zero, List.setIfInBounds_toArray, List.set_cons_zero, List.set_cons_succ]
          refine wpAnyH_take (i := 3) (v := .pointer (some ⟨wr.heap.size, 2, none⟩)) rfl (by kernel_rfl) (by kernel_rfl) (by kernel_rfl) (fun _ _ _ h => h) (Or.inl ⟨by rfl, ?hyy⟩) (by assumption) ?_
          case hyy => (intro w' hSw; (try dsimp only at hSw); go_simp)
          try simp only [Act.put, List.getElem_toArray, List.getElem_cons_succ, List.getElem_cons_zero, List.setIfInBounds_toArray, List.set_cons_zero, List.set_cons_succ]
          refine wpAnyH_take (i := 4) (v := .int .i64 0) rfl (by kernel_rfl) (by kernel_rfl) (by kernel_rfl) (fun _ _ _ h => h) (Or.inl ⟨by rfl, ?hyy⟩) (by assumption) ?_
          case hyy => (intro w' hSw; (try dsimp only at hSw); go_simp)
          try simp only [Act.put, List.getElem_toArray, List.getElem_cons_succ, List.getElem_cons_zero, List.setIfInBounds_toArray, List.set_cons_zero, List.set_cons_succ]
          refine wpAnyH_take (i := 5) (v := .int .i64 1) rfl (by kernel_rfl) (by kernel_rfl) (by kernel_rfl) (fun _ _ _ h => h) (Or.inl ⟨by rfl, ?hyy⟩) (by assumption) ?_
          case hyy => (intro w' hSw; (try dsimp only at hSw); go_simp; exact IntWalk.i64_in _ ⟨by omega, by omega⟩)
          try simp only [Act.put, List.getElem_toArray, List.getElem_cons_succ, List.getElem_cons_zero, List.setIfInBounds_toArray, List.set_cons_zero, List.set_cons_succ]
          refine wpAnyH_ready (rs := [1]) (by kernel_rfl) (by simp) ?_
          refine AllReadyH.cons rfl (fun K hK => ?_) AllReadyH.nil
          go_simp
          refine hK.out _ _ (dr_old s2') (fun hHd => ?_)
          clear hK K
          try simp only [Act.put, List.getElem_toArray, List.getElem_cons_succ, List.getElem_cons_zero, List.setIfInBounds_toArray, List.set_cons_zero, List.set_cons_succ]
          refine wpAnyH_take (i := 6) (v := .int .i64 (bk + 1)) rfl (by kernel_rfl) (by kernel_rfl) (by kernel_rfl) (fun _ _ _ h => h) (Or.inl ⟨by rfl, ?hyy⟩) (by assumption) ?_
          case hyy => (intro w' hSw; (try dsimp only at hSw); go_simp; exact IntWalk.i64_in _ ⟨by omega, by omega⟩)
          try simp only [Act.put, List.getElem_toArray, List.getElem_cons_succ, List.getElem_cons_zero, List.setIfInBounds_toArray, List.set_cons_zero, List.set_cons_succ]
          refine wpAnyH_take (i := 7) (v := .pointer (some ⟨wr.heap.size + 1 + 1, 1, none⟩)) rfl (by kernel_rfl) (by kernel_rfl) (by kernel_rfl) (fun _ _ _ h => h) (Or.inl ⟨by rfl, ?hyy⟩) (by assumption) ?_
          case hyy => (intro w' hSw; (try dsimp only at hSw); go_simp)
          try simp only [Act.put, List.getElem_toArray, List.getElem_cons_succ, List.getElem_cons_zero, List.setIfInBounds_toArray, List.set_cons_zero, List.set_cons_succ]
          refine wpAnyH_ready (rs := [8]) (by kernel_rfl) (by simp) ?_
          refine AllReadyH.cons rfl (fun K hK => ?_) AllReadyH.nil
          go_simp
          refine hK.out _ _ (cs_far (dr_old s2') (by dsimp only; omega)) (fun hHd => ?_)
          clear hK K
          try simp only [Act.put, List.getElem_toArray, List.getElem_cons_succ, List.getElem_cons_zero, List.setIfInBounds_toArray, List.set_cons_zero, List.set_cons_succ]
          refine wpAnyH_done (by kernel_rfl) ?_ _
          go_upto_region 10 with fail
          refine wp_named (fun W9 hW9 => ?_)
          have s2'' : W9.cell? ⟨wr.heap.size, 2, none⟩ = some (.int .i64 0) := by rw [hW9]; exact cs_far (dr_old s2') (by dsimp only; omega)
          have s6'' : W9.cell? ⟨wr.heap.size, 6, none⟩ = some (.bool true) := by rw [hW9]; exact cs_far (dr_old s6') (by dsimp only; omega)
          have p0'' : W9.cell? ⟨wr.heap.size + 1, 0, none⟩ = some (.int .i64 X) := by rw [hW9]; exact cs_far (dr_old p0') (by dsimp only; omega)
          have p1'' : W9.cell? ⟨wr.heap.size + 1, 1, none⟩ = some (.int .i64 Y) := by rw [hW9]; exact cs_far (dr_old p1') (by dsimp only; omega)
          have q1'' : W9.cell? ⟨wr.heap.size + 1 + 1, 1, none⟩ = some (.int .i64 (bk + 1)) := by rw [hW9]; exact World.cell?_setCell_same _ _ _ (dr_old q1')
          have q0'' : W9.cell? ⟨wr.heap.size + 1 + 1, 0, none⟩ = some (.int .i64 (cv + 1)) := by rw [hW9]; exact (World.cell?_setCell_other _ _ _ _ (by simp)).trans (dr_old q0')
          have f1'' : W9.frozen? ⟨wr.heap.size + 1 + 1, 1, none⟩ = false := by rw [hW9]; show (World.setCell W8 _ _).frozen? _ = false; rw [World.frozen?_setCell]; exact f1'
          have HW9 : Hid (Below wr.heap.size wr W9) := by rw [hW9]; exact bl_set (bl_drew HW8.out) (by dsimp only; omega)
          have z5'' : wr.heap.size < W9.heap.size := World.block_lt_of_cell? _ _ s2''
          have z6'' : wr.heap.size + 1 < W9.heap.size := World.block_lt_of_cell? _ _ p0''
          have z7'' : wr.heap.size + 1 + 1 < W9.heap.size := World.block_lt_of_cell? _ _ q0''
          clear s2' s6' p0' p1' q0' q1' f1' z5' z7' z6'
          clear hW9
          obtain ⟨W', hrun, hCI⟩ := (HC.out.1.still HW9.out).next (X := X) (Y := Y) (u := cv + 1) (v := bk + 1) HN2.out.2.2 HN2.out.1.symm (by rw [HN2.out.2.1]; simp)
          have HCI : Hid (CI W0 W' w.heap.size l (i + 1)) := hCI
          clear hCI
          go_wp2
          go_roundg (n - (i + 1))
          case measure => omega
          case rel => exact ⟨i + 1, by omega, rfl, by go_num, HCI.out⟩
      · have HN2 : Hid ((cvb l (i + 1) (X, Y)).1 = cv + 2 ∧ (cvb l (i + 1) (X, Y)).2 = bk + (if tb = true then 2 else 0) ∧ ((l.getD i snD).1.1, (l.getD i snD).1.2.1) = (X, Y)) := HN.out
        clear HN hkb
        refine wp_region_held_drew (S := fun w' => w'.cell? ⟨wr.heap.size, 2, none⟩ = some (.int .i64 1)) (by kernel_rfl) (dr_old s2) (fun hHeld => ?_)
        refine wpAnyH_take (i := 0) (v := .pointer (some ⟨wr.heap.size + 1 + 1, 0, none⟩)) rfl (by kernel_rfl) (by kernel_rfl) (by kernel_rfl) (fun _ _ _ h => h) (Or.inl ⟨by rfl, ?hyy⟩) (by assumption) ?_
        case hyy => (intro w' hSw; (try dsimp only at hSw); go_simp)
        try simp only [Act.put, List.getElem_toArray, List.getElem_cons_zero, List.setIfInBounds_toArray, List.set_cons_zero, List.set_cons_succ]
        refine wpAnyH_take (i := 2) (v := .pointer (some ⟨wr.heap.size, 0, none⟩)) rfl (by kernel_rfl) (by kernel_rfl) (by kernel_rfl) (fun _ _ _ h => h) (Or.inl ⟨by rfl, ?hyy⟩) (by assumption) ?_
        case hyy => (intro w' hSw; (try dsimp only at hSw); go_simp)
        try simp only [Act.put, List.getElem_toArray, List.getElem_cons_succ, List.getElem_cons_zero, List.setIfInBounds_toArray, List.set_cons_zero, List.set_cons_succ]
        refine wpAnyH_take (i := 3) (v := .pointer (some ⟨wr.heap.size, 2, none⟩)) rfl (by kernel_rfl) (by kernel_rfl) (by kernel_rfl) (fun _ _ _ h => h) (Or.inl ⟨by rfl, ?hyy⟩) (by assumption) ?_
        case hyy => (intro w' hSw; (try dsimp only at hSw); go_simp)
        try simp only [Act.put, List.getElem_toArray, List.getElem_cons_succ, List.getElem_cons_zero, List.setIfInBounds_toArray, List.set_cons_zero, List.set_cons_succ]
        refine wpAnyH_take (i := 4) (v := .int .i64 1) rfl (by kernel_rfl) (by kernel_rfl) (by kernel_rfl) (fun _ _ _ h => h) (Or.inl ⟨by rfl, ?hyy⟩) (by assumption) ?_
        case hyy => (intro w' hSw; (try dsimp only at hSw); go_simp)
        try simp only [Act.put, List.getElem_toArray, List.getElem_cons_succ, List.getElem_cons_zero, List.setIfInBounds_toArray, List.set_cons_zero, List.set_cons_succ]
        refine wpAnyH_take (i := 5) (v := .int .i64 2) rfl (by kernel_rfl) (by kernel_rfl) (by kernel_rfl) (fun _ _ _ h => h) (Or.inl ⟨by rfl, ?hyy⟩) (by assumption) ?_
        case hyy => (intro w' hSw; (try dsimp only at hSw); go_simp; exact IntWalk.i64_in _ ⟨by omega, by omega⟩)
        try simp only [Act.put, List.getElem_toArray, List.getElem_cons_succ, List.getElem_cons_zero, List.setIfInBounds_toArray, List.set_cons_zero, List.set_cons_succ]
        refine wpAnyH_ready (rs := [1]) (by kernel_rfl) (by simp) ?_
        refine AllReadyH.cons rfl (fun K hK => ?_) AllReadyH.nil
        go_simp
        refine hK.out _ _ (dr_old s2) (fun hHd => ?_)
        clear hK K
        try simp only [Act.put, List.getElem_toArray, List.getElem_cons_succ, List.getElem_cons_zero, List.setIfInBounds_toArray, List.set_cons_zero, List.set_cons_succ]
        refine wpAnyH_take (i := 6) (v := .int .i64 (cv + 2)) rfl (by kernel_rfl) (by kernel_rfl) (by kernel_rfl) (fun _ _ _ h => h) (Or.inl ⟨by rfl, ?hyy⟩) (by assumption) ?_
        case hyy => (intro w' hSw; (try dsimp only at hSw); go_simp; exact IntWalk.i64_in _ ⟨by omega, by omega⟩)
        try simp only [Act.put, List.getElem_toArray, List.getElem_cons_succ, List.getElem_cons_zero, List.setIfInBounds_toArray, List.set_cons_zero, List.set_cons_succ]
        refine wpAnyH_take (i := 7) (v := .pointer (some ⟨wr.heap.size + 1 + 1, 0, none⟩)) rfl (by kernel_rfl) (by kernel_rfl) (by kernel_rfl) (fun _ _ _ h => h) (Or.inl ⟨by rfl, ?hyy⟩) (by assumption) ?_
        case hyy => (intro w' hSw; (try dsimp only at hSw); go_simp)
        try simp only [Act.put, List.getElem_toArray, List.getElem_cons_succ, List.getElem_cons_zero, List.setIfInBounds_toArray, List.set_cons_zero, List.set_cons_succ]
        refine wpAnyH_ready (rs := [8]) (by kernel_rfl) (by simp) ?_
        refine AllReadyH.cons rfl (fun K hK => ?_) AllReadyH.nil
        go_simp
        refine hK.out _ _ (cs_far (dr_old s2) (by dsimp only; omega)) (fun hHd => ?_)
        clear hK K
        try simp only [Act.put, List.getElem_toArray, List.getElem_cons_succ, List.getElem_cons_zero, List.setIfInBounds_toArray, List.set_cons_zero, List.set_cons_succ]
        refine wpAnyH_done (by kernel_rfl) ?_ _
        go_upto_region 8 with fail
        refine wp_named (fun W8 hW8 => ?_)
        have s2' : W8.cell? ⟨wr.heap.size, 2, none⟩ = some (.int .i64 1) := by rw [hW8]; exact cs_far (dr_old s2) (by dsimp only; omega)
        have s6' : W8.cell? ⟨wr.heap.size, 6, none⟩ = some (.bool tb) := by rw [hW8]; exact cs_far (dr_old s6) (by dsimp only; omega)
        have p0' : W8.cell? ⟨wr.heap.size + 1, 0, none⟩ = some (.int .i64 X) := by rw [hW8]; exact cs_far (dr_old p0) (by dsimp only; omega)
        have p1' : W8.cell? ⟨wr.heap.size + 1, 1, none⟩ = some (.int .i64 Y) := by rw [hW8]; exact cs_far (dr_old p1) (by dsimp only; omega)
        have q0' : W8.cell? ⟨wr.heap.size + 1 + 1, 0, none⟩ = some (.int .i64 (cv + 2)) := by rw [hW8]; exact World.cell?_setCell_same _ _ _ (dr_old q0)
        have q1' : W8.cell? ⟨wr.heap.size + 1 + 1, 1, none⟩ = some (.int .i64 (bk)) := by rw [hW8]; exact (World.cell?_setCell_other _ _ _ _ (by simp)).trans (dr_old q1)
        have f1' : W8.frozen? ⟨wr.heap.size + 1 + 1, 1, none⟩ = false := by rw [hW8]; show (World.setCell W7 _ _).frozen? _ = false; rw [World.frozen?_setCell]; exact f1
        have HW8 : Hid (Below wr.heap.size wr W8) := by rw [hW8]; exact bl_set (bl_drew HB7.out) (by dsimp only; omega)
        have z5' : wr.heap.size < W8.heap.size := World.block_lt_of_cell? _ _ s2'
        have z6' : wr.heap.size + 1 < W8.heap.size := World.block_lt_of_cell? _ _ p0'
        have z7' : wr.heap.size + 1 + 1 < W8.heap.size := World.block_lt_of_cell? _ _ q0'
        clear s2 s6 p0 p1 q0 q1 f1 z5 z7 f0
        clear hW8
        cases tb
        · obtain ⟨W', hrun, hCI⟩ := (HC.out.1.still HW8.out).next (X := X) (Y := Y) (u := cv + 2) (v := bk) HN2.out.2.2 HN2.out.1.symm (by rw [HN2.out.2.1]; simp)
          have HCI : Hid (CI W0 W' w.heap.size l (i + 1)) := hCI
          clear hCI
          go_wp2
          go_roundg (n - (i + 1))
          case measure => omega
          case rel => exact ⟨i + 1, by omega, rfl, by go_num, HCI.out⟩
        · go_upto_region 9 with fail
          refine wp_region_held_drew (S := fun w' => w'.cell? ⟨wr.heap.size, 2, none⟩ = some (.int .i64 1)) (by kernel_rfl) (dr_old s2') (fun hHeld => ?_)
          refine wpAnyH_take (i := 0) (v := .pointer (some ⟨wr.heap.size + 1 + 1, 1, none⟩)) rfl (by kernel_rfl) (by kernel_rfl) (by kernel_rfl) (fun _ _ _ h => h) (Or.inl ⟨by rfl, ?hyy⟩) (by assumption) ?_
          case hyy => (intro w' hSw; (try dsimp only at hSw); go_simp)
          try simp only [Act.put, List.getElem_toArray, List.getElem_cons_zero, List.setIfInBounds_toArray, List.set_cons_zero, List.set_cons_succ]
          refine wpAnyH_take (i := 2) (v := .pointer (some ⟨wr.heap.size, 0, none⟩)) rfl (by kernel_rfl) (by kernel_rfl) (by kernel_rfl) (fun _ _ _ h => h) (Or.inl ⟨by rfl, ?hyy⟩) (by assumption) ?_
          case hyy => (intro w' hSw; (try dsimp only at hSw); go_simp)
          try simp only [Act.put, List.getElem_toArray, List.getElem_cons_succ, List.getElem_cons_zero, List.setIfInBounds_toArray, List.set_cons_zero, List.set_cons_succ]
          refine wpAnyH_take (i := 3) (v := .pointer (some ⟨wr.heap.size, 2, none⟩)) rfl (by kernel_rfl) (by kernel_rfl) (by kernel_rfl) (fun _ _ _ h => h) (Or.inl ⟨by rfl, ?hyy⟩) (by assumption) ?_
          case hyy => (intro w' hSw; (try dsimp only at hSw); go_simp)
          try simp only [Act.put, List.getElem_toArray, List.getElem_cons_succ, List.getElem_cons_zero, List.setIfInBounds_toArray, List.set_cons_zero, List.set_cons_succ]
          refine wpAnyH_take (i := 4) (v := .int .i64 1) rfl (by kernel_rfl) (by kernel_rfl) (by kernel_rfl) (fun _ _ _ h => h) (Or.inl ⟨by rfl, ?hyy⟩) (by assumption) ?_
          case hyy => (intro w' hSw; (try dsimp only at hSw); go_simp)
          try simp only [Act.put, List.getElem_toArray, List.getElem_cons_succ, List.getElem_cons_zero, List.setIfInBounds_toArray, List.set_cons_zero, List.set_cons_succ]
          refine wpAnyH_take (i := 5) (v := .int .i64 2) rfl (by kernel_rfl) (by kernel_rfl) (by kernel_rfl) (fun _ _ _ h => h) (Or.inl ⟨by rfl, ?hyy⟩) (by assumption) ?_
          case hyy => (intro w' hSw; (try dsimp only at hSw); go_simp; exact IntWalk.i64_in _ ⟨by omega, by omega⟩)
          try simp only [Act.put, List.getElem_toArray, List.getElem_cons_succ, List.getElem_cons_zero, List.setIfInBounds_toArray, List.set_cons_zero, List.set_cons_succ]
          refine wpAnyH_ready (rs := [1]) (by kernel_rfl) (by simp) ?_
          refine AllReadyH.cons rfl (fun K hK => ?_) AllReadyH.nil
          go_simp
          refine hK.out _ _ (dr_old s2') (fun hHd => ?_)
          clear hK K
          try simp only [Act.put, List.getElem_toArray, List.getElem_cons_succ, List.getElem_cons_zero, List.setIfInBounds_toArray, List.set_cons_zero, List.set_cons_succ]
          refine wpAnyH_take (i := 6) (v := .int .i64 (bk + 2)) rfl (by kernel_rfl) (by kernel_rfl) (by kernel_rfl) (fun _ _ _ h => h) (Or.inl ⟨by rfl, ?hyy⟩) (by assumption) ?_
          case hyy => (intro w' hSw; (try dsimp only at hSw); go_simp; exact IntWalk.i64_in _ ⟨by omega, by omega⟩)
          try simp only [Act.put, List.getElem_toArray, List.getElem_cons_succ, List.getElem_cons_zero, List.setIfInBounds_toArray, List.set_cons_zero, List.set_cons_succ]
          refine wpAnyH_take (i := 7) (v := .pointer (some ⟨wr.heap.size + 1 + 1, 1, none⟩)) rfl (by kernel_rfl) (by kernel_rfl) (by kernel_rfl) (fun _ _ _ h => h) (Or.inl ⟨by rfl, ?hyy⟩) (by assumption) ?_
          case hyy => (intro w' hSw; (try dsimp only at hSw); go_simp)
          try simp only [Act.put, List.getElem_toArray, List.getElem_cons_succ, List.getElem_cons_zero, List.setIfInBounds_toArray, List.set_cons_zero, List.set_cons_succ]
          refine wpAnyH_ready (rs := [8]) (by kernel_rfl) (by simp) ?_
          refine AllReadyH.cons rfl (fun K hK => ?_) AllReadyH.nil
          go_simp
          refine hK.out _ _ (cs_far (dr_old s2') (by dsimp only; omega)) (fun hHd => ?_)
          clear hK K
          try simp only [Act.put, List.getElem_toArray, List.getElem_cons_succ, List.getElem_cons_zero, List.setIfInBounds_toArray, List.set_cons_zero, List.set_cons_succ]
          refine wpAnyH_done (by kernel_rfl) ?_ _
          go_upto_region 10 with fail
          refine wp_named (fun W9 hW9 => ?_)
          have s2'' : W9.cell? ⟨wr.heap.size, 2, none⟩ = some (.int .i64 1) := by rw [hW9]; exact cs_far (dr_old s2') (by dsimp only; omega)
          have s6'' : W9.cell? ⟨wr.heap.size, 6, none⟩ = some (.bool true) := by rw [hW9]; exact cs_far (dr_old s6') (by dsimp only; omega)
          have p0'' : W9.cell? ⟨wr.heap.size + 1, 0, none⟩ = some (.int .i64 X) := by rw [hW9]; exact cs_far (dr_old p0') (by dsimp only; omega)
          have p1'' : W9.cell? ⟨wr.heap.size + 1, 1, none⟩ = some (.int .i64 Y) := by rw [hW9]; exact cs_far (dr_old p1') (by dsimp only; omega)
          have q1'' : W9.cell? ⟨wr.heap.size + 1 + 1, 1, none⟩ = some (.int .i64 (bk + 2)) := by rw [hW9]; exact World.cell?_setCell_same _ _ _ (dr_old q1')
          have q0'' : W9.cell? ⟨wr.heap.size + 1 + 1, 0, none⟩ = some (.int .i64 (cv + 2)) := by rw [hW9]; exact (World.cell?_setCell_other _ _ _ _ (by simp)).trans (dr_old q0')
          have f1'' : W9.frozen? ⟨wr.heap.size + 1 + 1, 1, none⟩ = false := by rw [hW9]; show (World.setCell W8 _ _).frozen? _ = false; rw [World.frozen?_setCell]; exact f1'
          have HW9 : Hid (Below wr.heap.size wr W9) := by rw [hW9]; exact bl_set (bl_drew HW8.out) (by dsimp only; omega)
          have z5'' : wr.heap.size < W9.heap.size := World.block_lt_of_cell? _ _ s2''
          have z6'' : wr.heap.size + 1 < W9.heap.size := World.block_lt_of_cell? _ _ p0''
          have z7'' : wr.heap.size + 1 + 1 < W9.heap.size := World.block_lt_of_cell? _ _ q0''
          clear s2' s6' p0' p1' q0' q1' f1' z5' z7' z6'
          clear hW9
          obtain ⟨W', hrun, hCI⟩ := (HC.out.1.still HW9.out).next (X := X) (Y := Y) (u := cv + 2) (v := bk + 2) HN2.out.2.2 HN2.out.1.symm (by rw [HN2.out.2.1]; simp)
          have HCI : Hid (CI W0 W' w.heap.size l (i + 1)) := hCI
          clear hCI
          go_wp2
          go_roundg (n - (i + 1))
          case measure => omega
          case rel => exact ⟨i + 1, by omega, rfl, by go_num, HCI.out⟩
      · have HN2 : Hid ((cvb l (i + 1) (X, Y)).1 = cv + 4 ∧ (cvb l (i + 1) (X, Y)).2 = bk + (if tb = true then 4 else 0) ∧ ((l.getD i snD).1.1, (l.getD i snD).1.2.1) = (X, Y)) := HN.out
        clear HN hkb
        refine wp_region_held_drew (S := fun w' => w'.cell? ⟨wr.heap.size, 2, none⟩ = some (.int .i64 2)) (by kernel_rfl) (dr_old s2) (fun hHeld => ?_)
        refine wpAnyH_take (i := 0) (v := .pointer (some ⟨wr.heap.size + 1 + 1, 0, none⟩)) rfl (by kernel_rfl) (by kernel_rfl) (by kernel_rfl) (fun _ _ _ h => h) (Or.inl ⟨by rfl, ?hyy⟩) (by assumption) ?_
        case hyy => (intro w' hSw; (try dsimp only at hSw); go_simp)
        try simp only [Act.put, List.getElem_toArray, List.getElem_cons_zero, List.setIfInBounds_toArray, List.set_cons_zero, List.set_cons_succ]
        refine wpAnyH_take (i := 2) (v := .pointer (some ⟨wr.heap.size, 0, none⟩)) rfl (by kernel_rfl) (by kernel_rfl) (by kernel_rfl) (fun _ _ _ h => h) (Or.inl ⟨by rfl, ?hyy⟩) (by assumption) ?_
        case hyy => (intro w' hSw; (try dsimp only at hSw); go_simp)
        try simp only [Act.put, List.getElem_toArray, List.getElem_cons_succ, List.getElem_cons_zero, List.setIfInBounds_toArray, List.set_cons_zero, List.set_cons_succ]
        refine wpAnyH_take (i := 3) (v := .pointer (some ⟨wr.heap.size, 2, none⟩)) rfl (by kernel_rfl) (by kernel_rfl) (by kernel_rfl) (fun _ _ _ h => h) (Or.inl ⟨by rfl, ?hyy⟩) (by assumption) ?_
        case hyy => (intro w' hSw; (try dsimp only at hSw); go_simp)
        try simp only [Act.put, List.getElem_toArray, List.getElem_cons_succ, List.getElem_cons_zero, List.setIfInBounds_toArray, List.set_cons_zero, List.set_cons_succ]
        refine wpAnyH_take (i := 4) (v := .int .i64 2) rfl (by kernel_rfl) (by kernel_rfl) (by kernel_rfl) (fun _ _ _ h => h) (Or.inl ⟨by rfl, ?hyy⟩) (by assumption) ?_
        case hyy => (intro w' hSw; (try dsimp only at hSw); go_simp)
        try simp only [Act.put, List.getElem_toArray, List.getElem_cons_succ, List.getElem_cons_zero, List.setIfInBounds_toArray, List.set_cons_zero, List.set_cons_succ]
        refine wpAnyH_take (i := 5) (v := .int .i64 4) rfl (by kernel_rfl) (by kernel_rfl) (by kernel_rfl) (fun _ _ _ h => h) (Or.inl ⟨by rfl, ?hyy⟩) (by assumption) ?_
        case hyy => (intro w' hSw; (try dsimp only at hSw); go_simp; exact IntWalk.i64_in _ ⟨by omega, by omega⟩)
        try simp only [Act.put, List.getElem_toArray, List.getElem_cons_succ, List.getElem_cons_zero, List.setIfInBounds_toArray, List.set_cons_zero, List.set_cons_succ]
        refine wpAnyH_ready (rs := [1]) (by kernel_rfl) (by simp) ?_
        refine AllReadyH.cons rfl (fun K hK => ?_) AllReadyH.nil
        go_simp
        refine hK.out _ _ (dr_old s2) (fun hHd => ?_)
        clear hK K
        try simp only [Act.put, List.getElem_toArray, List.getElem_cons_succ, List.getElem_cons_zero, List.setIfInBounds_toArray, List.set_cons_zero, List.set_cons_succ]
        refine wpAnyH_take (i := 6) (v := .int .i64 (cv + 4)) rfl (by kernel_rfl) (by kernel_rfl) (by kernel_rfl) (fun _ _ _ h => h) (Or.inl ⟨by rfl, ?hyy⟩) (by assumption) ?_
        case hyy => (intro w' hSw; (try dsimp only at hSw); go_simp; exact IntWalk.i64_in _ ⟨by omega, by omega⟩)
        try simp only [Act.put, List.getElem_toArray, List.getElem_cons_succ, List.getElem_cons_zero, List.setIfInBounds_toArray, List.set_cons_zero, List.set_cons_succ]
        refine wpAnyH_take (i := 7) (v := .pointer (some ⟨wr.heap.size + 1 + 1, 0, none⟩)) rfl (by kernel_rfl) (by kernel_rfl) (by kernel_rfl) (fun _ _ _ h => h) (Or.inl ⟨by rfl, ?hyy⟩) (by assumption) ?_
        case hyy => (intro w' hSw; (try dsimp only at hSw); go_simp)
        try simp only [Act.put, List.getElem_toArray, List.getElem_cons_succ, List.getElem_cons_zero, List.setIfInBounds_toArray, List.set_cons_zero, List.set_cons_succ]
        refine wpAnyH_ready (rs := [8]) (by kernel_rfl) (by simp) ?_
        refine AllReadyH.cons rfl (fun K hK => ?_) AllReadyH.nil
        go_simp
        refine hK.out _ _ (cs_far (dr_old s2) (by dsimp only; omega)) (fun hHd => ?_)
        clear hK K
        try simp only [Act.put, List.getElem_toArray, List.getElem_cons_succ, List.getElem_cons_zero, List.setIfInBounds_toArray, List.set_cons_zero, List.set_cons_succ]
        refine wpAnyH_done (by kernel_rfl) ?_ _
        go_upto_region 8 with fail
        refine wp_named (fun W8 hW8 => ?_)
        have s2' : W8.cell? ⟨wr.heap.size, 2, none⟩ = some (.int .i64 2) := by rw [hW8]; exact cs_far (dr_old s2) (by dsimp only; omega)
        have s6' : W8.cell? ⟨wr.heap.size, 6, none⟩ = some (.bool tb) := by rw [hW8]; exact cs_far (dr_old s6) (by dsimp only; omega)
        have p0' : W8.cell? ⟨wr.heap.size + 1, 0, none⟩ = some (.int .i64 X) := by rw [hW8]; exact cs_far (dr_old p0) (by dsimp only; omega)
        have p1' : W8.cell? ⟨wr.heap.size + 1, 1, none⟩ = some (.int .i64 Y) := by rw [hW8]; exact cs_far (dr_old p1) (by dsimp only; omega)
        have q0' : W8.cell? ⟨wr.heap.size + 1 + 1, 0, none⟩ = some (.int .i64 (cv + 4)) := by rw [hW8]; exact World.cell?_setCell_same _ _ _ (dr_old q0)
        have q1' : W8.cell? ⟨wr.heap.size + 1 + 1, 1, none⟩ = some (.int .i64 (bk)) := by rw [hW8]; exact (World.cell?_setCell_other _ _ _ _ (by simp)).trans (dr_old q1)
        have f1' : W8.frozen? ⟨wr.heap.size + 1 + 1, 1, none⟩ = false := by rw [hW8]; show (World.setCell W7 _ _).frozen? _ = false; rw [World.frozen?_setCell]; exact f1
        have HW8 : Hid (Below wr.heap.size wr W8) := by rw [hW8]; exact bl_set (bl_drew HB7.out) (by dsimp only; omega)
        have z5' : wr.heap.size < W8.heap.size := World.block_lt_of_cell? _ _ s2'
        have z6' : wr.heap.size + 1 < W8.heap.size := World.block_lt_of_cell? _ _ p0'
        have z7' : wr.heap.size + 1 + 1 < W8.heap.size := World.block_lt_of_cell? _ _ q0'
        clear s2 s6 p0 p1 q0 q1 f1 z5 z7 f0
        clear hW8
        cases tb
        · obtain ⟨W', hrun, hCI⟩ := (HC.out.1.still HW8.out).next (X := X) (Y := Y) (u := cv + 4) (v := bk) HN2.out.2.2 HN2.out.1.symm (by rw [HN2.out.2.1]; simp)
          have HCI : Hid (CI W0 W' w.heap.size l (i + 1)) := hCI
          clear hCI
          go_wp2
          go_roundg (n - (i + 1))
          case measure => omega
          case rel => exact ⟨i + 1, by omega, rfl, by go_num, HCI.out⟩
        · go_upto_region 9 with fail
          refine wp_region_held_drew (S := fun w' => w'.cell? ⟨wr.heap.size, 2, none⟩ = some (.int .i64 2)) (by kernel_rfl) (dr_old s2') (fun hHeld => ?_)
          refine wpAnyH_take (i := 0) (v := .pointer (some ⟨wr.heap.size + 1 + 1, 1, none⟩)) rfl (by kernel_rfl) (by kernel_rfl) (by kernel_rfl) (fun _ _ _ h => h) (Or.inl ⟨by rfl, ?hyy⟩) (by assumption) ?_
          case hyy => (intro w' hSw; (try dsimp only at hSw); go_simp)
          try simp only [Act.put, List.getElem_toArray, List.getElem_cons_zero, List.setIfInBounds_toArray, List.set_cons_zero, List.set_cons_succ]
          refine wpAnyH_take (i := 2) (v := .pointer (some ⟨wr.heap.size, 0, none⟩)) rfl (by kernel_rfl) (by kernel_rfl) (by kernel_rfl) (fun _ _ _ h => h) (Or.inl ⟨by rfl, ?hyy⟩) (by assumption) ?_
          case hyy => (intro w' hSw; (try dsimp only at hSw); go_simp)
          try simp only [Act.put, List.getElem_toArray, List.getElem_cons_succ, List.getElem_cons_zero, List.setIfInBounds_toArray, List.set_cons_zero, List.set_cons_succ]
          refine wpAnyH_take (i := 3) (v := .pointer (some ⟨wr.heap.size, 2, none⟩)) rfl (by kernel_rfl) (by kernel_rfl) (by kernel_rfl) (fun _ _ _ h => h) (Or.inl ⟨by rfl, ?hyy⟩) (by assumption) ?_
          case hyy => (intro w' hSw; (try dsimp only at hSw); go_simp)
          try simp only [Act.put, List.getElem_toArray, List.getElem_cons_succ, List.getElem_cons_zero, List.setIfInBounds_toArray, List.set_cons_zero, List.set_cons_succ]
          refine wpAnyH_take (i := 4) (v := .int .i64 2) rfl (by kernel_rfl) (by kernel_rfl) (by kernel_rfl) (fun _ _ _ h => h) (Or.inl ⟨by rfl, ?hyy⟩) (by assumption) ?_
          case hyy => (intro w' hSw; (try dsimp only at hSw); go_simp)
          try simp only [Act.put, List.getElem_toArray, List.getElem_cons_succ, List.getElem_cons_zero, List.setIfInBounds_toArray, List.set_cons_zero, List.set_cons_succ]
          refine wpAnyH_take (i := 5) (v := .int .i64 4) rfl (by kernel_rfl) (by kernel_rfl) (by kernel_rfl) (fun _ _ _ h => h) (Or.inl ⟨by rfl, ?hyy⟩) (by assumption) ?_
          case hyy => (intro w' hSw; (try dsimp only at hSw); go_simp; exact IntWalk.i64_in _ ⟨by omega, by omega⟩)
          try simp only [Act.put, List.getElem_toArray, List.getElem_cons_succ, List.getElem_cons_zero, List.setIfInBounds_toArray, List.set_cons_zero, List.set_cons_succ]
          refine wpAnyH_ready (rs := [1]) (by kernel_rfl) (by simp) ?_
          refine AllReadyH.cons rfl (fun K hK => ?_) AllReadyH.nil
          go_simp
          refine hK.out _ _ (dr_old s2') (fun hHd => ?_)
          clear hK K
          try simp only [Act.put, List.getElem_toArray, List.getElem_cons_succ, List.getElem_cons_zero, List.setIfInBounds_toArray, List.set_cons_zero, List.set_cons_succ]
          refine wpAnyH_take (i := 6) (v := .int .i64 (bk + 4)) rfl (by kernel_rfl) (by kernel_rfl) (by kernel_rfl) (fun _ _ _ h => h) (Or.inl ⟨by rfl, ?hyy⟩) (by assumption) ?_
          case hyy => (intro w' hSw; (try dsimp only at hSw); go_simp; exact IntWalk.i64_in _ ⟨by omega, by omega⟩)
          try simp only [Act.put, List.getElem_toArray, List.getElem_cons_succ, List.getElem_cons_zero, List.setIfInBounds_toArray, List.set_cons_zero, List.set_cons_succ]
          refine wpAnyH_take (i := 7) (v := .pointer (some ⟨wr.heap.size + 1 + 1, 1, none⟩)) rfl (by kernel_rfl) (by kernel_rfl) (by kernel_rfl) (fun _ _ _ h => h) (Or.inl ⟨by rfl, ?hyy⟩) (by assumption) ?_
          case hyy => (intro w' hSw; (try dsimp only at hSw); go_simp)
          try simp only [Act.put, List.getElem_toArray, List.getElem_cons_succ, List.getElem_cons_zero, List.setIfInBounds_toArray, List.set_cons_zero, List.set_cons_succ]
          refine wpAnyH_ready (rs := [8]) (by kernel_rfl) (by simp) ?_
          refine AllReadyH.cons rfl (fun K hK => ?_) AllReadyH.nil
          go_simp
          refine hK.out _ _ (cs_far (dr_old s2') (by dsimp only; omega)) (fun hHd => ?_)
          clear hK K
          try simp only [Act.put, List.getElem_toArray, List.getElem_cons_succ, List.getElem_cons_zero, List.setIfInBounds_toArray, List.set_cons_zero, List.set_cons_succ]
          refine wpAnyH_done (by kernel_rfl) ?_ _
          go_upto_region 10 with fail
          refine wp_named (fun W9 hW9 => ?_)
          have s2'' : W9.cell? ⟨wr.heap.size, 2, none⟩ = some (.int .i64 2) := by rw [hW9]; exact cs_far (dr_old s2') (by dsimp only; omega)
          have s6'' : W9.cell? ⟨wr.heap.size, 6, none⟩ = some (.bool true) := by rw [hW9]; exact cs_far (dr_old s6') (by dsimp only; omega)
          have p0'' : W9.cell? ⟨wr.heap.size + 1, 0, none⟩ = some (.int .i64 X) := by rw [hW9]; exact cs_far (dr_old p0') (by dsimp only; omega)
          have p1'' : W9.cell? ⟨wr.heap.size + 1, 1, none⟩ = some (.int .i64 Y) := by rw [hW9]; exact cs_far (dr_old p1') (by dsimp only; omega)
          have q1'' : W9.cell? ⟨wr.heap.size + 1 + 1, 1, none⟩ = some (.int .i64 (bk + 4)) := by rw [hW9]; exact World.cell?_setCell_same _ _ _ (dr_old q1')
          have q0'' : W9.cell? ⟨wr.heap.size + 1 + 1, 0, none⟩ = some (.int .i64 (cv + 4)) := by rw [hW9]; exact (World.cell?_setCell_other _ _ _ _ (by simp)).trans (dr_old q0')
          have f1'' : W9.frozen? ⟨wr.heap.size + 1 + 1, 1, none⟩ = false := by rw [hW9]; show (World.setCell W8 _ _).frozen? _ = false; rw [World.frozen?_setCell]; exact f1'
          have HW9 : Hid (Below wr.heap.size wr W9) := by rw [hW9]; exact bl_set (bl_drew HW8.out) (by dsimp only; omega)
          have z5'' : wr.heap.size < W9.heap.size := World.block_lt_of_cell? _ _ s2''
          have z6'' : wr.heap.size + 1 < W9.heap.size := World.block_lt_of_cell? _ _ p0''
          have z7'' : wr.heap.size + 1 + 1 < W9.heap.size := World.block_lt_of_cell? _ _ q0''
          clear s2' s6' p0' p1' q0' q1' f1' z5' z7' z6'
          clear hW9
          obtain ⟨W', hrun, hCI⟩ := (HC.out.1.still HW9.out).next (X := X) (Y := Y) (u := cv + 4) (v := bk + 4) HN2.out.2.2 HN2.out.1.symm (by rw [HN2.out.2.1]; simp)
          have HCI : Hid (CI W0 W' w.heap.size l (i + 1)) := hCI
          clear hCI
          go_wp2
          go_roundg (n - (i + 1))
          case measure => omega
          case rel => exact ⟨i + 1, by omega, rfl, by go_num, HCI.out⟩
      · have HN2 : Hid ((cvb l (i + 1) (X, Y)).1 = cv + 8 ∧ (cvb l (i + 1) (X, Y)).2 = bk + (if tb = true then 8 else 0) ∧ ((l.getD i snD).1.1, (l.getD i snD).1.2.1) = (X, Y)) := HN.out
        clear HN hkb
        refine wp_region_held_drew (S := fun w' => w'.cell? ⟨wr.heap.size, 2, none⟩ = some (.int .i64 3)) (by kernel_rfl) (dr_old s2) (fun hHeld => ?_)
        refine wpAnyH_take (i := 0) (v := .pointer (some ⟨wr.heap.size + 1 + 1, 0, none⟩)) rfl (by kernel_rfl) (by kernel_rfl) (by kernel_rfl) (fun _ _ _ h => h) (Or.inl ⟨by rfl, ?hyy⟩) (by assumption) ?_
        case hyy => (intro w' hSw; (try dsimp only at hSw); go_simp)
        try simp only [Act.put, List.getElem_toArray, List.getElem_cons_zero, List.setIfInBounds_toArray, List.set_cons_zero, List.set_cons_succ]
        refine wpAnyH_take (i := 2) (v := .pointer (some ⟨wr.heap.size, 0, none⟩)) rfl (by kernel_rfl) (by kernel_rfl) (by kernel_rfl) (fun _ _ _ h => h) (Or.inl ⟨by rfl, ?hyy⟩) (by assumption) ?_
        case hyy => (intro w' hSw; (try dsimp only at hSw); go_simp)
        try simp only [Act.put, List.getElem_toArray, List.getElem_cons_succ, List.getElem_cons_zero, List.setIfInBounds_toArray, List.set_cons_zero, List.set_cons_succ]
        refine wpAnyH_take (i := 3) (v := .pointer (some ⟨wr.heap.size, 2, none⟩)) rfl (by kernel_rfl) (by kernel_rfl) (by kernel_rfl) (fun _ _ _ h => h) (Or.inl ⟨by rfl, ?hyy⟩) (by assumption) ?_
        case hyy => (intro w' hSw; (try dsimp only at hSw); go_simp)
        try simp only [Act.put, List.getElem_toArray, List.getElem_cons_succ, List.getElem_cons_zero, List.setIfInBounds_toArray, List.set_cons_zero, List.set_cons_succ]
        refine wpAnyH_take (i := 4) (v := .int .i64 3) rfl (by kernel_rfl) (by kernel_rfl) (by kernel_rfl) (fun _ _ _ h => h) (Or.inl ⟨by rfl, ?hyy⟩) (by assumption) ?_
        case hyy => (intro w' hSw; (try dsimp only at hSw); go_simp)
        try simp only [Act.put, List.getElem_toArray, List.getElem_cons_succ, List.getElem_cons_zero, List.setIfInBounds_toArray, List.set_cons_zero, List.set_cons_succ]
        refine wpAnyH_take (i := 5) (v := .int .i64 8) rfl (by kernel_rfl) (by kernel_rfl) (by kernel_rfl) (fun _ _ _ h => h) (Or.inl ⟨by rfl, ?hyy⟩) (by assumption) ?_
        case hyy => (intro w' hSw; (try dsimp only at hSw); go_simp; exact IntWalk.i64_in _ ⟨by omega, by omega⟩)
        try simp only [Act.put, List.getElem_toArray, List.getElem_cons_succ, List.getElem_cons_zero, List.setIfInBounds_toArray, List.set_cons_zero, List.set_cons_succ]
        refine wpAnyH_ready (rs := [1]) (by kernel_rfl) (by simp) ?_
        refine AllReadyH.cons rfl (fun K hK => ?_) AllReadyH.nil
        go_simp
        refine hK.out _ _ (dr_old s2) (fun hHd => ?_)
        clear hK K
        try simp only [Act.put, List.getElem_toArray, List.getElem_cons_succ, List.getElem_cons_zero, List.setIfInBounds_toArray, List.set_cons_zero, List.set_cons_succ]
        refine wpAnyH_take (i := 6) (v := .int .i64 (cv + 8)) rfl (by kernel_rfl) (by kernel_rfl) (by kernel_rfl) (fun _ _ _ h => h) (Or.inl ⟨by rfl, ?hyy⟩) (by assumption) ?_
        case hyy => (intro w' hSw; (try dsimp only at hSw); go_simp; exact IntWalk.i64_in _ ⟨by omega, by omega⟩)
        try simp only [Act.put, List.getElem_toArray, List.getElem_cons_succ, List.getElem_cons_zero, List.setIfInBounds_toArray, List.set_cons_zero, List.set_cons_succ]
        refine wpAnyH_take (i := 7) (v := .pointer (some ⟨wr.heap.size + 1 + 1, 0, none⟩)) rfl (by kernel_rfl) (by kernel_rfl) (by kernel_rfl) (fun _ _ _ h => h) (Or.inl ⟨by rfl, ?hyy⟩) (by assumption) ?_
        case hyy => (intro w' hSw; (try dsimp only at hSw); go_simp)
        try simp only [Act.put, List.getElem_toArray, List.getElem_cons_succ, List.getElem_cons_zero, List.setIfInBounds_toArray, List.set_cons_zero, List.set_cons_succ]
        refine wpAnyH_ready (rs := [8]) (by kernel_rfl) (by simp) ?_
        refine AllReadyH.cons rfl (fun K hK => ?_) AllReadyH.nil
        go_simp
        refine hK.out _ _ (cs_far (dr_old s2) (by dsimp only; omega)) (fun hHd => ?_)
        clear hK K
        try simp only [Act.put, List.getElem_toArray, List.getElem_cons_succ, List.getElem_cons_zero, List.setIfInBounds_toArray, List.set_cons_zero, List.set_cons_succ]
        refine wpAnyH_done (by kernel_rfl) ?_ _
        go_upto_region 8 with fail
        refine wp_named (fun W8 hW8 => ?_)
        have s2' : W8.cell? ⟨wr.heap.size, 2, none⟩ = some (.int .i64 3) := by rw [hW8]; exact cs_far (dr_old s2) (by dsimp only; omega)
        have s6' : W8.cell? ⟨wr.heap.size, 6, none⟩ = some (.bool tb) := by rw [hW8]; exact cs_far (dr_old s6) (by dsimp only; omega)
        have p0' : W8.cell? ⟨wr.heap.size + 1, 0, none⟩ = some (.int .i64 X) := by rw [hW8]; exact cs_far (dr_old p0) (by dsimp only; omega)
        have p1' : W8.cell? ⟨wr.heap.size + 1, 1, none⟩ = some (.int .i64 Y) := by rw [hW8]; exact cs_far (dr_old p1) (by dsimp only; omega)
        have q0' : W8.cell? ⟨wr.heap.size + 1 + 1, 0, none⟩ = some (.int .i64 (cv + 8)) := by rw [hW8]; exact World.cell?_setCell_same _ _ _ (dr_old q0)
        have q1' : W8.cell? ⟨wr.heap.size + 1 + 1, 1, none⟩ = some (.int .i64 (bk)) := by rw [hW8]; exact (World.cell?_setCell_other _ _ _ _ (by simp)).trans (dr_old q1)
        have f1' : W8.frozen? ⟨wr.heap.size + 1 + 1, 1, none⟩ = false := by rw [hW8]; show (World.setCell W7 _ _).frozen? _ = false; rw [World.frozen?_setCell]; exact f1
        have HW8 : Hid (Below wr.heap.size wr W8) := by rw [hW8]; exact bl_set (bl_drew HB7.out) (by dsimp only; omega)
        have z5' : wr.heap.size < W8.heap.size := World.block_lt_of_cell? _ _ s2'
        have z6' : wr.heap.size + 1 < W8.heap.size := World.block_lt_of_cell? _ _ p0'
        have z7' : wr.heap.size + 1 + 1 < W8.heap.size := World.block_lt_of_cell? _ _ q0'
        clear s2 s6 p0 p1 q0 q1 f1 z5 z7 f0
        clear hW8
        cases tb
        · obtain ⟨W', hrun, hCI⟩ := (HC.out.1.still HW8.out).next (X := X) (Y := Y) (u := cv + 8) (v := bk) HN2.out.2.2 HN2.out.1.symm (by rw [HN2.out.2.1]; simp)
          have HCI : Hid (CI W0 W' w.heap.size l (i + 1)) := hCI
          clear hCI
          go_wp2
          go_roundg (n - (i + 1))
          case measure => omega
          case rel => exact ⟨i + 1, by omega, rfl, by go_num, HCI.out⟩
        · go_upto_region 9 with fail
          refine wp_region_held_drew (S := fun w' => w'.cell? ⟨wr.heap.size, 2, none⟩ = some (.int .i64 3)) (by kernel_rfl) (dr_old s2') (fun hHeld => ?_)
          refine wpAnyH_take (i := 0) (v := .pointer (some ⟨wr.heap.size + 1 + 1, 1, none⟩)) rfl (by kernel_rfl) (by kernel_rfl) (by kernel_rfl) (fun _ _ _ h => h) (Or.inl ⟨by rfl, ?hyy⟩) (by assumption) ?_
          case hyy => (intro w' hSw; (try dsimp only at hSw); go_simp)
          try simp only [Act.put, List.getElem_toArray, List.getElem_cons_zero, List.setIfInBounds_toArray, List.set_cons_zero, List.set_cons_succ]
          refine wpAnyH_take (i := 2) (v := .pointer (some ⟨wr.heap.size, 0, none⟩)) rfl (by kernel_rfl) (by kernel_rfl) (by kernel_rfl) (fun _ _ _ h => h) (Or.inl ⟨by rfl, ?hyy⟩) (by assumption) ?_
          case hyy => (intro w' hSw; (try dsimp only at hSw); go_simp)
          try simp only [Act.put, List.getElem_toArray, List.getElem_cons_succ, List.getElem_cons_zero, List.setIfInBounds_toArray, List.set_cons_zero, List.set_cons_succ]
          refine wpAnyH_take (i := 3) (v := .pointer (some ⟨wr.heap.size, 2, none⟩)) rfl (by kernel_rfl) (by kernel_rfl) (by kernel_rfl) (fun _ _ _ h => h) (Or.inl ⟨by rfl, ?hyy⟩) (by assumption) ?_
          case hyy => (intro w' hSw; (try dsimp only at hSw); go_simp)
          try simp only [Act.put, List.getElem_toArray, List.getElem_cons_succ, List.getElem_cons_zero, List.setIfInBounds_toArray, List.set_cons_zero, List.set_cons_succ]
          refine wpAnyH_take (i := 4) (v := .int .i64 3) rfl (by kernel_rfl) (by kernel_rfl) (by kernel_rfl) (fun _ _ _ h => h) (Or.inl ⟨by rfl, ?hyy⟩) (by assumption) ?_
          case hyy => (intro w' hSw; (try dsimp only at hSw); go_simp)
          try simp only [Act.put, List.getElem_toArray, List.getElem_cons_succ, List.getElem_cons_zero, List.setIfInBounds_toArray, List.set_cons_zero, List.set_cons_succ]
          refine wpAnyH_take (i := 5) (v := .int .i64 8) rfl (by kernel_rfl) (by kernel_rfl) (by kernel_rfl) (fun _ _ _ h => h) (Or.inl ⟨by rfl, ?hyy⟩) (by assumption) ?_
          case hyy => (intro w' hSw; (try dsimp only at hSw); go_simp; exact IntWalk.i64_in _ ⟨by omega, by omega⟩)
          try simp only [Act.put, List.getElem_toArray, List.getElem_cons_succ, List.getElem_cons_zero, List.setIfInBounds_toArray, List.set_cons_zero, List.set_cons_succ]
          refine wpAnyH_ready (rs := [1]) (by kernel_rfl) (by simp) ?_
          refine AllReadyH.cons rfl (fun K hK => ?_) AllReadyH.nil
          go_simp
          refine hK.out _ _ (dr_old s2') (fun hHd => ?_)
          clear hK K
          try simp only [Act.put, List.getElem_toArray, List.getElem_cons_succ, List.getElem_cons_zero, List.setIfInBounds_toArray, List.set_cons_zero, List.set_cons_succ]
          refine wpAnyH_take (i := 6) (v := .int .i64 (bk + 8)) rfl (by kernel_rfl) (by kernel_rfl) (by kernel_rfl) (fun _ _ _ h => h) (Or.inl ⟨by rfl, ?hyy⟩) (by assumption) ?_
          case hyy => (intro w' hSw; (try dsimp only at hSw); go_simp; exact IntWalk.i64_in _ ⟨by omega, by omega⟩)
          try simp only [Act.put, List.getElem_toArray, List.getElem_cons_succ, List.getElem_cons_zero, List.setIfInBounds_toArray, List.set_cons_zero, List.set_cons_succ]
          refine wpAnyH_take (i := 7) (v := .pointer (some ⟨wr.heap.size + 1 + 1, 1, none⟩)) rfl (by kernel_rfl) (by kernel_rfl) (by kernel_rfl) (fun _ _ _ h => h) (Or.inl ⟨by rfl, ?hyy⟩) (by assumption) ?_
          case hyy => (intro w' hSw; (try dsimp only at hSw); go_simp)
          try simp only [Act.put, List.getElem_toArray, List.getElem_cons_succ, List.getElem_cons_zero, List.setIfInBounds_toArray, List.set_cons_zero, List.set_cons_succ]
          refine wpAnyH_ready (rs := [8]) (by kernel_rfl) (by simp) ?_
          refine AllReadyH.cons rfl (fun K hK => ?_) AllReadyH.nil
          go_simp
          refine hK.out _ _ (cs_far (dr_old s2') (by dsimp only; omega)) (fun hHd => ?_)
          clear hK K
          try simp only [Act.put, List.getElem_toArray, List.getElem_cons_succ, List.getElem_cons_zero, List.setIfInBounds_toArray, List.set_cons_zero, List.set_cons_succ]
          refine wpAnyH_done (by kernel_rfl) ?_ _
          go_upto_region 10 with fail
          refine wp_named (fun W9 hW9 => ?_)
          have s2'' : W9.cell? ⟨wr.heap.size, 2, none⟩ = some (.int .i64 3) := by rw [hW9]; exact cs_far (dr_old s2') (by dsimp only; omega)
          have s6'' : W9.cell? ⟨wr.heap.size, 6, none⟩ = some (.bool true) := by rw [hW9]; exact cs_far (dr_old s6') (by dsimp only; omega)
          have p0'' : W9.cell? ⟨wr.heap.size + 1, 0, none⟩ = some (.int .i64 X) := by rw [hW9]; exact cs_far (dr_old p0') (by dsimp only; omega)
          have p1'' : W9.cell? ⟨wr.heap.size + 1, 1, none⟩ = some (.int .i64 Y) := by rw [hW9]; exact cs_far (dr_old p1') (by dsimp only; omega)
          have q1'' : W9.cell? ⟨wr.heap.size + 1 + 1, 1, none⟩ = some (.int .i64 (bk + 8)) := by rw [hW9]; exact World.cell?_setCell_same _ _ _ (dr_old q1')
          have q0'' : W9.cell? ⟨wr.heap.size + 1 + 1, 0, none⟩ = some (.int .i64 (cv + 8)) := by rw [hW9]; exact (World.cell?_setCell_other _ _ _ _ (by simp)).trans (dr_old q0')
          have f1'' : W9.frozen? ⟨wr.heap.size + 1 + 1, 1, none⟩ = false := by rw [hW9]; show (World.setCell W8 _ _).frozen? _ = false; rw [World.frozen?_setCell]; exact f1'
          have HW9 : Hid (Below wr.heap.size wr W9) := by rw [hW9]; exact bl_set (bl_drew HW8.out) (by dsimp only; omega)
          have z5'' : wr.heap.size < W9.heap.size := World.block_lt_of_cell? _ _ s2''
          have z6'' : wr.heap.size + 1 < W9.heap.size := World.block_lt_of_cell? _ _ p0''
          have z7'' : wr.heap.size + 1 + 1 < W9.heap.size := World.block_lt_of_cell? _ _ q0''
          clear s2' s6' p0' p1' q0' q1' f1' z5' z7' z6'
          clear hW9
          obtain ⟨W', hrun, hCI⟩ := (HC.out.1.still HW9.out).next (X := X) (Y := Y) (u := cv + 8) (v := bk + 8) HN2.out.2.2 HN2.out.1.symm (by rw [HN2.out.2.1]; simp)
          have HCI : Hid (CI W0 W' w.heap.size l (i + 1)) := hCI
          clear hCI
          go_wp2
          go_roundg (n - (i + 1))
          case measure => omega
          case rel => exact ⟨i + 1, by omega, rfl, by go_num, HCI.out⟩
    · have i1 : ¬ (i : Int) < (n : Int) := by omega
      have him : i = l.length := by have := HL.out.2.1; omega
      go_wp2
      go_ret
      refine ⟨w.heap.size, rfl, fun wx x y hx => ?_, HC.out.2⟩
      rw [← him]
      exact (HC.out.1.still hx).look x y
end Go.Proofs.YtnpboeodhpenmaaGreatDoor
