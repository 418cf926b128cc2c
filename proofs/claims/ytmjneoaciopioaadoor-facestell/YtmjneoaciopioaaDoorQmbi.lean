/- A part of the proof of a law on sheets. -/
import Derived.Test.YtmjneoaciopioaaDoorQmbh
import Derived.Test.YtmjneoaciopioaaDoorQmaw
import Derived.Test.YtmjneoaciopioaaDoorQmaz
import Derived.Test.YtmjneoaciopioaaDoorQman
import Derived.Test.YtmjneoaciopioaaDoorQmac
import Derived.Test.YtmjneoaciopioaaDoorQmbg
import Derived.Test.YtmjneoaciopioaaDoorQmav
namespace Go.Proofs.YtmjneoaciopioaaDoor
open Go.RowKit Go.ChangeMaps

/-- Paper filled in at points: where, from which direction, how far. -/
def bitsOf (P : List ((Int × Int) × Nat × Nat)) (pt : Int × Int) (d : Nat) : Bool := P.any fun x => decide (x.1 = pt) && fillJ (fun _ => false) x.2.1 x.2.2 d
def hasPt (P : List ((Int × Int) × Nat × Nat)) (pt : Int × Int) : Bool := P.any fun x => decide (x.1 = pt)
def pv (P : List ((Int × Int) × Nat × Nat)) (pt : Int × Int) : Option Value := if hasPt P pt = true then some (arv (bitsOf P pt) (fun _ => 0)) else none
theorem fillJ_or (b : Nat → Bool) (fr : Nat) : ∀ n d, fillJ b fr n d = (b d || fillJ (fun _ => false) fr n d)
  | 0, d => by simp [fillJ]
  | n + 1, d => by
    unfold fillJ
    rw [fillJ_or b fr n d, Bool.or_assoc]
theorem bits_snoc (P : List ((Int × Int) × Nat × Nat)) (pt : Int × Int) (fr n : Nat) : bitsOf (P ++ [(pt, fr, n)]) pt = fillJ (bitsOf P pt) fr n := by
  funext d
  rw [fillJ_or]
  simp [bitsOf]
theorem bits_other (P : List ((Int × Int) × Nat × Nat)) {pt q : Int × Int} (fr n : Nat) (h : q ≠ pt) : bitsOf (P ++ [(pt, fr, n)]) q = bitsOf P q := by
  funext d
  simp [bitsOf, Ne.symm h]
theorem bits_none {P : List ((Int × Int) × Nat × Nat)} {pt : Int × Int} (h : hasPt P pt = false) : bitsOf P pt = fun _ => false := by
  funext d
  simp only [hasPt, List.any_eq_false, decide_eq_true_eq] at h
  simp only [bitsOf, List.any_eq_false, Bool.and_eq_true, decide_eq_true_eq, not_and]
  exact fun x hx e => absurd e (h x hx)
theorem pv_getD (P : List ((Int × Int) × Nat × Nat)) (pt : Int × Int) : (pv P pt).getD (arv (fun _ => false) (fun _ => 0)) = arv (bitsOf P pt) (fun _ => 0) := by
  unfold pv
  cases h : hasPt P pt
  · simp [bits_none h]
  · simp
theorem pv_snoc (P : List ((Int × Int) × Nat × Nat)) (pt q : Int × Int) (fr n : Nat) : pv (P ++ [(pt, fr, n)]) q = if q = pt then some (arv (fillJ (bitsOf P pt) fr n) (fun _ => 0)) else pv P q := by
  by_cases h : q = pt
  · subst h
    have : hasPt (P ++ [(q, fr, n)]) q = true := by simp [hasPt]
    simp [pv, this, bits_snoc]
  · have : hasPt (P ++ [(pt, fr, n)]) q = hasPt P q := by simp [hasPt, Ne.symm h]
    simp [pv, this, bits_other P fr n h, h]
theorem Pm.EM.grown {w w' : World} {r : Nat} {ls : List ((Int × Int) × Value × Nat)} {c : Nat} {row : Option Nat} (h : Pm.EM w r ls c) (hg : w.grownBy w' row) (hne : some r ≠ row) : Pm.EM w' r ls c := (hg.block r (Array.getElem?_eq_some_iff.1 h).1 hne).trans h
/-- The map of points in memory. -/
def PtM (w wx : World) (rm : Nat) (P : List ((Int × Int) × Nat × Nat)) : Prop := (∃ ls c, Pm.EM wx rm ls c ∧ Pm.Good ls c ∧ ∀ pt, Pm.lk ls pt = pv P pt) ∧ Below w.heap.size w wx ∧ w.heap.size ≤ rm
theorem PtM.lt {w wx : World} {rm : Nat} {P : List ((Int × Int) × Nat × Nat)} (h : PtM w wx rm P) : rm < wx.heap.size := by
  obtain ⟨ls, c, h1, _⟩ := h.1
  exact (Array.getElem?_eq_some_iff.1 h1).1
theorem PtM.kept {w wx w' : World} {rm : Nat} {P : List ((Int × Int) × Nat × Nat)} (h : PtM w wx rm P) (hb : Below wx.heap.size wx w') : PtM w w' rm P := by
  obtain ⟨⟨ls, c, h1, h2, h3⟩, h4, h5⟩ := h
  exact ⟨⟨ls, c, h1.grown (bl_grown hb) (by simp), h2, h3⟩, bl_via h4 hb, h5⟩
theorem zeroA (w : World) : (zeroValue 117).run Tryd.prog w = .ok (arv (fun _ => false) (fun _ => 0)) w := by kernel_rfl
theorem PtM.look {w wx : World} {rm : Nat} {P : List ((Int × Int) × Nat × Nat)} (h : PtM w wx rm P) (a b : Int) (wy : World) (hb : Below wx.heap.size wx wy) : (Instr.lookup 68 (.map (some rm)) (.agg #[.int .i64 a, .int .i64 b]) false).run Tryd.prog wy = .ok (arv (bitsOf P (a, b)) (fun _ => 0)) wy := by
  obtain ⟨⟨ls, c, h1, h2, h3⟩, _, _⟩ := h
  have := Pm.lookup27 Tryd.underlying68 zeroA (h1.grown (bl_grown hb) (by simp)) h2 (a, b)
  rw [h3, pv_getD] at this
  exact this
theorem PtM.update {w wx : World} {rm : Nat} {P : List ((Int × Int) × Nat × Nat)} (h : PtM w wx rm P) (a b : Int) (fr n : Nat) : ∃ W', (Instr.mapUpdate 68 (.map (some rm)) (.agg #[.int .i64 a, .int .i64 b]) (arv (fillJ (bitsOf P (a, b)) fr n) (fun _ => 0))).run Tryd.prog wx = .ok () W' ∧ wx.grownBy W' (some rm) ∧ PtM w W' rm (P ++ [((a, b), fr, n)]) := by
  obtain ⟨⟨ls, c, h1, h2, h3⟩, h4, h5⟩ := h
  obtain ⟨ls', c', hu, hg, hl, _⟩ := Pm.update27 Tryd.underlying68 h1 h2 (a, b) (arv (fillJ (bitsOf P (a, b)) fr n) (fun _ => 0))
  have hgr : wx.grownBy (setBlock wx rm (.map (ls'.map Pm.toE).toArray c')) (some rm) := grown_set h1 _
  refine ⟨_, hu, hgr, ⟨ls', c', ?_, hg, fun pt => ?_⟩, h4.grown hgr h4.size (fun k hk => by simp at hk; omega), h5⟩
  · unfold Pm.EM
    exact (heap_setBlock_same h1 _)
  · rw [hl pt, pv_snoc, h3]
/-- The corners of a triangle, and the paper there. -/
def tps (t : Int × Int × Int) : List ((Int × Int) × Nat × Nat) := [((2 * t.1 + 1, 2 * t.2.1 + 1), (5 + 2 * t.2.2.toNat) % 8, 2), ((c1x t.1 t.2.2, c1y t.2.1 t.2.2), (2 * t.2.2.toNat) % 8, 1), ((c2x t.1 t.2.2, c2y t.2.1 t.2.2), (3 + 2 * t.2.2.toNat) % 8, 1)]
theorem dirs {x y k : Int} (hk : 0 ≤ k ∧ k ≤ 3) :
    (cmp3 (c1x x k) (2 * x + 1) = dX ((5 + 2 * k.toNat) % 8) ∧ cmp3 (c1y y k) (2 * y + 1) = dY ((5 + 2 * k.toNat) % 8)) ∧ (cmp3 (c2x x k) (2 * x + 1) = dX ((5 + 2 * k.toNat + 2) % 8) ∧ cmp3 (c2y y k) (2 * y + 1) = dY ((5 + 2 * k.toNat + 2) % 8)) ∧
    (cmp3 (c2x x k) (c1x x k) = dX ((2 * k.toNat) % 8) ∧ cmp3 (c2y y k) (c1y y k) = dY ((2 * k.toNat) % 8)) ∧ (cmp3 (2 * x + 1) (c1x x k) = dX ((2 * k.toNat + 1) % 8) ∧ cmp3 (2 * y + 1) (c1y y k) = dY ((2 * k.toNat + 1) % 8)) ∧
    (cmp3 (2 * x + 1) (c2x x k) = dX ((3 + 2 * k.toNat) % 8) ∧ cmp3 (2 * y + 1) (c2y y k) = dY ((3 + 2 * k.toNat) % 8)) ∧ (cmp3 (c1x x k) (c2x x k) = dX ((3 + 2 * k.toNat + 1) % 8) ∧ cmp3 (c1y y k) (c2y y k) = dY ((3 + 2 * k.toNat + 1) % 8)) := by
  have hk4 : k = 0 ∨ k = 1 ∨ k = 2 ∨ k = 3 := by omega
  rcases hk4 with rfl | rfl | rfl | rfl <;> simp [cmp3, c1x, c1y, c2x, c2y, stX, stY, dX, dY] <;> omega

/-- Three points in a block. -/
def C6 (w : World) (g : Nat) (m0 m1 m2 m3 m4 m5 : Int) : Prop := w.cell? ⟨g, 0, none⟩ = some (.int .i64 m0) ∧ w.cell? ⟨g, 1, none⟩ = some (.int .i64 m1) ∧ w.cell? ⟨g, 2, none⟩ = some (.int .i64 m2) ∧ w.cell? ⟨g, 3, none⟩ = some (.int .i64 m3) ∧ w.cell? ⟨g, 4, none⟩ = some (.int .i64 m4) ∧ w.cell? ⟨g, 5, none⟩ = some (.int .i64 m5)
theorem C6.kept {w w' : World} {g : Nat} {m0 m1 m2 m3 m4 m5 : Int} (h : C6 w g m0 m1 m2 m3 m4 m5) (hb : Below w.heap.size w w') : C6 w' g m0 m1 m2 m3 m4 m5 := ⟨cl_kept hb h.1, cl_kept hb h.2.1, cl_kept hb h.2.2.1, cl_kept hb h.2.2.2.1, cl_kept hb h.2.2.2.2.1, cl_kept hb h.2.2.2.2.2⟩

theorem idxA0 (g : Nat) (w : World) : (Instr.indexAt 111 (.pointer (some ⟨g, 0, none⟩)) (.int .i64 0)).run Tryd.prog w = .ok (.pointer (some ⟨g, 0, none⟩)) w := by
  simp [go_sem]
theorem idxA1 (g : Nat) (w : World) : (Instr.indexAt 111 (.pointer (some ⟨g, 0, none⟩)) (.int .i64 1)).run Tryd.prog w = .ok (.pointer (some ⟨g, 2, none⟩)) w := by
  simp [go_sem]
theorem idxA2 (g : Nat) (w : World) : (Instr.indexAt 111 (.pointer (some ⟨g, 0, none⟩)) (.int .i64 2)).run Tryd.prog w = .ok (.pointer (some ⟨g, 4, none⟩)) w := by
  simp [go_sem]
set_option maxRecDepth 100000 in
set_option maxHeartbeats 12800000 in
theorem pointsOf_any (w : World) (cc ra rk : Nat) (ad : Option Addr) (L : List (Int × Int × Int)) (hs : Steps w) (hT : TRow w ad L) (hL : L.length ≤ 300) (hbd : ∀ t ∈ L, (0 ≤ t.1 ∧ t.1 ≤ 8) ∧ (0 ≤ t.2.1 ∧ t.2.1 ≤ 8) ∧ (0 ≤ t.2.2 ∧ t.2.2 ≤ 3)) :
    Calls Tryd.prog 24 #[.agg #[.slice ad L.length cc, .map (some ra), .map (some rk)]] w fun e w' => ∃ rm, e = .returned (.map (some rm)) ∧ PtM w w' rm (L.flatMap tps) := by
  have HST : Hid (Steps w) := hs
  have HT : Hid (TRow w ad L) := hT
  have HBD : Hid (∀ t ∈ L, (0 ≤ t.1 ∧ t.1 ≤ 8) ∧ (0 ≤ t.2.1 ∧ t.2.1 ≤ 8) ∧ (0 ≤ t.2.2 ∧ t.2.2 ≤ 3)) := hbd
  clear hs hT hbd
  have hmm := @run_makeMap Tryd.prog
  go_enter Tryd.func24, Tryd.ntmps24
  go_wp2
  obtain ⟨rm, hrm⟩ : ∃ r, r = w.heap.size + 1 := ⟨_, rfl⟩
  have HRM : Hid (rm = w.heap.size + 1) := hrm
  rw [← hrm]
  clear hrm
  go_loopg [14] L.length (fun gk s14 wx => ∃ i : Nat, i ≤ L.length ∧ gk = L.length - i ∧ s14 = .int .i64 (i : Int) ∧ PtM w wx rm ((L.take i).flatMap tps))
  case atStart =>
    refine ⟨0, by omega, rfl, rfl, ⟨[], 0, ?_, ⟨by simp, by simp, by simp⟩, fun pt => by simp [Pm.lk, pv, hasPt]⟩, bl_alloc (bl_alloc (bl_refl _)), by have := HRM.out; omega⟩
    rw [HRM.out]
    have := Pm.em_made (w.alloc (.cells #[.slice ad L.length cc, .map (some ra), .map (some rk)] 63))
    simpa using this
  case round =>
    obtain ⟨i, hi, rfl, rfl, hP⟩ := hrel
    have HP : Hid (PtM w wr rm ((L.take i).flatMap tps)) := hP
    clear hP
    by_cases h1 : i < L.length
    · have i1 : (i : Int) < (L.length : Int) := by omega
      have i0 : (0 : Int) ≤ (i : Int) := by omega
      obtain ⟨tg, rfl, t0, t1, t2⟩ := (HT.out.kept HP.out.2.1) i h1
      have zt : tg < wr.heap.size := World.block_lt_of_cell? _ _ t0
      have hbd := HBD.out _ (List.getElem_mem h1)
      obtain ⟨t, ht⟩ : ∃ t, t = L[i] := ⟨_, rfl⟩
      obtain ⟨x, y, k⟩ := t
      rw [← ht] at t0 t1 t2 hbd
      dsimp only at t0 t1 t2 hbd
      have HLI : Hid ((x, y, k) = L[i]) := ht
      have htri : triB x y k = true := by simp [triB]; omega
      have HTB : Hid (triB x y k = true ∧ (0 ≤ k ∧ k ≤ 3)) := ⟨htri, hbd.2.2⟩
      obtain ⟨m0, h0⟩ : ∃ m, m = 2 * x + 1 := ⟨_, rfl⟩
      obtain ⟨m1, h1'⟩ : ∃ m, m = 2 * y + 1 := ⟨_, rfl⟩
      obtain ⟨m2, h2⟩ : ∃ m, m = c1x x k := ⟨_, rfl⟩
      obtain ⟨m3, h3⟩ : ∃ m, m = c1y y k := ⟨_, rfl⟩
      obtain ⟨m4, h4⟩ : ∃ m, m = c2x x k := ⟨_, rfl⟩
      obtain ⟨m5, h5⟩ : ∃ m, m = c2y y k := ⟨_, rfl⟩
      have CC : Hid (∀ W' : World, Below wr.heap.size wr W' → Calls Tryd.prog 56 #[.agg #[.int .i64 x, .int .i64 y, .int .i64 k]] W' fun r w' => r = .returned (.tuple #[.agg #[.int .i64 m0, .int .i64 m1, .int .i64 m2, .int .i64 m3, .int .i64 m4, .int .i64 m5], .int .i64 0]) ∧ Below W'.heap.size W' w') := fun W' hW' => by
        rw [h0, h1', h2, h3, h4, h5]
        exact Corners_yes x y k W' htri (HST.out.kept (bl_via HP.out.2.1 hW'))
      have HM6 : Hid (m0 = 2 * x + 1 ∧ m1 = 2 * y + 1 ∧ m2 = c1x x k ∧ m3 = c1y y k ∧ m4 = c2x x k ∧ m5 = c2y y k) := ⟨h0, h1', h2, h3, h4, h5⟩
      clear ht hbd htri h0 h1' h2 h3 h4 h5
      go_wp2_with (go_at_call 56; refine (CC.out _ (by with_reducible exact bl_alloc (bl_refl _))).mono ?_; rintro e w5 ⟨rfl, hb⟩; have HP5 : Hid (PtM w w5 rm ((L.take i).flatMap tps)) := HP.out.kept (bl_via (bl_alloc (bl_refl _)) hb); clear hb)
      refine wp_named (fun W6 hW6 => ?_)
      obtain ⟨B6, hB6⟩ : ∃ b, b = w5.heap.size := ⟨_, rfl⟩
      have HC6 : Hid (C6 W6 B6 m0 m1 m2 m3 m4 m5 ∧ PtM w W6 rm ((L.take i).flatMap tps) ∧ rm < B6) := by
        have : C6 W6 B6 m0 m1 m2 m3 m4 m5 ∧ PtM w W6 rm ((L.take i).flatMap tps) ∧ rm < B6 := by
          rw [hW6, hB6]
          exact ⟨by simp [C6, go_sem], HP5.out.kept (bl_alloc (bl_refl _)), HP5.out.lt⟩
        exact this
      rw [← hB6]
      clear hW6 hB6 HP5
      go_wp2
      go_loopg [24] 3 (fun gk s24 wx => ∃ j : Nat, j ≤ 3 ∧ gk = 3 - j ∧ s24 = .int .i64 (j : Int) ∧ C6 wx B6 m0 m1 m2 m3 m4 m5 ∧ PtM w wx rm ((L.take i).flatMap tps ++ (tps (x, y, k)).take j))
      case atStart => exact ⟨0, by omega, rfl, rfl, HC6.out.1, by simpa using HC6.out.2.1⟩
      case round =>
        have hr6 : rm < B6 := HC6.out.2.2
        clear HC6 HP CC t0 t1 t2 zt
        obtain ⟨j, hj, rfl, rfl, hc6, hP⟩ := hrel
        obtain ⟨P, hPP⟩ : ∃ P, P = (L.take i).flatMap tps ++ (tps (x, y, k)).take j := ⟨_, rfl⟩
        rw [← hPP] at hP
        have HS : Hid (C6 wr B6 m0 m1 m2 m3 m4 m5 ∧ PtM w wr rm P) := ⟨hc6, hP⟩
        obtain ⟨y0, y1, y2, y3, y4, y5⟩ := hc6
        clear hP
        have hj4 : j = 0 ∨ j = 1 ∨ j = 2 ∨ j = 3 := by omega
        rcases hj4 with rfl | rfl | rfl | rfl
        · have HPP : Hid (P = (L.take i).flatMap tps ++ (tps (x, y, k)).take 0) := hPP
          clear hPP
          rw [show ((0 : Nat) : Int) = 0 from rfl]
          obtain ⟨D1, hD1⟩ : ∃ D, D = (5 + 2 * k.toNat) % 8 := ⟨_, rfl⟩
          have h81 : D1 < 8 := by omega
          have h82 : (5 + 2 * k.toNat + 2) % 8 < 8 := by omega
          have h12 : (5 + 2 * k.toNat + 2) % 8 = (D1 + 2) % 8 := by omega
          have CD1 : Hid (∀ W' : World, Calls Tryd.prog 58 #[.agg #[.int .i64 m0, .int .i64 m1], .agg #[.int .i64 m2, .int .i64 m3]] W' fun e w' => e = .returned (.int .i64 (D1 : Int)) ∧ Below W'.heap.size W' w') := fun W' => by
            have hd := (dirs (x := x) (y := y) HTB.out.2).1
            obtain ⟨rfl, rfl, rfl, rfl, rfl, rfl⟩ := HM6.out
            rw [← hD1] at hd
            exact direction_any _ _ _ _ D1 h81 W' hd.1 hd.2
          have CD2 : Hid (∀ W' : World, Calls Tryd.prog 58 #[.agg #[.int .i64 m0, .int .i64 m1], .agg #[.int .i64 m4, .int .i64 m5]] W' fun e w' => e = .returned (.int .i64 (((D1 + 2) % 8 : Nat) : Int)) ∧ Below W'.heap.size W' w') := fun W' => by
            have hd := (dirs (x := x) (y := y) HTB.out.2).2.1
            obtain ⟨rfl, rfl, rfl, rfl, rfl, rfl⟩ := HM6.out
            rw [h12] at hd
            exact direction_any _ _ _ _ _ (by omega) W' hd.1 hd.2
          obtain ⟨bb, hbb⟩ : ∃ f, f = bitsOf P (m0, m1) := ⟨_, rfl⟩
          obtain ⟨b2, hb2⟩ : ∃ f, f = fillJ bb D1 2 := ⟨_, rfl⟩
          have CF : Hid (∀ W' : World, Calls Tryd.prog 57 #[.agg #[.bool (bb 0), .int .i64 0, .bool (bb 1), .int .i64 0, .bool (bb 2), .int .i64 0, .bool (bb 3), .int .i64 0, .bool (bb 4), .int .i64 0, .bool (bb 5), .int .i64 0, .bool (bb 6), .int .i64 0, .bool (bb 7), .int .i64 0], .int .i64 (D1 : Int), .int .i64 (((D1 + 2) % 8 : Nat) : Int)] W' fun e w' => e = .returned (.agg #[.bool (b2 0), .int .i64 0, .bool (b2 1), .int .i64 0, .bool (b2 2), .int .i64 0, .bool (b2 3), .int .i64 0, .bool (b2 4), .int .i64 0, .bool (b2 5), .int .i64 0, .bool (b2 6), .int .i64 0, .bool (b2 7), .int .i64 0]) ∧ Below W'.heap.size W' w') := fun W' => by
            rw [hb2]
            exact filled_any bb (fun _ => 0) D1 2 h81 (by omega) W'
          have hx : (Instr.index 111 (.agg #[.int .i64 m0, .int .i64 m1, .int .i64 m2, .int .i64 m3, .int .i64 m4, .int .i64 m5]) (.int .i64 0)).run Tryd.prog wr = .ok (.agg #[.int .i64 m0, .int .i64 m1]) wr := by kernel_rfl
          have HFR : Hid (D1 = (5 + 2 * k.toNat) % 8 ∧ bb = bitsOf P (m0, m1) ∧ b2 = fillJ bb D1 2) := ⟨hD1, hbb, hb2⟩
          clear hD1 hbb hb2 h12 h82
          go_wp2
          refine wp_named (fun W0 hW0 => ?_)
          have HB0 : Hid (Below wr.heap.size wr W0) := by
            have : Below wr.heap.size wr W0 := by rw [hW0]; exact bl_alloc (bl_refl _)
            exact this
          obtain ⟨B9, hB9⟩ : ∃ b, b = wr.heap.size := ⟨_, rfl⟩
          have x0 : W0.cell? ⟨B9, 0, none⟩ = some (.int .i64 m0) := by rw [hW0, hB9]; simp [go_sem]
          have x1 : W0.cell? ⟨B9, 1, none⟩ = some (.int .i64 m1) := by rw [hW0, hB9]; simp [go_sem]
          replace y0 : W0.cell? ⟨B6, 0, none⟩ = some (.int .i64 m0) := cl_kept HB0.out y0
          replace y1 : W0.cell? ⟨B6, 1, none⟩ = some (.int .i64 m1) := cl_kept HB0.out y1
          replace y2 : W0.cell? ⟨B6, 2, none⟩ = some (.int .i64 m2) := cl_kept HB0.out y2
          replace y3 : W0.cell? ⟨B6, 3, none⟩ = some (.int .i64 m3) := cl_kept HB0.out y3
          replace y4 : W0.cell? ⟨B6, 4, none⟩ = some (.int .i64 m4) := cl_kept HB0.out y4
          replace y5 : W0.cell? ⟨B6, 5, none⟩ = some (.int .i64 m5) := cl_kept HB0.out y5
          have HP0 : Hid (PtM w W0 rm P) := HS.out.2.kept HB0.out
          have hlk : (Instr.lookup 68 (.map (some rm)) (.agg #[.int .i64 m0, .int .i64 m1]) false).run Tryd.prog W0.drew = .ok (.agg #[.bool (bb 0), .int .i64 0, .bool (bb 1), .int .i64 0, .bool (bb 2), .int .i64 0, .bool (bb 3), .int .i64 0, .bool (bb 4), .int .i64 0, .bool (bb 5), .int .i64 0, .bool (bb 6), .int .i64 0, .bool (bb 7), .int .i64 0]) W0.drew := by
            have h9 := HP0.out.look m0 m1 W0.drew (bl_drew (bl_refl _))
            rw [← HFR.out.2.1] at h9
            exact h9
          have hrm9 : rm < B9 := by rw [hB9]; exact HS.out.2.lt
          have z9 : B9 < W0.heap.size := World.block_lt_of_cell? _ _ x0
          have z6 : B6 < W0.heap.size := World.block_lt_of_cell? _ _ y0
          rw [← hB9]
          clear hW0 hB9 hx
          have kc := Kin.cells W0
          have kn : Nonempty (Kin W0) := ⟨⟨W0, bl_refl _⟩⟩
          have klk : ∀ n : Kin W0, (Instr.lookup 68 (.map (some rm)) (.agg #[.int .i64 m0, .int .i64 m1]) false).run Tryd.prog n.w = .ok (.agg #[.bool (bb 0), .int .i64 0, .bool (bb 1), .int .i64 0, .bool (bb 2), .int .i64 0, .bool (bb 3), .int .i64 0, .bool (bb 4), .int .i64 0, .bool (bb 5), .int .i64 0, .bool (bb 6), .int .i64 0, .bool (bb 7), .int .i64 0]) n.w := fun n => by
            have h9 := HP0.out.look m0 m1 n.w n.h
            rw [← HFR.out.2.1] at h9
            exact h9
          clear hlk
          refine wp_region_kin_last 20 (by kernel_rfl) (by kernel_rfl) (by kernel_rfl) (by rfl) ?_
          simp only [List.take_succ_cons, List.take_zero]
          repeat (go_big_quiet_step ((first | (go_at_call 58; with_reducible exact kin_of (CD1.out _)) | (go_at_call 58; with_reducible exact kin_of (CD2.out _)) | (go_at_call 57; exact kin_of (CF.out _)))))
          refine wpQuiet_nil ?_
          intro wq hw'
          obtain ⟨nq, hw''⟩ := hw'
          have hq : Below W0.heap.size W0 wq := hw'' ▸ nq.h
          obtain ⟨W4, hup, hgw, hP4⟩ := (HP0.out.kept hq).update m0 m1 D1 2
          rw [← HFR.out.2.1, ← HFR.out.2.2] at hup
          have hup' : (Instr.mapUpdate 68 (.map (some rm)) (.agg #[.int .i64 m0, .int .i64 m1]) (.agg #[.bool (b2 0), .int .i64 0, .bool (b2 1), .int .i64 0, .bool (b2 2), .int .i64 0, .bool (b2 3), .int .i64 0, .bool (b2 4), .int .i64 0, .bool (b2 5), .int .i64 0, .bool (b2 6), .int .i64 0, .bool (b2 7), .int .i64 0])).run Tryd.prog wq = .ok () W4 := hup
          have HP4 : Hid (PtM w W4 rm (P ++ [((m0, m1), D1, 2)])) := hP4
          have y0_w10 := cl_kept hq y0
          have y1_w10 := cl_kept hq y1
          have y2_w10 := cl_kept hq y2
          have y3_w10 := cl_kept hq y3
          have y4_w10 := cl_kept hq y4
          have y5_w10 := cl_kept hq y5
          clear hw'' nq hq kc kn klk hup hP4 x0 x1 y0 y1 y2 y3 y4 y5 z9 z6
          simp only [List.drop_succ_cons, List.drop_zero]
          go_wp2
          go_roundg (3 - (0 + 1))
          case measure => omega
          case rel =>
            refine ⟨0 + 1, by omega, rfl, by go_num, ?_, ?_⟩
            · have hne : some B6 ≠ some rm := by simp; omega
              exact ⟨hgw.cell y0_w10 hne, hgw.cell y1_w10 hne, hgw.cell y2_w10 hne, hgw.cell y3_w10 hne, hgw.cell y4_w10 hne, hgw.cell y5_w10 hne⟩
            · have h9 := HP4.out
              rw [HPP.out, List.append_assoc] at h9
              have e9 : (tps (x, y, k)).take (0 + 1) = (tps (x, y, k)).take 0 ++ [((m0, m1), D1, 2)] := by
                obtain ⟨e0, e1, e2, e3, e4, e5⟩ := HM6.out
                simp [tps, e0, e1, HFR.out.1]
              rw [e9]
              exact h9
        · have HPP : Hid (P = (L.take i).flatMap tps ++ (tps (x, y, k)).take 1) := hPP
          clear hPP
          rw [show ((1 : Nat) : Int) = 1 from rfl]
          obtain ⟨D1, hD1⟩ : ∃ D, D = (2 * k.toNat) % 8 := ⟨_, rfl⟩
          have h81 : D1 < 8 := by omega
          have h82 : (2 * k.toNat + 1) % 8 < 8 := by omega
          have h12 : (2 * k.toNat + 1) % 8 = (D1 + 1) % 8 := by omega
          have CD1 : Hid (∀ W' : World, Calls Tryd.prog 58 #[.agg #[.int .i64 m2, .int .i64 m3], .agg #[.int .i64 m4, .int .i64 m5]] W' fun e w' => e = .returned (.int .i64 (D1 : Int)) ∧ Below W'.heap.size W' w') := fun W' => by
            have hd := (dirs (x := x) (y := y) HTB.out.2).2.2.1
            obtain ⟨rfl, rfl, rfl, rfl, rfl, rfl⟩ := HM6.out
            rw [← hD1] at hd
            exact direction_any _ _ _ _ D1 h81 W' hd.1 hd.2
          have CD2 : Hid (∀ W' : World, Calls Tryd.prog 58 #[.agg #[.int .i64 m2, .int .i64 m3], .agg #[.int .i64 m0, .int .i64 m1]] W' fun e w' => e = .returned (.int .i64 (((D1 + 1) % 8 : Nat) : Int)) ∧ Below W'.heap.size W' w') := fun W' => by
            have hd := (dirs (x := x) (y := y) HTB.out.2).2.2.2.1
            obtain ⟨rfl, rfl, rfl, rfl, rfl, rfl⟩ := HM6.out
            rw [h12] at hd
            exact direction_any _ _ _ _ _ (by omega) W' hd.1 hd.2
          obtain ⟨bb, hbb⟩ : ∃ f, f = bitsOf P (m2, m3) := ⟨_, rfl⟩
          obtain ⟨b2, hb2⟩ : ∃ f, f = fillJ bb D1 1 := ⟨_, rfl⟩
          have CF : Hid (∀ W' : World, Calls Tryd.prog 57 #[.agg #[.bool (bb 0), .int .i64 0, .bool (bb 1), .int .i64 0, .bool (bb 2), .int .i64 0, .bool (bb 3), .int .i64 0, .bool (bb 4), .int .i64 0, .bool (bb 5), .int .i64 0, .bool (bb 6), .int .i64 0, .bool (bb 7), .int .i64 0], .int .i64 (D1 : Int), .int .i64 (((D1 + 1) % 8 : Nat) : Int)] W' fun e w' => e = .returned (.agg #[.bool (b2 0), .int .i64 0, .bool (b2 1), .int .i64 0, .bool (b2 2), .int .i64 0, .bool (b2 3), .int .i64 0, .bool (b2 4), .int .i64 0, .bool (b2 5), .int .i64 0, .bool (b2 6), .int .i64 0, .bool (b2 7), .int .i64 0]) ∧ Below W'.heap.size W' w') := fun W' => by
            rw [hb2]
            exact filled_any bb (fun _ => 0) D1 1 h81 (by omega) W'
          have hx : (Instr.index 111 (.agg #[.int .i64 m0, .int .i64 m1, .int .i64 m2, .int .i64 m3, .int .i64 m4, .int .i64 m5]) (.int .i64 1)).run Tryd.prog wr = .ok (.agg #[.int .i64 m2, .int .i64 m3]) wr := by kernel_rfl
          have HFR : Hid (D1 = (2 * k.toNat) % 8 ∧ bb = bitsOf P (m2, m3) ∧ b2 = fillJ bb D1 1) := ⟨hD1, hbb, hb2⟩
          clear hD1 hbb hb2 h12 h82
          go_wp2
          refine wp_named (fun W0 hW0 => ?_)
          have HB0 : Hid (Below wr.heap.size wr W0) := by
            have : Below wr.heap.size wr W0 := by rw [hW0]; exact bl_alloc (bl_refl _)
            exact this
          obtain ⟨B9, hB9⟩ : ∃ b, b = wr.heap.size := ⟨_, rfl⟩
          have x0 : W0.cell? ⟨B9, 0, none⟩ = some (.int .i64 m2) := by rw [hW0, hB9]; simp [go_sem]
          have x1 : W0.cell? ⟨B9, 1, none⟩ = some (.int .i64 m3) := by rw [hW0, hB9]; simp [go_sem]
          replace y0 : W0.cell? ⟨B6, 0, none⟩ = some (.int .i64 m0) := cl_kept HB0.out y0
          replace y1 : W0.cell? ⟨B6, 1, none⟩ = some (.int .i64 m1) := cl_kept HB0.out y1
          replace y2 : W0.cell? ⟨B6, 2, none⟩ = some (.int .i64 m2) := cl_kept HB0.out y2
          replace y3 : W0.cell? ⟨B6, 3, none⟩ = some (.int .i64 m3) := cl_kept HB0.out y3
          replace y4 : W0.cell? ⟨B6, 4, none⟩ = some (.int .i64 m4) := cl_kept HB0.out y4
          replace y5 : W0.cell? ⟨B6, 5, none⟩ = some (.int .i64 m5) := cl_kept HB0.out y5
          have HP0 : Hid (PtM w W0 rm P) := HS.out.2.kept HB0.out
          have hlk : (Instr.lookup 68 (.map (some rm)) (.agg #[.int .i64 m2, .int .i64 m3]) false).run Tryd.prog W0.drew = .ok (.agg #[.bool (bb 0), .int .i64 0, .bool (bb 1), .int .i64 0, .bool (bb 2), .int .i64 0, .bool (bb 3), .int .i64 0, .bool (bb 4), .int .i64 0, .bool (bb 5), .int .i64 0, .bool (bb 6), .int .i64 0, .bool (bb 7), .int .i64 0]) W0.drew := by
            have h9 := HP0.out.look m2 m3 W0.drew (bl_drew (bl_refl _))
            rw [← HFR.out.2.1] at h9
            exact h9
          have hrm9 : rm < B9 := by rw [hB9]; exact HS.out.2.lt
          have z9 : B9 < W0.heap.size := World.block_lt_of_cell? _ _ x0
          have z6 : B6 < W0.heap.size := World.block_lt_of_cell? _ _ y0
          rw [← hB9]
          clear hW0 hB9 hx
          have kc := Kin.cells W0
          have kn : Nonempty (Kin W0) := ⟨⟨W0, bl_refl _⟩⟩
          have klk : ∀ n : Kin W0, (Instr.lookup 68 (.map (some rm)) (.agg #[.int .i64 m2, .int .i64 m3]) false).run Tryd.prog n.w = .ok (.agg #[.bool (bb 0), .int .i64 0, .bool (bb 1), .int .i64 0, .bool (bb 2), .int .i64 0, .bool (bb 3), .int .i64 0, .bool (bb 4), .int .i64 0, .bool (bb 5), .int .i64 0, .bool (bb 6), .int .i64 0, .bool (bb 7), .int .i64 0]) n.w := fun n => by
            have h9 := HP0.out.look m2 m3 n.w n.h
            rw [← HFR.out.2.1] at h9
            exact h9
          clear hlk
          refine wp_region_kin_last 20 (by kernel_rfl) (by kernel_rfl) (by kernel_rfl) (by rfl) ?_
          simp only [List.take_succ_cons, List.take_zero]
          repeat (go_big_quiet_step ((first | (go_at_call 58; with_reducible exact kin_of (CD1.out _)) | (go_at_call 58; with_reducible exact kin_of (CD2.out _)) | (go_at_call 57; exact kin_of (CF.out _)))))
          refine wpQuiet_nil ?_
          intro wq hw'
          obtain ⟨nq, hw''⟩ := hw'
          have hq : Below W0.heap.size W0 wq := hw'' ▸ nq.h
          obtain ⟨W4, hup, hgw, hP4⟩ := (HP0.out.kept hq).update m2 m3 D1 1
          rw [← HFR.out.2.1, ← HFR.out.2.2] at hup
          have hup' : (Instr.mapUpdate 68 (.map (some rm)) (.agg #[.int .i64 m2, .int .i64 m3]) (.agg #[.bool (b2 0), .int .i64 0, .bool (b2 1), .int .i64 0, .bool (b2 2), .int .i64 0, .bool (b2 3), .int .i64 0, .bool (b2 4), .int .i64 0, .bool (b2 5), .int .i64 0, .bool (b2 6), .int .i64 0, .bool (b2 7), .int .i64 0])).run Tryd.prog wq = .ok () W4 := hup
          have HP4 : Hid (PtM w W4 rm (P ++ [((m2, m3), D1, 1)])) := hP4
          have y0_w10 := cl_kept hq y0
          have y1_w10 := cl_kept hq y1
          have y2_w10 := cl_kept hq y2
          have y3_w10 := cl_kept hq y3
          have y4_w10 := cl_kept hq y4
          have y5_w10 := cl_kept hq y5
          clear hw'' nq hq kc kn klk hup hP4 x0 x1 y0 y1 y2 y3 y4 y5 z9 z6
          simp only [List.drop_succ_cons, List.drop_zero]
          go_wp2
          go_roundg (3 - (1 + 1))
          case measure => omega
          case rel =>
            refine ⟨1 + 1, by omega, rfl, by go_num, ?_, ?_⟩
            · have hne : some B6 ≠ some rm := by simp; omega
              exact ⟨hgw.cell y0_w10 hne, hgw.cell y1_w10 hne, hgw.cell y2_w10 hne, hgw.cell y3_w10 hne, hgw.cell y4_w10 hne, hgw.cell y5_w10 hne⟩
            · have h9 := HP4.out
              rw [HPP.out, List.append_assoc] at h9
              have e9 : (tps (x, y, k)).take (1 + 1) = (tps (x, y, k)).take 1 ++ [((m2, m3), D1, 1)] := by
                obtain ⟨e0, e1, e2, e3, e4, e5⟩ := HM6.out
                simp [tps, e2, e3, HFR.out.1]
              rw [e9]
              exact h9
        · have HPP : Hid (P = (L.take i).flatMap tps ++ (tps (x, y, k)).take 2) := hPP
          clear hPP
          rw [show ((2 : Nat) : Int) = 2 from rfl]
          obtain ⟨D1, hD1⟩ : ∃ D, D = (3 + 2 * k.toNat) % 8 := ⟨_, rfl⟩
          have h81 : D1 < 8 := by omega
          have h82 : (3 + 2 * k.toNat + 1) % 8 < 8 := by omega
          have h12 : (3 + 2 * k.toNat + 1) % 8 = (D1 + 1) % 8 := by omega
          have CD1 : Hid (∀ W' : World, Calls Tryd.prog 58 #[.agg #[.int .i64 m4, .int .i64 m5], .agg #[.int .i64 m0, .int .i64 m1]] W' fun e w' => e = .returned (.int .i64 (D1 : Int)) ∧ Below W'.heap.size W' w') := fun W' => by
            have hd := (dirs (x := x) (y := y) HTB.out.2).2.2.2.2.1
            obtain ⟨rfl, rfl, rfl, rfl, rfl, rfl⟩ := HM6.out
            rw [← hD1] at hd
            exact direction_any _ _ _ _ D1 h81 W' hd.1 hd.2
          have CD2 : Hid (∀ W' : World, Calls Tryd.prog 58 #[.agg #[.int .i64 m4, .int .i64 m5], .agg #[.int .i64 m2, .int .i64 m3]] W' fun e w' => e = .returned (.int .i64 (((D1 + 1) % 8 : Nat) : Int)) ∧ Below W'.heap.size W' w') := fun W' => by
            have hd := (dirs (x := x) (y := y) HTB.out.2).2.2.2.2.2
            obtain ⟨rfl, rfl, rfl, rfl, rfl, rfl⟩ := HM6.out
            rw [h12] at hd
            exact direction_any _ _ _ _ _ (by omega) W' hd.1 hd.2
          obtain ⟨bb, hbb⟩ : ∃ f, f = bitsOf P (m4, m5) := ⟨_, rfl⟩
          obtain ⟨b2, hb2⟩ : ∃ f, f = fillJ bb D1 1 := ⟨_, rfl⟩
          have CF : Hid (∀ W' : World, Calls Tryd.prog 57 #[.agg #[.bool (bb 0), .int .i64 0, .bool (bb 1), .int .i64 0, .bool (bb 2), .int .i64 0, .bool (bb 3), .int .i64 0, .bool (bb 4), .int .i64 0, .bool (bb 5), .int .i64 0, .bool (bb 6), .int .i64 0, .bool (bb 7), .int .i64 0], .int .i64 (D1 : Int), .int .i64 (((D1 + 1) % 8 : Nat) : Int)] W' fun e w' => e = .returned (.agg #[.bool (b2 0), .int .i64 0, .bool (b2 1), .int .i64 0, .bool (b2 2), .int .i64 0, .bool (b2 3), .int .i64 0, .bool (b2 4), .int .i64 0, .bool (b2 5), .int .i64 0, .bool (b2 6), .int .i64 0, .bool (b2 7), .int .i64 0]) ∧ Below W'.heap.size W' w') := fun W' => by
            rw [hb2]
            exact filled_any bb (fun _ => 0) D1 1 h81 (by omega) W'
          have hx : (Instr.index 111 (.agg #[.int .i64 m0, .int .i64 m1, .int .i64 m2, .int .i64 m3, .int .i64 m4, .int .i64 m5]) (.int .i64 2)).run Tryd.prog wr = .ok (.agg #[.int .i64 m4, .int .i64 m5]) wr := by kernel_rfl
          have HFR : Hid (D1 = (3 + 2 * k.toNat) % 8 ∧ bb = bitsOf P (m4, m5) ∧ b2 = fillJ bb D1 1) := ⟨hD1, hbb, hb2⟩
          clear hD1 hbb hb2 h12 h82
          go_wp2
          refine wp_named (fun W0 hW0 => ?_)
          have HB0 : Hid (Below wr.heap.size wr W0) := by
            have : Below wr.heap.size wr W0 := by rw [hW0]; exact bl_alloc (bl_refl _)
            exact this
          obtain ⟨B9, hB9⟩ : ∃ b, b = wr.heap.size := ⟨_, rfl⟩
          have x0 : W0.cell? ⟨B9, 0, none⟩ = some (.int .i64 m4) := by rw [hW0, hB9]; simp [go_sem]
          have x1 : W0.cell? ⟨B9, 1, none⟩ = some (.int .i64 m5) := by rw [hW0, hB9]; simp [go_sem]
          replace y0 : W0.cell? ⟨B6, 0, none⟩ = some (.int .i64 m0) := cl_kept HB0.out y0
          replace y1 : W0.cell? ⟨B6, 1, none⟩ = some (.int .i64 m1) := cl_kept HB0.out y1
          replace y2 : W0.cell? ⟨B6, 2, none⟩ = some (.int .i64 m2) := cl_kept HB0.out y2
          replace y3 : W0.cell? ⟨B6, 3, none⟩ = some (.int .i64 m3) := cl_kept HB0.out y3
          replace y4 : W0.cell? ⟨B6, 4, none⟩ = some (.int .i64 m4) := cl_kept HB0.out y4
          replace y5 : W0.cell? ⟨B6, 5, none⟩ = some (.int .i64 m5) := cl_kept HB0.out y5
          have HP0 : Hid (PtM w W0 rm P) := HS.out.2.kept HB0.out
          have hlk : (Instr.lookup 68 (.map (some rm)) (.agg #[.int .i64 m4, .int .i64 m5]) false).run Tryd.prog W0.drew = .ok (.agg #[.bool (bb 0), .int .i64 0, .bool (bb 1), .int .i64 0, .bool (bb 2), .int .i64 0, .bool (bb 3), .int .i64 0, .bool (bb 4), .int .i64 0, .bool (bb 5), .int .i64 0, .bool (bb 6), .int .i64 0, .bool (bb 7), .int .i64 0]) W0.drew := by
            have h9 := HP0.out.look m4 m5 W0.drew (bl_drew (bl_refl _))
            rw [← HFR.out.2.1] at h9
            exact h9
          have hrm9 : rm < B9 := by rw [hB9]; exact HS.out.2.lt
          have z9 : B9 < W0.heap.size := World.block_lt_of_cell? _ _ x0
          have z6 : B6 < W0.heap.size := World.block_lt_of_cell? _ _ y0
          rw [← hB9]
          clear hW0 hB9 hx
          have kc := Kin.cells W0
          have kn : Nonempty (Kin W0) := ⟨⟨W0, bl_refl _⟩⟩
          have klk : ∀ n : Kin W0, (Instr.lookup 68 (.map (some rm)) (.agg #[.int .i64 m4, .int .i64 m5]) false).run Tryd.prog n.w = .ok (.agg #[.bool (bb 0), .int .i64 0, .bool (bb 1), .int .i64 0, .bool (bb 2), .int .i64 0, .bool (bb 3), .int .i64 0, .bool (bb 4), .int .i64 0, .bool (bb 5), .int .i64 0, .bool (bb 6), .int .i64 0, .bool (bb 7), .int .i64 0]) n.w := fun n => by
            have h9 := HP0.out.look m4 m5 n.w n.h
            rw [← HFR.out.2.1] at h9
            exact h9
          clear hlk
          refine wp_region_kin_last 20 (by kernel_rfl) (by kernel_rfl) (by kernel_rfl) (by rfl) ?_
          simp only [List.take_succ_cons, List.take_zero]
          repeat (go_big_quiet_step ((first | (go_at_call 58; with_reducible exact kin_of (CD1.out _)) | (go_at_call 58; with_reducible exact kin_of (CD2.out _)) | (go_at_call 57; exact kin_of (CF.out _)))))
          refine wpQuiet_nil ?_
          intro wq hw'
          obtain ⟨nq, hw''⟩ := hw'
          have hq : Below W0.heap.size W0 wq := hw'' ▸ nq.h
          obtain ⟨W4, hup, hgw, hP4⟩ := (HP0.out.kept hq).update m4 m5 D1 1
          rw [← HFR.out.2.1, ← HFR.out.2.2] at hup
          have hup' : (Instr.mapUpdate 68 (.map (some rm)) (.agg #[.int .i64 m4, .int .i64 m5]) (.agg #[.bool (b2 0), .int .i64 0, .bool (b2 1), .int .i64 0, .bool (b2 2), .int .i64 0, .bool (b2 3), .int .i64 0, .bool (b2 4), .int .i64 0, .bool (b2 5), .int .i64 0, .bool (b2 6), .int .i64 0, .bool (b2 7), .int .i64 0])).run Tryd.prog wq = .ok () W4 := hup
          have HP4 : Hid (PtM w W4 rm (P ++ [((m4, m5), D1, 1)])) := hP4
          have y0_w10 := cl_kept hq y0
          have y1_w10 := cl_kept hq y1
          have y2_w10 := cl_kept hq y2
          have y3_w10 := cl_kept hq y3
          have y4_w10 := cl_kept hq y4
          have y5_w10 := cl_kept hq y5
          clear hw'' nq hq kc kn klk hup hP4 x0 x1 y0 y1 y2 y3 y4 y5 z9 z6
          simp only [List.drop_succ_cons, List.drop_zero]
          go_wp2
          go_roundg (3 - (2 + 1))
          case measure => omega
          case rel =>
            refine ⟨2 + 1, by omega, rfl, by go_num, ?_, ?_⟩
            · have hne : some B6 ≠ some rm := by simp; omega
              exact ⟨hgw.cell y0_w10 hne, hgw.cell y1_w10 hne, hgw.cell y2_w10 hne, hgw.cell y3_w10 hne, hgw.cell y4_w10 hne, hgw.cell y5_w10 hne⟩
            · have h9 := HP4.out
              rw [HPP.out, List.append_assoc] at h9
              have e9 : (tps (x, y, k)).take (2 + 1) = (tps (x, y, k)).take 2 ++ [((m4, m5), D1, 1)] := by
                obtain ⟨e0, e1, e2, e3, e4, e5⟩ := HM6.out
                simp [tps, e4, e5, HFR.out.1]
              rw [e9]
              exact h9
        · have HPP : Hid (P = (L.take i).flatMap tps ++ (tps (x, y, k)).take 3) := hPP
          clear hPP
          rw [show ((3 : Nat) : Int) = 3 from rfl]
          go_wp2
          go_roundg (L.length - (i + 1))
          case measure => omega
          case rel =>
            refine ⟨i + 1, by omega, rfl, by go_num, ?_⟩
            have h9 := HS.out.2
            rw [HPP.out] at h9
            rw [List.take_succ_eq_append_getElem h1, List.flatMap_append, ← HLI.out]
            simpa [tps] using h9
    · have i1 : ¬ (i : Int) < (L.length : Int) := by omega
      obtain rfl : i = L.length := by omega
      go_wp2
      go_ret
      refine ⟨rm, rfl, ?_⟩
      have h9 := HP.out
      rw [List.take_length] at h9
      exact h9
end Go.Proofs.YtmjneoaciopioaaDoor
namespace Go.Proofs.YtmjneoaciopioaaDoor
open Go.RowKit

theorem infP : (Tryd.prog.info? 43).map (fun i => (i.zero, i.size, i.bytes)) = some (some (.agg #[.int .i64 0, .int .i64 0]), 2, 16) := by kernel_rfl
theorem lessPoint_kin (a b c d : Int) (w : World) : Calls Tryd.prog 60 #[.agg #[.int .i64 a, .int .i64 b], .agg #[.int .i64 c, .int .i64 d]] w fun r w' => r = .returned (.bool (lessB a b c d)) ∧ Below w.heap.size w w' := by
  refine (lessPoint_any a b c d w).mono ?_
  rintro e w' ⟨rfl, o1, o2, rfl⟩
  exact ⟨rfl, bl_alloc (bl_alloc (bl_refl _))⟩
theorem cell_two_pt (w : World) (T : TypeId) (a b : Int) : ∀ j u, ([Value.int .i64 a, .int .i64 b])[j]? = some u → (w.alloc (.cells #[.int .i64 a, .int .i64 b] T)).cell? ((⟨w.heap.size, 0, none⟩ : Addr).add j) = some u := by
  intro j u hu
  match j, hu with
  | 0, hu => simp at hu; subst hu; simp [go_sem, Addr.add]
  | 1, hu => simp at hu; subst hu; simp [go_sem, Addr.add]
/-- What is kept in memory. -/
def RP (w1 wx : World) (v : Value) (pts : List (Int × Int)) : Prop := wx.ownsRow w1.heap.size 43 2 v pts.length (flatP pts) ∧ Below w1.heap.size w1 wx
theorem RP.kept {w1 wx w' : World} {v : Value} {pts : List (Int × Int)} (h : RP w1 wx v pts) (hb : Below wx.heap.size wx w') : RP w1 w' v pts := ⟨own_below h.1 hb, bl_via h.2 hb⟩

set_option maxRecDepth 100000 in
set_option maxHeartbeats 12800000 in
theorem refPoints_any (W H b off cap : Nat) (zs : List Int) (c : Value) (w : World) (hr : Row w (some ⟨b, off, none⟩) zs) (hW : 1 ≤ W ∧ W ≤ 8) (hH : 1 ≤ H ∧ H ≤ 8) (hl : zs.length = W * H) (hm : maskB zs = true) :
    Calls Tryd.prog 33 #[.agg #[.int .i64 (W : Int), .int .i64 (H : Int), .slice (some ⟨b, off, none⟩) zs.length cap, c]] w fun e w' => ∃ v pts, e = .returned v ∧ w'.ownsRow w.heap.size 43 2 v pts.length (flatP pts) ∧ SPt pts ((ty zs W H).flatMap cnr) ∧ pts.length ≤ 3 * (ty zs W H).length ∧ Below w.heap.size w w' := by
  have C29 : Hid (∀ W' : World, Below w.heap.size w W' → Calls Tryd.prog 30 #[.agg #[.int .i64 (W : Int), .int .i64 (H : Int), .slice (some ⟨b, off, none⟩) zs.length cap, c]] W' fun e w' => ∃ v, e = .returned v ∧ w'.ownsRow (W'.heap.size + 1) 80 3 v (ty zs W H).length (flatV (ty zs W H)) ∧ Below W'.heap.size W' w') := fun W' hW' => trisOf_any W H b off cap zs c W' (hr.kept hW') hW hH hl hm
  have HBD : Hid (∀ t ∈ ty zs W H, (0 ≤ t.1 ∧ t.1 ≤ 8) ∧ (0 ≤ t.2.1 ∧ t.2.1 ≤ 8) ∧ (0 ≤ t.2.2 ∧ t.2.2 ≤ 3)) := ty_bd hW.2 hH.2
  have hlen : (ty zs W H).length ≤ 256 := by have := ty_len zs W H hW.2; omega
  obtain ⟨i2, hi2, hz20, hz21, hz22⟩ := info_parts infP
  have HI : Hid (Tryd.prog.info? 43 = some i2 ∧ i2.zero = some (.agg #[.int .i64 0, .int .i64 0]) ∧ i2.size = 2 ∧ i2.bytes = 16) := ⟨hi2, hz20, hz21, hz22⟩
  obtain ⟨L, hL⟩ : ∃ L, L = ty zs W H := ⟨_, rfl⟩
  rw [← hL] at C29 HBD hlen ⊢
  clear hr hW hH hl hm hL hi2 hz20 hz21 hz22
  have he := eql25
  go_enter Tryd.func33, Tryd.ntmps33
  go_wp2_with (go_at_call 30; refine (C29.out _ (by with_reducible exact bl_alloc (bl_refl _))).mono ?_; rintro e w1 ⟨v, rfl, ho, hb⟩; obtain ⟨a, ca, rfl, hT⟩ := own_tris ho; have HW : Hid (TRow w1 a L ∧ Below w.heap.size w w1) := ⟨hT, bl_via (bl_alloc (bl_refl _)) hb⟩; clear hT ho hb)
  go_loopg [4, 5] L.length (fun gk s4 s5 wx => ∃ (i : Nat) (pts : List (Int × Int)), i ≤ L.length ∧ gk = L.length - i ∧ s5 = .int .i64 (i : Int) ∧ SPt pts ((L.take i).flatMap cnr) ∧ pts.length ≤ 3 * i ∧ RP w1 wx s4 pts)
  case atStart => exact ⟨0, [], by omega, rfl, rfl, ⟨by simp, by simp⟩, by simp, by simpa [flatP] using World.ownsRow_nil _ _ _ _, bl_refl _⟩
  case round =>
    obtain ⟨i, pts, hi, rfl, rfl, hS, hpl, hR⟩ := hrel
    obtain ⟨vA, hvA⟩ : ∃ u, u = u4 := ⟨_, rfl⟩
    subst hvA
    have HS : Hid (SPt pts ((L.take i).flatMap cnr) ∧ pts.length ≤ 3 * i ∧ RP w1 wr vA pts) := ⟨hS, hpl, hR⟩
    clear hS hpl hR
    by_cases h1 : i < L.length
    · have i1 : (i : Int) < (L.length : Int) := by omega
      have i0 : (0 : Int) ≤ (i : Int) := by omega
      obtain ⟨ga, rfl, t0, t1, t2⟩ := (HW.out.1.kept HS.out.2.2.2) i h1
      obtain ⟨t, ht⟩ : ∃ t, t = L[i] := ⟨_, rfl⟩
      obtain ⟨x, y, kk⟩ := t
      have hbd := HBD.out _ (List.getElem_mem h1)
      rw [← ht] at t0 t1 t2 hbd
      dsimp only at t0 t1 t2 hbd
      have HT : Hid ((x, y, kk) = L[i]) := ht
      have zt : ga < wr.heap.size := World.block_lt_of_cell? _ _ t0
      have C34 : Hid (∀ W' : World, Calls Tryd.prog 35 #[.agg #[.int .i64 x, .int .i64 y, .int .i64 kk]] W' fun e w' => ∃ g, e = .returned (.slice (some ⟨g, 0, none⟩) 3 3) ∧ W'.heap.size ≤ g ∧ Mp w' g (2 * x + 1) (2 * y + 1) (c1x x kk) (c1y y kk) (c2x x kk) (c2y y kk) ∧ Below W'.heap.size W' w') := fun W' => cornersOfW_any x y kk W' (by omega) (by omega) (by omega) (by omega) (by omega) (by omega)
      clear ht hbd
      go_wp2_with (go_at_call 35; refine (C34.out _).mono ?_; rintro e w4 ⟨gc, rfl, hgc, hMp, hb⟩; have HG4 : Hid (RP w1 w4 vA pts ∧ P3 w4 gc (x, y, kk) ∧ some gc ≠ vA.ownBlock) := ⟨HS.out.2.2.kept hb, P3.of hMp, fun e => by have := (HS.out.2.2.1.lt gc e.symm).2; omega⟩; clear hgc hMp hb)
      go_loopg [4, 7] 3 (fun gk s4 s7 wx => ∃ (k : Nat) (ps : List (Int × Int)), k ≤ 3 ∧ gk = 3 - k ∧ s7 = .int .i64 (k : Int) ∧ SPt ps ((L.take i).flatMap cnr ++ (cnr (x, y, kk)).take k) ∧ ps.length ≤ 3 * i + k ∧ RP w1 wx s4 ps ∧ P3 wx gc (x, y, kk) ∧ some gc ≠ s4.ownBlock)
      case atStart => exact ⟨0, pts, by omega, rfl, rfl, by simpa using HS.out.1, by simpa using HS.out.2.1, HG4.out.1, HG4.out.2.1, HG4.out.2.2⟩
      case round =>
        clear HG4 HS C34 t0 t1 t2 zt
        obtain ⟨k, ps, hk, rfl, rfl, hS, hpl, hR, hP3, hne⟩ := hrel
        obtain ⟨vB, hvB⟩ : ∃ u, u = u4 := ⟨_, rfl⟩
        subst hvB
        obtain ⟨pa, pc, rfl, hPR⟩ := own_points hR.1
        have HS : Hid (SPt ps ((L.take i).flatMap cnr ++ (cnr (x, y, kk)).take k) ∧ ps.length ≤ 3 * i + k ∧ RP w1 wr (.slice pa ps.length pc) ps ∧ P3 wr gc (x, y, kk) ∧ some gc ≠ (Value.slice pa ps.length pc).ownBlock) := ⟨hS, hpl, hR, hP3, hne⟩
        have hpl2 : ps.length ≤ 800 := by omega
        clear hS hpl hR hne
        by_cases hk1 : k < 3
        · have ik : (k : Int) < 3 := by omega
          have ik0 : (0 : Int) ≤ (k : Int) := by omega
          have hk3 : k < (cnr (x, y, kk)).length := by simpa [cnr] using hk1
          obtain ⟨m0, m1⟩ := hP3 k hk3
          obtain ⟨q, hq⟩ : ∃ q, q = (cnr (x, y, kk))[k] := ⟨_, rfl⟩
          obtain ⟨qx, qy⟩ := q
          rw [← hq] at m0 m1
          dsimp only at m0 m1
          have HQ : Hid ((qx, qy) = (cnr (x, y, kk))[k]) := hq
          have zc : gc < wr.heap.size := World.block_lt_of_cell? _ _ m0
          have HPR : Hid (PRow wr pa ps) := hPR
          have HM : Hid (wr.cell? ⟨gc, k * 2, none⟩ = some (.int .i64 qx) ∧ wr.cell? ⟨gc, k * 2 + 1, none⟩ = some (.int .i64 qy)) := ⟨m0, m1⟩
          clear hq hPR hP3
          obtain ⟨WB, hWB⟩ : ∃ W', W' = wr := ⟨_, rfl⟩
          rw [← hWB] at HS HPR HM
          have hWB2 : Below WB.heap.size WB wr := by rw [hWB]; exact bl_refl _
          have HWB : Hid (Below WB.heap.size WB wr) := hWB2
          clear hWB2 hWB m0 m1 zc
          go_wp2
          go_loopg [8] ps.length (fun gk s8 wx => ∃ n : Nat, n ≤ ps.length ∧ gk = ps.length - n ∧ s8 = .int .i64 (n : Int) ∧ (∀ m (hm : m < ps.length), m < n → ltP ps[m] (qx, qy)) ∧ Below WB.heap.size WB wx)
          case atStart => exact ⟨0, by omega, rfl, rfl, fun m _ h => by omega, HWB.out⟩
          case round =>
            clear HWB
            obtain ⟨n, hn, rfl, rfl, hlt, hB⟩ := hrel
            have HA : Hid ((∀ m (hm : m < ps.length), m < n → ltP ps[m] (qx, qy)) ∧ Below WB.heap.size WB wr) := ⟨hlt, hB⟩
            have m0 := cl_kept hB HM.out.1
            have m1 := cl_kept hB HM.out.2
            have zc : gc < wr.heap.size := World.block_lt_of_cell? _ _ m0
            clear hlt hB
            have kc := Kin.cells wr
            have kn : Nonempty (Kin wr) := ⟨⟨wr, bl_refl _⟩⟩
            by_cases h2 : n < ps.length
            · have in1 : (n : Int) < (ps.length : Int) := by omega
              have in0 : (0 : Int) ≤ (n : Int) := by omega
              obtain ⟨pg, rfl, e0, e1⟩ := HPR.out n h2
              obtain ⟨p, hp⟩ : ∃ p, p = ps[n] := ⟨_, rfl⟩
              obtain ⟨px, py⟩ := p
              rw [← hp] at e0 e1
              dsimp only at e0 e1
              replace e0 := cl_kept HA.out.2 e0
              replace e1 := cl_kept HA.out.2 e1
              have zp : pg < wr.heap.size := World.block_lt_of_cell? _ _ e0
              have HPP : Hid ((px, py) = ps[n]) := hp
              clear hp
              cases hls : lessB px py qx qy
              · have CLP : Hid (∀ W' : World, Calls Tryd.prog 60 #[.agg #[.int .i64 px, .int .i64 py], .agg #[.int .i64 qx, .int .i64 qy]] W' fun e w' => e = .returned (.bool false) ∧ Below W'.heap.size W' w') := fun W' => hls ▸ lessPoint_kin px py qx qy W'
                go_wp2
                refine wp_region_kin (by kernel_rfl) (by kernel_rfl) ?_
                repeat (go_big_quiet_step ((go_at_call 60; exact kin_of (CLP.out _))))
                refine wpQuiet_nil ?_
                intro wq hw'
                obtain ⟨nq, hw''⟩ := hw'
                have hq : Below wr.heap.size wr wq := hw'' ▸ nq.h
                have HQQ : Hid (Below WB.heap.size WB wq) := bl_via HA.out.2 hq
                replace m0 := cl_kept hq m0
                replace m1 := cl_kept hq m1
                replace e0 := cl_kept hq e0
                replace e1 := cl_kept hq e1
                have zc2 : gc < wq.heap.size := World.block_lt_of_cell? _ _ m0
                have zp2 : pg < wq.heap.size := World.block_lt_of_cell? _ _ e0
                clear hw'' nq hq kc kn zc zp
                by_cases heq : px = qx ∧ py = qy
                · have hd : decide (px = qx ∧ py = qy) = true := by simpa using heq
                  have HEQ : Hid ((qx, qy) ∈ ps) := by
                    have : (qx, qy) ∈ ps := by
                      rw [← heq.1, ← heq.2, HPP.out]
                      exact List.getElem_mem h2
                    exact this
                  clear heq
                  go_wp2
                  go_quiet (fail)
                  go_wp2
                  go_roundg (3 - (k + 1))
                  case measure => omega
                  case rel =>
                    have hbq : Below WB.heap.size WB (wq.drewN 1) := bl_drewN HQQ.out
                    refine ⟨k + 1, ps, by omega, rfl, by go_num, ?_, by have := HS.out.2.1; omega, HS.out.2.2.1.kept (bl_drewN HQQ.out), HS.out.2.2.2.1.grown (bl_grown (bl_drewN HQQ.out)) (by simp), HS.out.2.2.2.2⟩
                    rw [List.take_succ_eq_append_getElem hk3, ← List.append_assoc, ← HQ.out]
                    exact HS.out.1.has HEQ.out
                · have hd : decide (px = qx ∧ py = qy) = false := by simpa using heq
                  have HNL : Hid (∀ hm : n < ps.length, ¬ ltP ps[n] (qx, qy) ∧ ps[n] ≠ (qx, qy)) := fun hm => by
                    rw [← HPP.out]
                    refine ⟨fun h => ?_, fun e => heq (by simpa using e)⟩
                    rw [(lessB_iff px py qx qy).2 h] at hls
                    cases hls
                  clear heq
                  go_wp2
                  go_quiet (fail)
                  generalize hwd : World.drewN wq _ = wd
                  have hbd9 : Below WB.heap.size WB wd := by rw [← hwd]; exact bl_drewN HQQ.out
                  have HZ : Hid (RP w1 wd (.slice (some ⟨pg, 0, none⟩) ps.length pc) ps ∧ P3 wd gc (x, y, kk) ∧ some gc ≠ (Value.slice (some ⟨pg, 0, none⟩) ps.length pc).ownBlock ∧ gc < wd.heap.size) := ⟨HS.out.2.2.1.kept hbd9, HS.out.2.2.2.1.grown (bl_grown hbd9) (by simp), HS.out.2.2.2.2, by rw [← hwd]; exact zc2⟩
                  replace m0 : wd.cell? ⟨gc, k * 2, none⟩ = some (.int .i64 qx) := by rw [← hwd]; exact m0
                  replace m1 : wd.cell? ⟨gc, k * 2 + 1, none⟩ = some (.int .i64 qy) := by rw [← hwd]; exact m1
                  have zc3 : gc < wd.heap.size := World.block_lt_of_cell? _ _ m0
                  clear hwd hbd9 e0 e1 zc2 zp2 HQQ hd hls
                  obtain ⟨n', hn'⟩ : ∃ m, m = ps.length := ⟨_, rfl⟩
                  go_wp2_with (at_builtin; refine wpList_append_lies _ rfl (.tmp 59) (.tmp 64) 83 rfl w1.heap.size 43 i2 (.agg #[.int .i64 0, .int .i64 0]) 2 16 Tryd.underlying83 HI.out.1 HI.out.2.1 HI.out.2.2.1 HI.out.2.2.2 rfl (by decide) _ ps.length (flatP ps) rfl ?own ⟨wd.heap.size, 0, none⟩ 1 1 [.int .i64 qx, .int .i64 qy] rfl rfl ?c1 ?c2 (by decide) ?b1 ?b2 ?b3 (wd.heap.size + 1) ?b4 ?grow)
                  case own => exact own_below HZ.out.1.1 (bl_alloc (bl_refl _))
                  case c1 => exact cell_two_pt _ _ _ _
                  case c2 =>
                    intro u hu
                    simp at hu
                    rcases hu with rfl | rfl <;> rfl
                  case b1 =>
                    unfold maxLen
                    omega
                  case b2 => omega
                  case b3 =>
                    have := HZ.out.1.2.size
                    simp
                    omega
                  case b4 => simp
                  case grow =>
                    intro g cap' w3 hown hgrow hat hlt3
                    have hown2 : w3.ownsRow w1.heap.size 43 2 (.slice (some ⟨g, 0, none⟩) (ps.length + 1) cap') (ps.length + 1) (flatP (sh ps (qx, qy) ps.length)) := by
                      rw [sh_start, flatP_add]
                      simpa [flatP] using hown
                    have hb3 : Below w1.heap.size w1 w3 := (bl_alloc (o := .cells #[.int .i64 qx, .int .i64 qy] 43) HZ.out.1.2).grown hgrow (by have := HZ.out.1.2.size; simp; omega) (fun k' hk' => (HZ.out.1.1.lt k' hk').1)
                    have hP3b : P3 w3 gc (x, y, kk) := (HZ.out.2.1.grown (bl_grown (bl_alloc (bl_refl _))) (by simp)).grown hgrow HZ.out.2.2.1
                    have hgcg : gc ≠ g := by
                      rcases hat with h | h
                      · exact fun e => HZ.out.2.2.1 (by rw [e]; exact h.symm)
                      · intro e
                        have := HZ.out.2.2.2
                        omega
                    have HN3 : Hid (w3.ownsRow w1.heap.size 43 2 (.slice (some ⟨g, 0, none⟩) (ps.length + 1) cap') (ps.length + 1) (flatP (sh ps (qx, qy) ps.length)) ∧ Below w1.heap.size w1 w3 ∧ P3 w3 gc (x, y, kk)) := ⟨hown2, hb3, hP3b⟩
                    have hg1 : w1.heap.size ≤ g := (hown2.lt g rfl).1
                    clear hown hgrow hat hlt3 hown2 hb3 hP3b
                    go_wp2
                    go_loopg [9] (ps.length - n) (fun gk s9 wx => ∃ j : Nat, n ≤ j ∧ j ≤ ps.length ∧ gk = j - n ∧ s9 = .int .i64 (j : Int) ∧ wx.ownsRow w1.heap.size 43 2 (.slice (some ⟨g, 0, none⟩) (ps.length + 1) cap') (ps.length + 1) (flatP (sh ps (qx, qy) j)) ∧ Below w1.heap.size w1 wx ∧ P3 wx gc (x, y, kk))
                    case atStart => exact ⟨ps.length, by omega, by omega, rfl, by go_num, HN3.out⟩
                    case round =>
                      clear HN3
                      obtain ⟨j, hnj, hjl, rfl, rfl, ho, hb, hP⟩ := hrel
                      have HO : Hid (wr.ownsRow w1.heap.size 43 2 (.slice (some ⟨g, 0, none⟩) (ps.length + 1) cap') (ps.length + 1) (flatP (sh ps (qx, qy) j)) ∧ Below w1.heap.size w1 wr ∧ P3 wr gc (x, y, kk)) := ⟨ho, hb, hP⟩
                      clear ho hb hP
                      by_cases hj1 : n < j
                      · obtain ⟨j', rfl⟩ : ∃ j', j = j' + 1 := ⟨j - 1, by omega⟩
                        have hjp : j' < ps.length := by omega
                        obtain ⟨u, hu⟩ : ∃ u, u = ps[j'] := ⟨_, rfl⟩
                        obtain ⟨ux, uy⟩ := u
                        have HU : Hid ((ux, uy) = ps[j']) := hu
                        have hsl := sh_len (c := (qx, qy)) hjl
                        have hget : (sh ps (qx, qy) (j' + 1))[j']'(by omega) = (ux, uy) := by
                          rw [sh_low hjl (by omega) (by omega) (by simp; omega), List.getElem_append_left hjp]
                          exact hu.symm
                        have f9 := flatP_at (sh ps (qx, qy) (j' + 1)) j' (by omega)
                        rw [hget] at f9
                        have f8 := flatP_at (sh ps (qx, qy) (j' + 1)) (j' + 1) (by omega)
                        have c0 : wr.cell? ⟨g, j' * 2, none⟩ = some (.int .i64 ux) := (HO.out.1.cellAt _ (by omega)).trans f9.1
                        have c1 : wr.cell? ⟨g, j' * 2 + 1, none⟩ = some (.int .i64 uy) := (HO.out.1.cellAt _ (by omega)).trans f9.2
                        have d0 := (HO.out.1.cellAt ((j' + 1) * 2) (by omega)).trans f8.1
                        have d1 := (HO.out.1.cellAt ((j' + 1) * 2 + 1) (by omega)).trans f8.2
                        have g0 := HO.out.1.frozenAt ((j' + 1) * 2)
                        have g1 := HO.out.1.frozenAt ((j' + 1) * 2 + 1)
                        have zg : g < wr.heap.size := World.block_lt_of_cell? _ _ c0
                        obtain ⟨du, hdu⟩ : ∃ d, d = (sh ps (qx, qy) (j' + 1))[j' + 1]'(by omega) := ⟨_, rfl⟩
                        rw [← hdu] at d0 d1
                        obtain ⟨dx', dy'⟩ := du
                        dsimp only at d0 d1
                        have ij1 : (n : Int) < (j' : Int) + 1 := by omega
                        have ij2 : (j' : Int) + 1 < (ps.length : Int) + 1 := by omega
                        have ij3 : (j' : Int) < (ps.length : Int) + 1 := by omega
                        have ij0 : (0 : Int) ≤ (j' : Int) := by omega
                        clear hu hget f9 f8 hdu hsl
                        go_wp2
                        go_roundg (j' - n)
                        case measure => omega
                        case rel =>
                          have h9 := own_put HO.out.1 (j' + 1) ux uy
                          rw [HU.out, sh_step (by omega)] at h9
                          refine ⟨j', by omega, by omega, rfl, rfl, ?_, HO.out.2.1.grown (own_put HO.out.1 (j' + 1) ux uy).2 HO.out.2.1.size (fun k' hk' => by simp at hk'; omega), HO.out.2.2.grown (own_put HO.out.1 (j' + 1) ux uy).2 (by simpa using hgcg)⟩
                          exact h9.1
                      · obtain rfl : j = n := by omega
                        have hsl := sh_len (c := (qx, qy)) hjl
                        have f8 := flatP_at (sh ps (qx, qy) j) j (by omega)
                        have d0 := (HO.out.1.cellAt (j * 2) (by omega)).trans f8.1
                        have d1 := (HO.out.1.cellAt (j * 2 + 1) (by omega)).trans f8.2
                        have g0 := HO.out.1.frozenAt (j * 2)
                        have g1 := HO.out.1.frozenAt (j * 2 + 1)
                        have zg : g < wr.heap.size := World.block_lt_of_cell? _ _ d0
                        obtain ⟨du, hdu⟩ : ∃ d, d = (sh ps (qx, qy) j)[j]'(by omega) := ⟨_, rfl⟩
                        rw [← hdu] at d0 d1
                        obtain ⟨dx', dy'⟩ := du
                        dsimp only at d0 d1
                        obtain ⟨n0, n1⟩ := HO.out.2.2 k hk3
                        rw [← HQ.out] at n0 n1
                        dsimp only at n0 n1
                        have zgc : gc < wr.heap.size := World.block_lt_of_cell? _ _ n0
                        have ij1 : ¬ (j : Int) < (j : Int) := by omega
                        have ij2 : (j : Int) < (ps.length : Int) + 1 := by omega
                        have ij0 : (0 : Int) ≤ (j : Int) := by omega
                        clear f8 hdu hsl
                        go_wp2
                        go_roundg (3 - (k + 1))
                        case measure => omega
                        case rel =>
                          have h9 := own_put HO.out.1 j qx qy
                          rw [sh_end hjl] at h9
                          have hl9 : (ps.take j ++ (qx, qy) :: ps.drop j).length = ps.length + 1 := by
                            rw [List.length_append, List.length_take, List.length_cons, List.length_drop]
                            omega
                          refine ⟨k + 1, ps.take j ++ (qx, qy) :: ps.drop j, by omega, rfl, by go_num, ?_, by rw [hl9]; have := HS.out.2.1; omega, ⟨by rw [hl9]; exact h9.1, HO.out.2.1.grown h9.2 HO.out.2.1.size (fun k' hk' => by simp at hk'; omega)⟩, HO.out.2.2.grown h9.2 (by simpa using hgcg), by simpa [Value.ownBlock] using hgcg⟩
                          rw [List.take_succ_eq_append_getElem hk3, ← List.append_assoc, ← HQ.out]
                          exact HS.out.1.put hjl HA.out.1 HNL.out
              · have CLP : Hid (∀ W' : World, Calls Tryd.prog 60 #[.agg #[.int .i64 px, .int .i64 py], .agg #[.int .i64 qx, .int .i64 qy]] W' fun e w' => e = .returned (.bool true) ∧ Below W'.heap.size W' w') := fun W' => hls ▸ lessPoint_kin px py qx qy W'
                have HLT : Hid (ltP ps[n] (qx, qy)) := by
                  have : ltP ps[n] (qx, qy) := by rw [← HPP.out]; exact (lessB_iff px py qx qy).1 hls
                  exact this
                go_wp2
                refine wp_region_kin (by kernel_rfl) (by kernel_rfl) ?_
                repeat (go_big_quiet_step ((go_at_call 60; exact kin_of (CLP.out _))))
                refine wpQuiet_nil ?_
                intro wq hw'
                obtain ⟨nq, hw''⟩ := hw'
                have hq : Below wr.heap.size wr wq := hw'' ▸ nq.h
                have HQQ : Hid (Below WB.heap.size WB wq) := bl_via HA.out.2 hq
                clear hw'' nq hq kc kn
                go_wp2
                go_roundg (ps.length - (n + 1))
                case measure => omega
                case rel =>
                  refine ⟨n + 1, by omega, rfl, by go_num, fun m hm hmn => ?_, HQQ.out⟩
                  by_cases e : m = n
                  · subst e
                    exact HLT.out
                  · exact HA.out.1 m hm (by omega)
            · have in1 : ¬ (n : Int) < (ps.length : Int) := by omega
              have HNL : Hid (∀ hm : n < ps.length, ¬ ltP ps[n] (qx, qy) ∧ ps[n] ≠ (qx, qy)) := fun hm => absurd hm h2
              go_wp2
              refine wp_region_kin (by kernel_rfl) (by kernel_rfl) ?_
              repeat (go_big_quiet_step (fail))
              refine wpQuiet_nil ?_
              intro wq hw'
              obtain ⟨nq, hw''⟩ := hw'
              have hq : Below wr.heap.size wr wq := hw'' ▸ nq.h
              have HQQ : Hid (Below WB.heap.size WB wq) := bl_via HA.out.2 hq
              replace m0 := cl_kept hq m0
              replace m1 := cl_kept hq m1
              have zc2 : gc < wq.heap.size := World.block_lt_of_cell? _ _ m0
              clear hw'' nq hq kc kn zc
              go_wp2
              go_quiet (fail)
              generalize hwd : World.drewN wq _ = wd
              have hbd9 : Below WB.heap.size WB wd := by rw [← hwd]; exact bl_drewN HQQ.out
              have HZ : Hid (RP w1 wd (.slice pa ps.length pc) ps ∧ P3 wd gc (x, y, kk) ∧ some gc ≠ (Value.slice pa ps.length pc).ownBlock ∧ gc < wd.heap.size) := ⟨HS.out.2.2.1.kept hbd9, HS.out.2.2.2.1.grown (bl_grown hbd9) (by simp), HS.out.2.2.2.2, by rw [← hwd]; exact zc2⟩
              replace m0 : wd.cell? ⟨gc, k * 2, none⟩ = some (.int .i64 qx) := by rw [← hwd]; exact m0
              replace m1 : wd.cell? ⟨gc, k * 2 + 1, none⟩ = some (.int .i64 qy) := by rw [← hwd]; exact m1
              have zc3 : gc < wd.heap.size := World.block_lt_of_cell? _ _ m0
              clear hwd hbd9 zc2 HQQ
              obtain ⟨n', hn'⟩ : ∃ m, m = ps.length := ⟨_, rfl⟩
              go_wp2_with (at_builtin; refine wpList_append_lies _ rfl (.tmp 59) (.tmp 64) 83 rfl w1.heap.size 43 i2 (.agg #[.int .i64 0, .int .i64 0]) 2 16 Tryd.underlying83 HI.out.1 HI.out.2.1 HI.out.2.2.1 HI.out.2.2.2 rfl (by decide) _ ps.length (flatP ps) rfl ?own ⟨wd.heap.size, 0, none⟩ 1 1 [.int .i64 qx, .int .i64 qy] rfl rfl ?c1 ?c2 (by decide) ?b1 ?b2 ?b3 (wd.heap.size + 1) ?b4 ?grow)
              case own => exact own_below HZ.out.1.1 (bl_alloc (bl_refl _))
              case c1 => exact cell_two_pt _ _ _ _
              case c2 =>
                intro u hu
                simp at hu
                rcases hu with rfl | rfl <;> rfl
              case b1 =>
                unfold maxLen
                omega
              case b2 => omega
              case b3 =>
                have := HZ.out.1.2.size
                simp
                omega
              case b4 => simp
              case grow =>
                intro g cap' w3 hown hgrow hat hlt3
                have hown2 : w3.ownsRow w1.heap.size 43 2 (.slice (some ⟨g, 0, none⟩) (ps.length + 1) cap') (ps.length + 1) (flatP (sh ps (qx, qy) ps.length)) := by
                  rw [sh_start, flatP_add]
                  simpa [flatP] using hown
                have hb3 : Below w1.heap.size w1 w3 := (bl_alloc (o := .cells #[.int .i64 qx, .int .i64 qy] 43) HZ.out.1.2).grown hgrow (by have := HZ.out.1.2.size; simp; omega) (fun k' hk' => (HZ.out.1.1.lt k' hk').1)
                have hP3b : P3 w3 gc (x, y, kk) := (HZ.out.2.1.grown (bl_grown (bl_alloc (bl_refl _))) (by simp)).grown hgrow HZ.out.2.2.1
                have hgcg : gc ≠ g := by
                  rcases hat with h | h
                  · exact fun e => HZ.out.2.2.1 (by rw [e]; exact h.symm)
                  · intro e
                    have := HZ.out.2.2.2
                    omega
                have HN3 : Hid (w3.ownsRow w1.heap.size 43 2 (.slice (some ⟨g, 0, none⟩) (ps.length + 1) cap') (ps.length + 1) (flatP (sh ps (qx, qy) ps.length)) ∧ Below w1.heap.size w1 w3 ∧ P3 w3 gc (x, y, kk)) := ⟨hown2, hb3, hP3b⟩
                have hg1 : w1.heap.size ≤ g := (hown2.lt g rfl).1
                clear hown hgrow hat hlt3 hown2 hb3 hP3b
                go_wp2
                go_loopg [9] (ps.length - n) (fun gk s9 wx => ∃ j : Nat, n ≤ j ∧ j ≤ ps.length ∧ gk = j - n ∧ s9 = .int .i64 (j : Int) ∧ wx.ownsRow w1.heap.size 43 2 (.slice (some ⟨g, 0, none⟩) (ps.length + 1) cap') (ps.length + 1) (flatP (sh ps (qx, qy) j)) ∧ Below w1.heap.size w1 wx ∧ P3 wx gc (x, y, kk))
                case atStart => exact ⟨ps.length, by omega, by omega, rfl, by go_num, HN3.out⟩
                case round =>
                  clear HN3
                  obtain ⟨j, hnj, hjl, rfl, rfl, ho, hb, hP⟩ := hrel
                  have HO : Hid (wr.ownsRow w1.heap.size 43 2 (.slice (some ⟨g, 0, none⟩) (ps.length + 1) cap') (ps.length + 1) (flatP (sh ps (qx, qy) j)) ∧ Below w1.heap.size w1 wr ∧ P3 wr gc (x, y, kk)) := ⟨ho, hb, hP⟩
                  clear ho hb hP
                  by_cases hj1 : n < j
                  · exfalso
                    omega
                  · obtain rfl : j = n := by omega
                    have hsl := sh_len (c := (qx, qy)) hjl
                    have f8 := flatP_at (sh ps (qx, qy) j) j (by omega)
                    have d0 := (HO.out.1.cellAt (j * 2) (by omega)).trans f8.1
                    have d1 := (HO.out.1.cellAt (j * 2 + 1) (by omega)).trans f8.2
                    have g0 := HO.out.1.frozenAt (j * 2)
                    have g1 := HO.out.1.frozenAt (j * 2 + 1)
                    have zg : g < wr.heap.size := World.block_lt_of_cell? _ _ d0
                    obtain ⟨du, hdu⟩ : ∃ d, d = (sh ps (qx, qy) j)[j]'(by omega) := ⟨_, rfl⟩
                    rw [← hdu] at d0 d1
                    obtain ⟨dx', dy'⟩ := du
                    dsimp only at d0 d1
                    obtain ⟨n0, n1⟩ := HO.out.2.2 k hk3
                    rw [← HQ.out] at n0 n1
                    dsimp only at n0 n1
                    have zgc : gc < wr.heap.size := World.block_lt_of_cell? _ _ n0
                    have ij1 : ¬ (j : Int) < (j : Int) := by omega
                    have ij2 : (j : Int) < (ps.length : Int) + 1 := by omega
                    have ij0 : (0 : Int) ≤ (j : Int) := by omega
                    clear f8 hdu hsl
                    go_wp2
                    go_roundg (3 - (k + 1))
                    case measure => omega
                    case rel =>
                      have h9 := own_put HO.out.1 j qx qy
                      rw [sh_end hjl] at h9
                      have hl9 : (ps.take j ++ (qx, qy) :: ps.drop j).length = ps.length + 1 := by
                        rw [List.length_append, List.length_take, List.length_cons, List.length_drop]
                        omega
                      refine ⟨k + 1, ps.take j ++ (qx, qy) :: ps.drop j, by omega, rfl, by go_num, ?_, by rw [hl9]; have := HS.out.2.1; omega, ⟨by rw [hl9]; exact h9.1, HO.out.2.1.grown h9.2 HO.out.2.1.size (fun k' hk' => by simp at hk'; omega)⟩, HO.out.2.2.grown h9.2 (by simpa using hgcg), by simpa [Value.ownBlock] using hgcg⟩
                      rw [List.take_succ_eq_append_getElem hk3, ← List.append_assoc, ← HQ.out]
                      exact HS.out.1.put hjl HA.out.1 HNL.out
        · have ik : ¬ (k : Int) < 3 := by omega
          obtain rfl : k = 3 := by omega
          go_wp2
          go_roundg (L.length - (i + 1))
          case measure => omega
          case rel =>
            refine ⟨i + 1, ps, by omega, rfl, by go_num, ?_, by have := HS.out.2.1; omega, HS.out.2.2.1⟩
            have h9 := HS.out.1
            rw [List.take_succ_eq_append_getElem h1, List.flatMap_append, ← HT.out]
            simpa [cnr] using h9
    · have i1 : ¬ (i : Int) < (L.length : Int) := by omega
      obtain rfl : i = L.length := by omega
      go_wp2
      go_ret
      have h9 := HS.out
      rw [List.take_length] at h9
      exact ⟨vA, rfl, pts, ⟨h9.2.2.1.1, (by
        rcases h9.2.2.1.2 with h | ⟨g, cap', cur, h2, h3, h4⟩
        · exact .inl h
        · exact .inr ⟨g, cap', cur, h2, Nat.le_trans HW.out.2.size h3, h4⟩)⟩, h9.1, h9.2.1, bl_via HW.out.2 h9.2.2.2⟩
end Go.Proofs.YtmjneoaciopioaaDoor
