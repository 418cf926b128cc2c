/- The points of triangles, and the paper around them: what is kept in memory. -/
import Derived.Test.YtoedcefbmbfnhabDoorFill
import Derived.Test.YtoedcefbmbfnhabDoorPkae
import Derived.Test.YtoedcefbmbfnhabDoorPkai
namespace Go.Proofs.YtoedcefbmbfnhabDoor
open Go.RowKit Go.ChangeMaps

/-- Paper filled in at points: where, from which direction, how far. -/
def bitsOf (P : List ((Int × Int) × Nat × Nat)) (pt : Int × Int) (d : Nat) : Bool := P.any fun x => decide (x.1 = pt) && fillJ (fun _ => false) x.2.1 x.2.2 d
def hasPt (P : List ((Int × Int) × Nat × Nat)) (pt : Int × Int) : Bool := P.any fun x => decide (x.1 = pt)
def pv (P : List ((Int × Int) × Nat × Nat)) (pt : Int × Int) : Option Value := if hasPt P pt = true then some (arv (bitsOf P pt) (fun _ => 0)) else none
theorem fillJ_or (b : Nat → Bool) (fr : Nat) : ∀ n d, fillJ b fr n d = (b d || fillJ (fun _ => false) fr n d)
  | 0, d => by simp [fillJ]
  | n + 1, d => by
    unfold fillJ
    rw [fillJ_or b fr n d, Bool.or_assoc]
theorem bits_snoc (P : List ((Int × Int) × Nat × Nat)) (pt : Int × Int) (fr n : Nat) : bitsOf (P ++ [(pt, fr, n)]) pt = fillJ (bitsOf P pt) fr n := by
  funext d
  rw [fillJ_or]
  simp [bitsOf]
theorem bits_other (P : List ((Int × Int) × Nat × Nat)) {pt q : Int × Int} (fr n : Nat) (h : q ≠ pt) : bitsOf (P ++ [(pt, fr, n)]) q = bitsOf P q := by
  funext d
  simp [bitsOf, Ne.symm h]
theorem bits_none {P : List ((Int × Int) × Nat × Nat)} {pt : Int × Int} (h : hasPt P pt = false) : bitsOf P pt = fun _ => false := by
  funext d
  simp only [hasPt, List.any_eq_false, decide_eq_true_eq] at h
  simp only [bitsOf, List.any_eq_false, Bool.and_eq_true, decide_eq_true_eq, not_and]
  exact fun x hx e => absurd e (h x hx)
theorem pv_getD (P : List ((Int × Int) × Nat × Nat)) (pt : Int × Int) : (pv P pt).getD (arv (fun _ => false) (fun _ => 0)) = arv (bitsOf P pt) (fun _ => 0) := by
  unfold pv
  cases h : hasPt P pt
  · simp [bits_none h]
  · simp
theorem pv_snoc (P : List ((Int × Int) × Nat × Nat)) (pt q : Int × Int) (fr n : Nat) : pv (P ++ [(pt, fr, n)]) q = if q = pt then some (arv (fillJ (bitsOf P pt) fr n) (fun _ => 0)) else pv P q := by
  by_cases h : q = pt
  · subst h
    have : hasPt (P ++ [(q, fr, n)]) q = true := by simp [hasPt]
    simp [pv, this, bits_snoc]
  · have : hasPt (P ++ [(pt, fr, n)]) q = hasPt P q := by simp [hasPt, Ne.symm h]
    simp [pv, this, bits_other P fr n h, h]
theorem Pm.EM.grown {w w' : World} {r : Nat} {ls : List ((Int × Int) × Value × Nat)} {c : Nat} {row : Option Nat} (h : Pm.EM w r ls c) (hg : w.grownBy w' row) (hne : some r ≠ row) : Pm.EM w' r ls c := (hg.block r (Array.getElem?_eq_some_iff.1 h).1 hne).trans h
/-- The map of points in memory. -/
def PtM (w wx : World) (rm : Nat) (P : List ((Int × Int) × Nat × Nat)) : Prop := (∃ ls c, Pm.EM wx rm ls c ∧ Pm.Good ls c ∧ ∀ pt, Pm.lk ls pt = pv P pt) ∧ Below w.heap.size w wx ∧ w.heap.size ≤ rm
theorem PtM.lt {w wx : World} {rm : Nat} {P : List ((Int × Int) × Nat × Nat)} (h : PtM w wx rm P) : rm < wx.heap.size := by
  obtain ⟨ls, c, h1, _⟩ := h.1
  exact (Array.getElem?_eq_some_iff.1 h1).1
theorem PtM.kept {w wx w' : World} {rm : Nat} {P : List ((Int × Int) × Nat × Nat)} (h : PtM w wx rm P) (hb : Below wx.heap.size wx w') : PtM w w' rm P := by
  obtain ⟨⟨ls, c, h1, h2, h3⟩, h4, h5⟩ := h
  exact ⟨⟨ls, c, h1.grown (bl_grown hb) (by simp), h2, h3⟩, bl_via h4 hb, h5⟩
theorem zeroA (w : World) : (zeroValue 112).run Tryd.prog w = .ok (arv (fun _ => false) (fun _ => 0)) w := by kernel_rfl
theorem PtM.look {w wx : World} {rm : Nat} {P : List ((Int × Int) × Nat × Nat)} (h : PtM w wx rm P) (a b : Int) (wy : World) (hb : Below wx.heap.size wx wy) : (Instr.lookup 67 (.map (some rm)) (.agg #[.int .i64 a, .int .i64 b]) false).run Tryd.prog wy = .ok (arv (bitsOf P (a, b)) (fun _ => 0)) wy := by
  obtain ⟨⟨ls, c, h1, h2, h3⟩, _, _⟩ := h
  have := Pm.lookup27 Tryd.underlying67 zeroA (h1.grown (bl_grown hb) (by simp)) h2 (a, b)
  rw [h3, pv_getD] at this
  exact this
theorem PtM.update {w wx : World} {rm : Nat} {P : List ((Int × Int) × Nat × Nat)} (h : PtM w wx rm P) (a b : Int) (fr n : Nat) : ∃ W', (Instr.mapUpdate 67 (.map (some rm)) (.agg #[.int .i64 a, .int .i64 b]) (arv (fillJ (bitsOf P (a, b)) fr n) (fun _ => 0))).run Tryd.prog wx = .ok () W' ∧ wx.grownBy W' (some rm) ∧ PtM w W' rm (P ++ [((a, b), fr, n)]) := by
  obtain ⟨⟨ls, c, h1, h2, h3⟩, h4, h5⟩ := h
  obtain ⟨ls', c', hu, hg, hl, _⟩ := Pm.update27 Tryd.underlying67 h1 h2 (a, b) (arv (fillJ (bitsOf P (a, b)) fr n) (fun _ => 0))
  have hgr : wx.grownBy (setBlock wx rm (.map (ls'.map Pm.toE).toArray c')) (some rm) := grown_set h1 _
  refine ⟨_, hu, hgr, ⟨ls', c', ?_, hg, fun pt => ?_⟩, h4.grown hgr h4.size (fun k hk => by simp at hk; omega), h5⟩
  · unfold Pm.EM
    exact (heap_setBlock_same h1 _)
  · rw [hl pt, pv_snoc, h3]
/-- The corners of a triangle, and the paper there. -/
def tps (t : Int × Int × Int) : List ((Int × Int) × Nat × Nat) := [((2 * t.1 + 1, 2 * t.2.1 + 1), (5 + 2 * t.2.2.toNat) % 8, 2), ((c1x t.1 t.2.2, c1y t.2.1 t.2.2), (2 * t.2.2.toNat) % 8, 1), ((c2x t.1 t.2.2, c2y t.2.1 t.2.2), (3 + 2 * t.2.2.toNat) % 8, 1)]
theorem dirs {x y k : Int} (hk : 0 ≤ k ∧ k ≤ 3) :
    (cmp3 (c1x x k) (2 * x + 1) = dX ((5 + 2 * k.toNat) % 8) ∧ cmp3 (c1y y k) (2 * y + 1) = dY ((5 + 2 * k.toNat) % 8)) ∧ (cmp3 (c2x x k) (2 * x + 1) = dX ((5 + 2 * k.toNat + 2) % 8) ∧ cmp3 (c2y y k) (2 * y + 1) = dY ((5 + 2 * k.toNat + 2) % 8)) ∧
    (cmp3 (c2x x k) (c1x x k) = dX ((2 * k.toNat) % 8) ∧ cmp3 (c2y y k) (c1y y k) = dY ((2 * k.toNat) % 8)) ∧ (cmp3 (2 * x + 1) (c1x x k) = dX ((2 * k.toNat + 1) % 8) ∧ cmp3 (2 * y + 1) (c1y y k) = dY ((2 * k.toNat + 1) % 8)) ∧
    (cmp3 (2 * x + 1) (c2x x k) = dX ((3 + 2 * k.toNat) % 8) ∧ cmp3 (2 * y + 1) (c2y y k) = dY ((3 + 2 * k.toNat) % 8)) ∧ (cmp3 (c1x x k) (c2x x k) = dX ((3 + 2 * k.toNat + 1) % 8) ∧ cmp3 (c1y y k) (c2y y k) = dY ((3 + 2 * k.toNat + 1) % 8)) := by
  have hk4 : k = 0 ∨ k = 1 ∨ k = 2 ∨ k = 3 := by omega
  rcases hk4 with rfl | rfl | rfl | rfl <;> simp [cmp3, c1x, c1y, c2x, c2y, stX, stY, dX, dY] <;> omega
end Go.Proofs.YtoedcefbmbfnhabDoor
