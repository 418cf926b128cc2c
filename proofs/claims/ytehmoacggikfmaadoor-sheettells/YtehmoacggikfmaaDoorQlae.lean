/- What the listed variables' reading gives: the steps lie as start-up laid them; and a crease list's reading: five numbers a crease. -/
import Derived.Test.YtehmoacggikfmaaDoorRows
import Derived.Test.YtehmoacggikfmaaDoorQlab
import Derived.Test.YtehmoacggikfmaaDoorQlad
import Derived.ProofKit
import Derived.LaidMore
import Derived.OpenShut
import Derived.Stop.Joined
import Derived.Lib.SmallJoins
namespace Go.Proofs.YtehmoacggikfmaaDoor
open Go.ChangeShapes Go.WideShapes Go.ChangeAt Go.WideMaps Go.WideElems Go.RowKit Go.Joins

theorem Tryd.own : ownKnob Tryd.prog.godebug = none := by kernel_rfl
theorem gSteps : Tryd.prog.globalNamed "pleat/grid.steps" = some 2 := by kernel_rfl
theorem tSteps : (Tryd.prog.globals[2]?).map (·.type) = some 138 := by kernel_rfl
theorem c3 : Tryd.prog.cellsOf 3 = 1 := by kernel_rfl
theorem c25 : Tryd.prog.cellsOf 44 = 2 := by kernel_rfl
theorem c27 : Tryd.prog.cellsOf 46 = 4 := by kernel_rfl
theorem c70 : Tryd.prog.cellsOf 22 = 1 := by kernel_rfl
theorem c72 : Tryd.prog.cellsOf 23 = 1 := by kernel_rfl
theorem c74 : Tryd.prog.cellsOf 25 = 4 := by kernel_rfl
theorem c110 : Tryd.prog.cellsOf 48 = 5 := by kernel_rfl
theorem c119 : Tryd.prog.cellsOf 138 = 8 := by kernel_rfl

/-- A point's two numbers, read. -/
theorem point_of {H : Type} {enc : TypeId × Value → H} {W : World} {base : Nat} {sp : Nat → Bool} {hd : Bool} {m : Nat} {u v : Value} {d0 d1 : Int} {ps : List MemPlace}
    (h : DataW.trod enc Tryd.prog W base sp hd m 44 [u, v] = some (.agg [.lit (.int .i64 d0), .lit (.int .i64 d1)], ps)) : u = .int .i64 d0 ∧ v = .int .i64 d1 := by
  obtain ⟨y0, y1, n, hx, _, h0, h1⟩ := trod_struct2 Tryd.underlying44 h
  simp only [Prod.mk.injEq, DataW.agg.injEq, List.cons.injEq, and_true] at hx
  obtain ⟨⟨e0, e1⟩, _⟩ := hx
  simp [c3] at h0 h1
  obtain ⟨a, ha, hy0, _⟩ := DataW.trod_int Tryd.underlying3 h0
  obtain ⟨b, hb, hy1, _⟩ := DataW.trod_int Tryd.underlying3 h1
  subst hy0 hy1
  simp at e0 e1 ha hb
  subst e0 e1 ha hb
  exact ⟨rfl, rfl⟩


set_option maxRecDepth 100000 in
theorem steps_of {W : World} (h : laidMetH Tryd.prog Rows.sheetTellsUptoRow.laid W) : Steps W := by
  rw [MakeChecks.laidMetH_plain _ _ _ (by kernel_rfl)] at h
  obtain ⟨ps, ⟨_, _, _, _, _, _, _, _, _, _, ⟨_, _, _, _, _, _, _, _, _, _, ⟨_, _, _, _, _, _, _, _, _, _, ⟨g0, t0, cs0, f0, p0, q0, hg0, ht0, hv0, hd0, _, _⟩, _⟩, _⟩, _⟩, _, _⟩ := h
  obtain rfl := Option.some.inj (gSteps.symm.trans hg0)
  obtain rfl := Option.some.inj (tSteps.symm.trans ht0)
  have hc := World.var?_cell hg0 hv0
  obtain ⟨xs, m1, rfl, hx1, hlen, hn4, hel⟩ := DataW.trod_array Tryd.underlying138 hd0
  rw [c119] at hlen
  simp only [Prod.mk.injEq, Rows.laid_pleat_grid_steps, DataW.agg.injEq] at hx1
  obtain ⟨hx1, _⟩ := hx1
  obtain ⟨l⟩ := cs0
  match xs, hn4 with
  | [x0, x1, x2, x3], _ =>
    match l, hlen with
    | [a0, a1, a2, a3, a4, a5, a6, a7], _ =>
      simp only [List.map_cons, List.map_nil, List.cons.injEq, and_true] at hx1
      obtain ⟨e0, e1, e2, e3⟩ := hx1
      have k0 := hel 0 (by decide)
      have k1 := hel 1 (by decide)
      have k2 := hel 2 (by decide)
      have k3 := hel 3 (by decide)
      obtain ⟨x0a, x0b⟩ := x0
      obtain ⟨x1a, x1b⟩ := x1
      obtain ⟨x2a, x2b⟩ := x2
      obtain ⟨x3a, x3b⟩ := x3
      simp at e0 e1 e2 e3
      subst e0 e1 e2 e3
      simp [c25] at k0 k1 k2 k3
      obtain ⟨r0, r1⟩ := point_of k0
      obtain ⟨r2, r3⟩ := point_of k1
      obtain ⟨r4, r5⟩ := point_of k2
      obtain ⟨r6, r7⟩ := point_of k3
      subst r0 r1 r2 r3 r4 r5 r6 r7
      exact ⟨by simpa using hc 0, by simpa using hc 1, by simpa using hc 2, by simpa using hc 3, by simpa using hc 4, by simpa using hc 5, by simpa using hc 6, by simpa using hc 7⟩



theorem five {cs : List Value} (h : cs.length = 5) : ∃ a0 a1 a2 a3 a4, cs = [a0, a1, a2, a3, a4] := by
  match cs, h with
  | [a0, a1, a2, a3, a4], _ => exact ⟨a0, a1, a2, a3, a4, rfl⟩

set_option maxRecDepth 100000 in
/-- A crease's five cells hold numbers. -/
theorem crease_of {H : Type} {enc : TypeId × Value → H} {W : World} {base : Nat} {sp : Nat → Bool} {hd : Bool} {m : Nat} {cs : List Value} {y : DataW H × List MemPlace}
    (h : DataW.trod enc Tryd.prog W base sp hd m 48 cs = some y) : ∃ n0 n1 n2 n3 n4 : Int, cs = [.int .i64 n0, .int .i64 n1, .int .i64 n2, .int .i64 n3, .int .i64 n4] := by
  obtain ⟨y0, y1, n, _, hl, h0, h1⟩ := trod_struct2 Tryd.underlying48 h
  rw [c110] at hl
  obtain ⟨a0, a1, a2, a3, a4, rfl⟩ := five hl
  · simp [c27, c3] at h0 h1
    obtain ⟨e4, r4, _, _⟩ := DataW.trod_int Tryd.underlying3 h1
    obtain ⟨z0, z1, _, _, _, k0, k1⟩ := trod_struct2 Tryd.underlying46 h0
    simp [c25] at k0 k1
    obtain ⟨_, _, _, _, _, l0, l1⟩ := trod_struct2 Tryd.underlying44 k0
    obtain ⟨_, _, _, _, _, l2, l3⟩ := trod_struct2 Tryd.underlying44 k1
    simp [c3] at l0 l1 l2 l3
    obtain ⟨e0, r0, _, _⟩ := DataW.trod_int Tryd.underlying3 l0
    obtain ⟨e1, r1, _, _⟩ := DataW.trod_int Tryd.underlying3 l1
    obtain ⟨e2, r2, _, _⟩ := DataW.trod_int Tryd.underlying3 l2
    obtain ⟨e3, r3, _, _⟩ := DataW.trod_int Tryd.underlying3 l3
    simp at r0 r1 r2 r3 r4
    exact ⟨e0, e1, e2, e3, e4, by rw [r0, r1, r2, r3, r4]⟩

/-- A crease list that came in: five numbers a crease. -/
theorem creases_of {H : Type} {enc : TypeId × Value → H} {W : World} {base : Nat} {sp : Nat → Bool} {hd : Bool} {m : Nat} {cs : List Value} {y : DataW H × List MemPlace}
    (h : DataW.trod enc Tryd.prog W base sp hd m 23 cs = some y) : ∃ (c : Option Addr) (n cap : Nat) (ks : List Int), cs = [.slice c n cap] ∧ ks.length = n * 5 ∧ Row W c ks ∧
      (n = 0 ∨ ∃ es rs : List (DataW H), es.length = n ∧ y.1 = .slice es rs) := by
  rcases DataW.trod_slice Tryd.underlying23 h with ⟨rfl, _⟩ | ⟨a, len, cap, elems, rest, n, _, rfl, rfl, hb, hl, hm, hlen, hel, hsp, hns⟩
  · exact ⟨none, 0, 0, [], rfl, rfl, fun i hi => absurd hi (by simp), .inl rfl⟩
  rw [c110] at hel
  have each : ∀ i, i < len → ∃ n0 n1 n2 n3 n4 : Int, ∀ j, j < 5 → W.cell? ((a.add (i * 5)).add j) = [Value.int .i64 n0, .int .i64 n1, .int .i64 n2, .int .i64 n3, .int .i64 n4][j]? := by
    intro i hi
    have e := hel i hi
    rw [List.getElem?_eq_getElem (by omega), Option.bind_eq_some_iff] at e
    obtain ⟨cs', hcs, hy'⟩ := e
    obtain ⟨n0, n1, n2, n3, n4, rfl⟩ := crease_of hy'
    exact ⟨n0, n1, n2, n3, n4, (World.cells?_some hcs).2.2⟩
  have num : ∀ i, i < len * 5 → ∃ z : Int, W.cell? ((a.add (i / 5 * 5)).add (i % 5)) = some (.int .i64 z) := by
    intro i hi
    obtain ⟨n0, n1, n2, n3, n4, hc⟩ := each (i / 5) (by omega)
    have hj : i % 5 < 5 := Nat.mod_lt _ (by omega)
    have := hc (i % 5) hj
    generalize i % 5 = j at this hj ⊢
    match j, hj with
    | 0, _ => exact ⟨n0, this⟩
    | 1, _ => exact ⟨n1, this⟩
    | 2, _ => exact ⟨n2, this⟩
    | 3, _ => exact ⟨n3, this⟩
    | 4, _ => exact ⟨n4, this⟩
  by_cases h0 : len = 0
  · subst h0
    exact ⟨_, 0, cap, [], rfl, rfl, fun i hi => absurd hi (by simp), .inl rfl⟩
  obtain ⟨b, off, rfl⟩ : ∃ b off, a = ⟨b, off, none⟩ := by
    obtain ⟨b, off, spot⟩ := a
    obtain ⟨z, hz⟩ := num 0 (by omega)
    have hspot : spot = none := by simpa [Addr.add] using World.cell?_spot hz
    subst hspot
    exact ⟨b, off, rfl⟩
  have num' : ∀ i, i < len * 5 → ∃ z : Int, W.cell? ⟨b, off + i, none⟩ = some (.int .i64 z) := by
    intro i hi
    obtain ⟨z, hz⟩ := num i hi
    rw [add_plain, add_plain, Nat.add_assoc, Nat.div_add_mod' i 5] at hz
    exact ⟨z, hz⟩
  refine ⟨_, len, cap, (List.range (len * 5)).map fun i => match W.cell? ⟨b, off + i, none⟩ with | some (.int _ z) => z | _ => 0, rfl, by simp, ?_, .inr ⟨elems.map (·.1), rest.map (·.1), by simpa using hlen, rfl⟩⟩
  intro i hi
  simp only [List.length_map, List.length_range] at hi
  obtain ⟨z, hz⟩ := num' i hi
  refine ⟨b, off, rfl, ?_⟩
  simp [hz]

end Go.Proofs.YtehmoacggikfmaaDoor
