/- A part of the proof of cutPunches_holds. -/
import Derived.Test.YtmjhfdohcghhoaaGreatDoorRows
import Derived.Test.YtmjhfdohcghhoaaGreatDoorQlab
import Derived.Test.YtmjhfdohcghhoaaGreatDoorQlac
import Derived.ProofKit
import Derived.LaidMore
import Derived.OpenShut
import Derived.Stop.Joined
import Derived.Lib.SmallJoins
import Derived.Test.YtmjhfdohcghhoaaGreatDoorCards
import Derived.Test.YtmjhfdohcghhoaaGreatDoorTie
import Derived.SizedLaws
import Derived.WalkKit
import Derived.Deep.DeepHandedRow
import Derived.Lib.LaidTab
import Derived.ChangeOld
import Derived.Test.YtmjhfdohcghhoaaGreatDoorQlah
import Derived.Test.YtmjhfdohcghhoaaGreatDoorQlaa
namespace Go.Proofs.YtmjhfdohcghhoaaGreatDoor
open Go.ChangeShapes Go.WideShapes Go.ChangeAt Go.WideMaps Go.WideElems Go.RowKit Go.Joins

theorem Tryz.own : ownKnob Tryz.prog.godebug = none := by kernel_rfl
theorem gSteps : Tryz.prog.globalNamed "pleat/grid.steps" = some 0 := by kernel_rfl
theorem tSteps : (Tryz.prog.globals[0]?).map (·.type) = some 188 := by kernel_rfl
theorem c3 : Tryz.prog.cellsOf 3 = 1 := by kernel_rfl
theorem c25 : Tryz.prog.cellsOf 77 = 2 := by kernel_rfl
theorem c27 : Tryz.prog.cellsOf 79 = 4 := by kernel_rfl
theorem c70 : Tryz.prog.cellsOf 22 = 1 := by kernel_rfl
theorem c72 : Tryz.prog.cellsOf 23 = 1 := by kernel_rfl
theorem c74 : Tryz.prog.cellsOf 25 = 4 := by kernel_rfl
theorem c110 : Tryz.prog.cellsOf 124 = 5 := by kernel_rfl
theorem c119 : Tryz.prog.cellsOf 188 = 8 := by kernel_rfl

/-- A point's two numbers, read. -/
theorem point_of {H : Type} {enc : TypeId × Value → H} {W : World} {base : Nat} {sp : Nat → Bool} {hd : Bool} {m : Nat} {u v : Value} {d0 d1 : Int} {ps : List MemPlace}
    (h : DataW.trod enc Tryz.prog W base sp hd m 77 [u, v] = some (.agg [.lit (.int .i64 d0), .lit (.int .i64 d1)], ps)) : u = .int .i64 d0 ∧ v = .int .i64 d1 := by
  obtain ⟨y0, y1, n, hx, _, h0, h1⟩ := trod_struct2 Tryz.underlying77 h
  simp only [Prod.mk.injEq, DataW.agg.injEq, List.cons.injEq, and_true] at hx
  obtain ⟨⟨e0, e1⟩, _⟩ := hx
  simp [c3] at h0 h1
  obtain ⟨a, ha, hy0, _⟩ := DataW.trod_int Tryz.underlying3 h0
  obtain ⟨b, hb, hy1, _⟩ := DataW.trod_int Tryz.underlying3 h1
  subst hy0 hy1
  simp at e0 e1 ha hb
  subst e0 e1 ha hb
  exact ⟨rfl, rfl⟩

set_option maxRecDepth 100000 in
theorem steps_of {W : World} (h : laidMetH Tryz.prog [("pleat/grid.steps", Rows.laid_pleat_grid_steps)] W) : Steps W := by
  rw [MakeChecks.laidMetH_plain _ _ _ (by kernel_rfl)] at h
  obtain ⟨ps, ⟨g0, t0, cs0, f0, p0, q0, hg0, ht0, hv0, hd0, _, _⟩, _, _⟩ := h
  obtain rfl := Option.some.inj (gSteps.symm.trans hg0)
  obtain rfl := Option.some.inj (tSteps.symm.trans ht0)
  have hc := World.var?_cell hg0 hv0
  obtain ⟨xs, m1, rfl, hx1, hlen, hn4, hel⟩ := DataW.trod_array Tryz.underlying188 hd0
  rw [c119] at hlen
  simp only [Prod.mk.injEq, Rows.laid_pleat_grid_steps, DataW.agg.injEq] at hx1
  obtain ⟨hx1, _⟩ := hx1
  obtain ⟨l⟩ := cs0
  match xs, hn4 with
  | [x0, x1, x2, x3], _ =>
    match l, hlen with
    | [a0, a1, a2, a3, a4, a5, a6, a7], _ =>
      simp only [List.map_cons, List.map_nil, List.cons.injEq, and_true] at hx1
      obtain ⟨e0, e1, e2, e3⟩ := hx1
      have k0 := hel 0 (by decide)
      have k1 := hel 1 (by decide)
      have k2 := hel 2 (by decide)
      have k3 := hel 3 (by decide)
      obtain ⟨x0a, x0b⟩ := x0
      obtain ⟨x1a, x1b⟩ := x1
      obtain ⟨x2a, x2b⟩ := x2
      obtain ⟨x3a, x3b⟩ := x3
      simp at e0 e1 e2 e3
      subst e0 e1 e2 e3
      simp [c25] at k0 k1 k2 k3
      obtain ⟨r0, r1⟩ := point_of k0
      obtain ⟨r2, r3⟩ := point_of k1
      obtain ⟨r4, r5⟩ := point_of k2
      obtain ⟨r6, r7⟩ := point_of k3
      subst r0 r1 r2 r3 r4 r5 r6 r7
      exact ⟨by simpa using hc 0, by simpa using hc 1, by simpa using hc 2, by simpa using hc 3, by simpa using hc 4, by simpa using hc 5, by simpa using hc 6, by simpa using hc 7⟩

theorem five {cs : List Value} (h : cs.length = 5) : ∃ a0 a1 a2 a3 a4, cs = [a0, a1, a2, a3, a4] := by
  match cs, h with
  | [a0, a1, a2, a3, a4], _ => exact ⟨a0, a1, a2, a3, a4, rfl⟩

set_option maxRecDepth 100000 in
/-- A crease's five cells hold numbers. -/
theorem crease_of {H : Type} {enc : TypeId × Value → H} {W : World} {base : Nat} {sp : Nat → Bool} {hd : Bool} {m : Nat} {cs : List Value} {y : DataW H × List MemPlace}
    (h : DataW.trod enc Tryz.prog W base sp hd m 124 cs = some y) : ∃ n0 n1 n2 n3 n4 : Int, cs = [.int .i64 n0, .int .i64 n1, .int .i64 n2, .int .i64 n3, .int .i64 n4] := by
  obtain ⟨y0, y1, n, _, hl, h0, h1⟩ := trod_struct2 Tryz.underlying124 h
  rw [c110] at hl
  obtain ⟨a0, a1, a2, a3, a4, rfl⟩ := five hl
  · simp [c27, c3] at h0 h1
    obtain ⟨e4, r4, _, _⟩ := DataW.trod_int Tryz.underlying3 h1
    obtain ⟨z0, z1, _, _, _, k0, k1⟩ := trod_struct2 Tryz.underlying79 h0
    simp [c25] at k0 k1
    obtain ⟨_, _, _, _, _, l0, l1⟩ := trod_struct2 Tryz.underlying77 k0
    obtain ⟨_, _, _, _, _, l2, l3⟩ := trod_struct2 Tryz.underlying77 k1
    simp [c3] at l0 l1 l2 l3
    obtain ⟨e0, r0, _, _⟩ := DataW.trod_int Tryz.underlying3 l0
    obtain ⟨e1, r1, _, _⟩ := DataW.trod_int Tryz.underlying3 l1
    obtain ⟨e2, r2, _, _⟩ := DataW.trod_int Tryz.underlying3 l2
    obtain ⟨e3, r3, _, _⟩ := DataW.trod_int Tryz.underlying3 l3
    simp at r0 r1 r2 r3 r4
    exact ⟨e0, e1, e2, e3, e4, by rw [r0, r1, r2, r3, r4]⟩

/-- A crease list that came in: five numbers a crease. -/
theorem creases_of {H : Type} {enc : TypeId × Value → H} {W : World} {base : Nat} {sp : Nat → Bool} {hd : Bool} {m : Nat} {cs : List Value} {y : DataW H × List MemPlace}
    (h : DataW.trod enc Tryz.prog W base sp hd m 23 cs = some y) : ∃ (c : Option Addr) (n cap : Nat) (ks : List Int), cs = [.slice c n cap] ∧ ks.length = n * 5 ∧ Row W c ks ∧
      (n = 0 ∨ ∃ es rs : List (DataW H), es.length = n ∧ y.1 = .slice es rs) := by
  rcases DataW.trod_slice Tryz.underlying23 h with ⟨rfl, _⟩ | ⟨a, len, cap, elems, rest, n, _, rfl, rfl, hb, hl, hm, hlen, hel, hsp, hns⟩
  · exact ⟨none, 0, 0, [], rfl, rfl, fun i hi => absurd hi (by simp), .inl rfl⟩
  rw [c110] at hel
  have each : ∀ i, i < len → ∃ n0 n1 n2 n3 n4 : Int, ∀ j, j < 5 → W.cell? ((a.add (i * 5)).add j) = [Value.int .i64 n0, .int .i64 n1, .int .i64 n2, .int .i64 n3, .int .i64 n4][j]? := by
    intro i hi
    have e := hel i hi
    rw [List.getElem?_eq_getElem (by omega), Option.bind_eq_some_iff] at e
    obtain ⟨cs', hcs, hy'⟩ := e
    obtain ⟨n0, n1, n2, n3, n4, rfl⟩ := crease_of hy'
    exact ⟨n0, n1, n2, n3, n4, (World.cells?_some hcs).2.2⟩
  have num : ∀ i, i < len * 5 → ∃ z : Int, W.cell? ((a.add (i / 5 * 5)).add (i % 5)) = some (.int .i64 z) := by
    intro i hi
    obtain ⟨n0, n1, n2, n3, n4, hc⟩ := each (i / 5) (by omega)
    have hj : i % 5 < 5 := Nat.mod_lt _ (by omega)
    have := hc (i % 5) hj
    generalize i % 5 = j at this hj ⊢
    match j, hj with
    | 0, _ => exact ⟨n0, this⟩
    | 1, _ => exact ⟨n1, this⟩
    | 2, _ => exact ⟨n2, this⟩
    | 3, _ => exact ⟨n3, this⟩
    | 4, _ => exact ⟨n4, this⟩
  by_cases h0 : len = 0
  · subst h0
    exact ⟨_, 0, cap, [], rfl, rfl, fun i hi => absurd hi (by simp), .inl rfl⟩
  obtain ⟨b, off, rfl⟩ : ∃ b off, a = ⟨b, off, none⟩ := by
    obtain ⟨b, off, spot⟩ := a
    obtain ⟨z, hz⟩ := num 0 (by omega)
    have hspot : spot = none := by simpa [Addr.add] using World.cell?_spot hz
    subst hspot
    exact ⟨b, off, rfl⟩
  have num' : ∀ i, i < len * 5 → ∃ z : Int, W.cell? ⟨b, off + i, none⟩ = some (.int .i64 z) := by
    intro i hi
    obtain ⟨z, hz⟩ := num i hi
    rw [add_plain, add_plain, Nat.add_assoc, Nat.div_add_mod' i 5] at hz
    exact ⟨z, hz⟩
  refine ⟨_, len, cap, (List.range (len * 5)).map fun i => match W.cell? ⟨b, off + i, none⟩ with | some (.int _ z) => z | _ => 0, rfl, by simp, ?_, .inr ⟨elems.map (·.1), rest.map (·.1), by simpa using hlen, rfl⟩⟩
  intro i hi
  simp only [List.length_map, List.length_range] at hi
  obtain ⟨z, hz⟩ := num' i hi
  refine ⟨b, off, rfl, ?_⟩
  simp [hz]


theorem laidOut : laidOutB Tryz.prog = true := by kernel_rfl

theorem by3 : Tryz.prog.bytesOf 3 = 8 := by kernel_rfl
theorem by110 : Tryz.prog.bytesOf 124 = 40 := by kernel_rfl
set_option maxRecDepth 100000 in
theorem weights_sheet {H : Type} (a b c d : DataW H) : DataW.weights Tryz.prog 25 (.agg [a, b, c, d]) = DataW.weightsEach Tryz.prog [3, 3, 22, 23] [a, b, c, d] := by
  unfold DataW.weights
  rw [Tryz.underlying25]
  rfl

end Go.Proofs.YtmjhfdohcghhoaaGreatDoor
namespace Go.Proofs.YtmjhfdohcghhoaaGreatDoor
open Go.RowKit

set_option maxHeartbeats 1600000 in
theorem cornersOfW_0 (x y : Int) (w : World) (b1 : -4000000 ≤ x) (b2 : x ≤ 4000000) (b3 : -4000000 ≤ y) (b4 : y ≤ 4000000) :
    Calls Tryz.prog 64 #[.agg #[.int .i64 x, .int .i64 y, .int .i64 0]] w fun e w' => ∃ g, e = .returned (.slice (some ⟨g, 0, none⟩) 3 3) ∧ w.heap.size ≤ g ∧ Mp w' g (2 * x + 1) (2 * y + 1) (2 * x) (2 * y) (2 * x + 2) (2 * y) ∧ Below w.heap.size w w' := by
  go_enter Tryz.func64, Tryz.ntmps64
  go_wp2
  go_quiet (fail)
  go_wp2
  go_ret
  refine ⟨_, rfl, by omega, ?_, ?_⟩
  · simp [Mp, go_sem]
  · with_reducible repeat (first | refine bl_alloc ?_ | refine bl_drewN ?_ | exact bl_refl _)

set_option maxHeartbeats 1600000 in
theorem cornersOfW_1 (x y : Int) (w : World) (b1 : -4000000 ≤ x) (b2 : x ≤ 4000000) (b3 : -4000000 ≤ y) (b4 : y ≤ 4000000) :
    Calls Tryz.prog 64 #[.agg #[.int .i64 x, .int .i64 y, .int .i64 1]] w fun e w' => ∃ g, e = .returned (.slice (some ⟨g, 0, none⟩) 3 3) ∧ w.heap.size ≤ g ∧ Mp w' g (2 * x + 1) (2 * y + 1) (2 * x + 2) (2 * y) (2 * x + 2) (2 * y + 2) ∧ Below w.heap.size w w' := by
  go_enter Tryz.func64, Tryz.ntmps64
  go_wp2
  go_quiet (fail)
  go_wp2
  go_ret
  refine ⟨_, rfl, by omega, ?_, ?_⟩
  · simp [Mp, go_sem]
  · with_reducible repeat (first | refine bl_alloc ?_ | refine bl_drewN ?_ | exact bl_refl _)

set_option maxHeartbeats 1600000 in
theorem cornersOfW_2 (x y : Int) (w : World) (b1 : -4000000 ≤ x) (b2 : x ≤ 4000000) (b3 : -4000000 ≤ y) (b4 : y ≤ 4000000) :
    Calls Tryz.prog 64 #[.agg #[.int .i64 x, .int .i64 y, .int .i64 2]] w fun e w' => ∃ g, e = .returned (.slice (some ⟨g, 0, none⟩) 3 3) ∧ w.heap.size ≤ g ∧ Mp w' g (2 * x + 1) (2 * y + 1) (2 * x + 2) (2 * y + 2) (2 * x) (2 * y + 2) ∧ Below w.heap.size w w' := by
  go_enter Tryz.func64, Tryz.ntmps64
  go_wp2
  go_quiet (fail)
  go_wp2
  go_ret
  refine ⟨_, rfl, by omega, ?_, ?_⟩
  · simp [Mp, go_sem]
  · with_reducible repeat (first | refine bl_alloc ?_ | refine bl_drewN ?_ | exact bl_refl _)

set_option maxHeartbeats 1600000 in
theorem cornersOfW_3 (x y : Int) (w : World) (b1 : -4000000 ≤ x) (b2 : x ≤ 4000000) (b3 : -4000000 ≤ y) (b4 : y ≤ 4000000) :
    Calls Tryz.prog 64 #[.agg #[.int .i64 x, .int .i64 y, .int .i64 3]] w fun e w' => ∃ g, e = .returned (.slice (some ⟨g, 0, none⟩) 3 3) ∧ w.heap.size ≤ g ∧ Mp w' g (2 * x + 1) (2 * y + 1) (2 * x) (2 * y + 2) (2 * x) (2 * y) ∧ Below w.heap.size w w' := by
  go_enter Tryz.func64, Tryz.ntmps64
  go_wp2
  go_quiet (fail)
  go_wp2
  go_ret
  refine ⟨_, rfl, by omega, ?_, ?_⟩
  · simp [Mp, go_sem]
  · with_reducible repeat (first | refine bl_alloc ?_ | refine bl_drewN ?_ | exact bl_refl _)


theorem make_fun (fn : Fn) (first cap : Array Value) (w : World) : (Instr.makeFunc fn first cap).run Tryz.prog w = .ok (.func fn first cap) w := rfl

end Go.Proofs.YtmjhfdohcghhoaaGreatDoor
