/- A part of the proof of viewTells_holds. -/
import Derived.Test.YtnpboeodhpenmaaGreatDoorRows
import Derived.Test.YtnpboeodhpenmaaGreatDoorQlab
import Derived.Test.YtnpboeodhpenmaaGreatDoorQlac
import Derived.ProofKit
import Derived.LaidMore
import Derived.OpenShut
import Derived.Stop.Joined
import Derived.Lib.SmallJoins
import Derived.Test.YtnpboeodhpenmaaGreatDoorQlaf
import Derived.Deep.DeepCutAuto
namespace Go.Proofs.YtnpboeodhpenmaaGreatDoor
open Go.ChangeShapes Go.WideShapes Go.ChangeAt Go.WideMaps Go.WideElems Go.RowKit Go.Joins

theorem Tryz.own : ownKnob Tryz.prog.godebug = none := by kernel_rfl
theorem gSteps : Tryz.prog.globalNamed "pleat/grid.steps" = some 0 := by kernel_rfl
theorem tSteps : (Tryz.prog.globals[0]?).map (·.type) = some 263 := by kernel_rfl
theorem c3 : Tryz.prog.cellsOf 3 = 1 := by kernel_rfl
theorem c25 : Tryz.prog.cellsOf 40 = 2 := by kernel_rfl
theorem c27 : Tryz.prog.cellsOf 42 = 4 := by kernel_rfl
theorem c70 : Tryz.prog.cellsOf 22 = 1 := by kernel_rfl
theorem c72 : Tryz.prog.cellsOf 23 = 1 := by kernel_rfl
theorem c74 : Tryz.prog.cellsOf 25 = 4 := by kernel_rfl
theorem c110 : Tryz.prog.cellsOf 80 = 5 := by kernel_rfl
theorem c119 : Tryz.prog.cellsOf 263 = 8 := by kernel_rfl

/-- A point's two numbers, read. -/
theorem point_of {H : Type} {enc : TypeId × Value → H} {W : World} {base : Nat} {sp : Nat → Bool} {hd : Bool} {m : Nat} {u v : Value} {d0 d1 : Int} {ps : List MemPlace}
    (h : DataW.trod enc Tryz.prog W base sp hd m 40 [u, v] = some (.agg [.lit (.int .i64 d0), .lit (.int .i64 d1)], ps)) : u = .int .i64 d0 ∧ v = .int .i64 d1 := by
  obtain ⟨y0, y1, n, hx, _, h0, h1⟩ := trod_struct2 Tryz.underlying40 h
  simp only [Prod.mk.injEq, DataW.agg.injEq, List.cons.injEq, and_true] at hx
  obtain ⟨⟨e0, e1⟩, _⟩ := hx
  simp [c3] at h0 h1
  obtain ⟨a, ha, hy0, _⟩ := DataW.trod_int Tryz.underlying3 h0
  obtain ⟨b, hb, hy1, _⟩ := DataW.trod_int Tryz.underlying3 h1
  subst hy0 hy1
  simp at e0 e1 ha hb
  subst e0 e1 ha hb
  exact ⟨rfl, rfl⟩

set_option maxRecDepth 100000 in
theorem steps_of {W : World} (h : laidMetH Tryz.prog [("pleat/grid.steps", Rows.laid_pleat_grid_steps)] W) : Steps W := by
  rw [MakeChecks.laidMetH_plain _ _ _ (by kernel_rfl)] at h
  obtain ⟨ps, ⟨g0, t0, cs0, f0, p0, q0, hg0, ht0, hv0, hd0, _, _⟩, _, _⟩ := h
  obtain rfl := Option.some.inj (gSteps.symm.trans hg0)
  obtain rfl := Option.some.inj (tSteps.symm.trans ht0)
  have hc := World.var?_cell hg0 hv0
  obtain ⟨xs, m1, rfl, hx1, hlen, hn4, hel⟩ := DataW.trod_array Tryz.underlying263 hd0
  rw [c119] at hlen
  simp only [Prod.mk.injEq, Rows.laid_pleat_grid_steps, DataW.agg.injEq] at hx1
  obtain ⟨hx1, _⟩ := hx1
  obtain ⟨l⟩ := cs0
  match xs, hn4 with
  | [x0, x1, x2, x3], _ =>
    match l, hlen with
    | [a0, a1, a2, a3, a4, a5, a6, a7], _ =>
      simp only [List.map_cons, List.map_nil, List.cons.injEq, and_true] at hx1
      obtain ⟨e0, e1, e2, e3⟩ := hx1
      have k0 := hel 0 (by decide)
      have k1 := hel 1 (by decide)
      have k2 := hel 2 (by decide)
      have k3 := hel 3 (by decide)
      obtain ⟨x0a, x0b⟩ := x0
      obtain ⟨x1a, x1b⟩ := x1
      obtain ⟨x2a, x2b⟩ := x2
      obtain ⟨x3a, x3b⟩ := x3
      simp at e0 e1 e2 e3
      subst e0 e1 e2 e3
      simp [c25] at k0 k1 k2 k3
      obtain ⟨r0, r1⟩ := point_of k0
      obtain ⟨r2, r3⟩ := point_of k1
      obtain ⟨r4, r5⟩ := point_of k2
      obtain ⟨r6, r7⟩ := point_of k3
      subst r0 r1 r2 r3 r4 r5 r6 r7
      exact ⟨by simpa using hc 0, by simpa using hc 1, by simpa using hc 2, by simpa using hc 3, by simpa using hc 4, by simpa using hc 5, by simpa using hc 6, by simpa using hc 7⟩

theorem five {cs : List Value} (h : cs.length = 5) : ∃ a0 a1 a2 a3 a4, cs = [a0, a1, a2, a3, a4] := by
  match cs, h with
  | [a0, a1, a2, a3, a4], _ => exact ⟨a0, a1, a2, a3, a4, rfl⟩

set_option maxRecDepth 100000 in
/-- A crease's five cells hold numbers. -/
theorem crease_of {H : Type} {enc : TypeId × Value → H} {W : World} {base : Nat} {sp : Nat → Bool} {hd : Bool} {m : Nat} {cs : List Value} {y : DataW H × List MemPlace}
    (h : DataW.trod enc Tryz.prog W base sp hd m 80 cs = some y) : ∃ n0 n1 n2 n3 n4 : Int, cs = [.int .i64 n0, .int .i64 n1, .int .i64 n2, .int .i64 n3, .int .i64 n4] := by
  obtain ⟨y0, y1, n, _, hl, h0, h1⟩ := trod_struct2 Tryz.underlying80 h
  rw [c110] at hl
  obtain ⟨a0, a1, a2, a3, a4, rfl⟩ := five hl
  · simp [c27, c3] at h0 h1
    obtain ⟨e4, r4, _, _⟩ := DataW.trod_int Tryz.underlying3 h1
    obtain ⟨z0, z1, _, _, _, k0, k1⟩ := trod_struct2 Tryz.underlying42 h0
    simp [c25] at k0 k1
    obtain ⟨_, _, _, _, _, l0, l1⟩ := trod_struct2 Tryz.underlying40 k0
    obtain ⟨_, _, _, _, _, l2, l3⟩ := trod_struct2 Tryz.underlying40 k1
    simp [c3] at l0 l1 l2 l3
    obtain ⟨e0, r0, _, _⟩ := DataW.trod_int Tryz.underlying3 l0
    obtain ⟨e1, r1, _, _⟩ := DataW.trod_int Tryz.underlying3 l1
    obtain ⟨e2, r2, _, _⟩ := DataW.trod_int Tryz.underlying3 l2
    obtain ⟨e3, r3, _, _⟩ := DataW.trod_int Tryz.underlying3 l3
    simp at r0 r1 r2 r3 r4
    exact ⟨e0, e1, e2, e3, e4, by rw [r0, r1, r2, r3, r4]⟩

/-- A crease list that came in: five numbers a crease. -/
theorem creases_of {H : Type} {enc : TypeId × Value → H} {W : World} {base : Nat} {sp : Nat → Bool} {hd : Bool} {m : Nat} {cs : List Value} {y : DataW H × List MemPlace}
    (h : DataW.trod enc Tryz.prog W base sp hd m 23 cs = some y) : ∃ (c : Option Addr) (n cap : Nat) (ks : List Int), cs = [.slice c n cap] ∧ ks.length = n * 5 ∧ Row W c ks ∧
      (n = 0 ∨ ∃ es rs : List (DataW H), es.length = n ∧ y.1 = .slice es rs) := by
  rcases DataW.trod_slice Tryz.underlying23 h with ⟨rfl, _⟩ | ⟨a, len, cap, elems, rest, n, _, rfl, rfl, hb, hl, hm, hlen, hel, hsp, hns⟩
  · exact ⟨none, 0, 0, [], rfl, rfl, fun i hi => absurd hi (by simp), .inl rfl⟩
  rw [c110] at hel
  have each : ∀ i, i < len → ∃ n0 n1 n2 n3 n4 : Int, ∀ j, j < 5 → W.cell? ((a.add (i * 5)).add j) = [Value.int .i64 n0, .int .i64 n1, .int .i64 n2, .int .i64 n3, .int .i64 n4][j]? := by
    intro i hi
    have e := hel i hi
    rw [List.getElem?_eq_getElem (by omega), Option.bind_eq_some_iff] at e
    obtain ⟨cs', hcs, hy'⟩ := e
    obtain ⟨n0, n1, n2, n3, n4, rfl⟩ := crease_of hy'
    exact ⟨n0, n1, n2, n3, n4, (World.cells?_some hcs).2.2⟩
  have num : ∀ i, i < len * 5 → ∃ z : Int, W.cell? ((a.add (i / 5 * 5)).add (i % 5)) = some (.int .i64 z) := by
    intro i hi
    obtain ⟨n0, n1, n2, n3, n4, hc⟩ := each (i / 5) (by omega)
    have hj : i % 5 < 5 := Nat.mod_lt _ (by omega)
    have := hc (i % 5) hj
    generalize i % 5 = j at this hj ⊢
    match j, hj with
    | 0, _ => exact ⟨n0, this⟩
    | 1, _ => exact ⟨n1, this⟩
    | 2, _ => exact ⟨n2, this⟩
    | 3, _ => exact ⟨n3, this⟩
    | 4, _ => exact ⟨n4, this⟩
  by_cases h0 : len = 0
  · subst h0
    exact ⟨_, 0, cap, [], rfl, rfl, fun i hi => absurd hi (by simp), .inl rfl⟩
  obtain ⟨b, off, rfl⟩ : ∃ b off, a = ⟨b, off, none⟩ := by
    obtain ⟨b, off, spot⟩ := a
    obtain ⟨z, hz⟩ := num 0 (by omega)
    have hspot : spot = none := by simpa [Addr.add] using World.cell?_spot hz
    subst hspot
    exact ⟨b, off, rfl⟩
  have num' : ∀ i, i < len * 5 → ∃ z : Int, W.cell? ⟨b, off + i, none⟩ = some (.int .i64 z) := by
    intro i hi
    obtain ⟨z, hz⟩ := num i hi
    rw [add_plain, add_plain, Nat.add_assoc, Nat.div_add_mod' i 5] at hz
    exact ⟨z, hz⟩
  refine ⟨_, len, cap, (List.range (len * 5)).map fun i => match W.cell? ⟨b, off + i, none⟩ with | some (.int _ z) => z | _ => 0, rfl, by simp, ?_, .inr ⟨elems.map (·.1), rest.map (·.1), by simpa using hlen, rfl⟩⟩
  intro i hi
  simp only [List.length_map, List.length_range] at hi
  obtain ⟨z, hz⟩ := num' i hi
  refine ⟨b, off, rfl, ?_⟩
  simp [hz]

end Go.Proofs.YtnpboeodhpenmaaGreatDoor
namespace Go.Proofs.YtnpboeodhpenmaaGreatDoor
open Go.RowKit
attribute [local go_sem ↓] Go.wp_at_zero Go.wp_at_succ

set_option maxRecDepth 100000 in
set_option maxHeartbeats 3200000 in
theorem edges_any (x y k : Int) (w : World) (h : triB x y k = true) (hs : Steps w) :
    Calls Tryz.prog 280 #[.agg #[.int .i64 x, .int .i64 y, .int .i64 k]] w fun r w' => r = .returned (.agg #[
      .int .i64 (eA (2 * x + 1) (2 * y + 1) (c1x x k) (c1y y k)), .int .i64 (eB (2 * x + 1) (2 * y + 1) (c1x x k) (c1y y k)), .int .i64 (eC (2 * x + 1) (2 * y + 1) (c1x x k) (c1y y k)), .int .i64 (eD (2 * x + 1) (2 * y + 1) (c1x x k) (c1y y k)),
      .int .i64 (eA (c1x x k) (c1y y k) (c2x x k) (c2y y k)), .int .i64 (eB (c1x x k) (c1y y k) (c2x x k) (c2y y k)), .int .i64 (eC (c1x x k) (c1y y k) (c2x x k) (c2y y k)), .int .i64 (eD (c1x x k) (c1y y k) (c2x x k) (c2y y k)),
      .int .i64 (eA (c2x x k) (c2y y k) (2 * x + 1) (2 * y + 1)), .int .i64 (eB (c2x x k) (c2y y k) (2 * x + 1) (2 * y + 1)), .int .i64 (eC (c2x x k) (c2y y k) (2 * x + 1) (2 * y + 1)), .int .i64 (eD (c2x x k) (c2y y k) (2 * x + 1) (2 * y + 1))]) ∧ Below w.heap.size w w' := by
  have HS : Hid (Steps w) := hs
  clear hs
  go_enter Tryz.func280, Tryz.ntmps280
  go_wp2_with (go_at_call 94; refine (corners_any _ _ _ _ h (HS.out.kept (bl_alloc (bl_alloc (bl_refl _))))).mono ?_; rintro r w1 ⟨rfl, hb⟩; have r0 : w1.cell? ⟨w.heap.size + 1, 0, none⟩ = some (.int .i64 0) := cell_kept hb (by simp [go_sem]); have f0 : w1.frozen? ⟨w.heap.size + 1, 0, none⟩ = false := (hb.frozen (p := ⟨w.heap.size + 1, 0, none⟩) (by simp)).trans (by simp [go_sem]); have r1 : w1.cell? ⟨w.heap.size + 1, 1, none⟩ = some (.int .i64 0) := cell_kept hb (by simp [go_sem]); have f1 : w1.frozen? ⟨w.heap.size + 1, 1, none⟩ = false := (hb.frozen (p := ⟨w.heap.size + 1, 1, none⟩) (by simp)).trans (by simp [go_sem]); have r2 : w1.cell? ⟨w.heap.size + 1, 2, none⟩ = some (.int .i64 0) := cell_kept hb (by simp [go_sem]); have f2 : w1.frozen? ⟨w.heap.size + 1, 2, none⟩ = false := (hb.frozen (p := ⟨w.heap.size + 1, 2, none⟩) (by simp)).trans (by simp [go_sem]); have r3 : w1.cell? ⟨w.heap.size + 1, 3, none⟩ = some (.int .i64 0) := cell_kept hb (by simp [go_sem]); have f3 : w1.frozen? ⟨w.heap.size + 1, 3, none⟩ = false := (hb.frozen (p := ⟨w.heap.size + 1, 3, none⟩) (by simp)).trans (by simp [go_sem]); have r4 : w1.cell? ⟨w.heap.size + 1, 4, none⟩ = some (.int .i64 0) := cell_kept hb (by simp [go_sem]); have f4 : w1.frozen? ⟨w.heap.size + 1, 4, none⟩ = false := (hb.frozen (p := ⟨w.heap.size + 1, 4, none⟩) (by simp)).trans (by simp [go_sem]); have r5 : w1.cell? ⟨w.heap.size + 1, 5, none⟩ = some (.int .i64 0) := cell_kept hb (by simp [go_sem]); have f5 : w1.frozen? ⟨w.heap.size + 1, 5, none⟩ = false := (hb.frozen (p := ⟨w.heap.size + 1, 5, none⟩) (by simp)).trans (by simp [go_sem]); have r6 : w1.cell? ⟨w.heap.size + 1, 6, none⟩ = some (.int .i64 0) := cell_kept hb (by simp [go_sem]); have f6 : w1.frozen? ⟨w.heap.size + 1, 6, none⟩ = false := (hb.frozen (p := ⟨w.heap.size + 1, 6, none⟩) (by simp)).trans (by simp [go_sem]); have r7 : w1.cell? ⟨w.heap.size + 1, 7, none⟩ = some (.int .i64 0) := cell_kept hb (by simp [go_sem]); have f7 : w1.frozen? ⟨w.heap.size + 1, 7, none⟩ = false := (hb.frozen (p := ⟨w.heap.size + 1, 7, none⟩) (by simp)).trans (by simp [go_sem]); have r8 : w1.cell? ⟨w.heap.size + 1, 8, none⟩ = some (.int .i64 0) := cell_kept hb (by simp [go_sem]); have f8 : w1.frozen? ⟨w.heap.size + 1, 8, none⟩ = false := (hb.frozen (p := ⟨w.heap.size + 1, 8, none⟩) (by simp)).trans (by simp [go_sem]); have r9 : w1.cell? ⟨w.heap.size + 1, 9, none⟩ = some (.int .i64 0) := cell_kept hb (by simp [go_sem]); have f9 : w1.frozen? ⟨w.heap.size + 1, 9, none⟩ = false := (hb.frozen (p := ⟨w.heap.size + 1, 9, none⟩) (by simp)).trans (by simp [go_sem]); have r10 : w1.cell? ⟨w.heap.size + 1, 10, none⟩ = some (.int .i64 0) := cell_kept hb (by simp [go_sem]); have f10 : w1.frozen? ⟨w.heap.size + 1, 10, none⟩ = false := (hb.frozen (p := ⟨w.heap.size + 1, 10, none⟩) (by simp)).trans (by simp [go_sem]); have r11 : w1.cell? ⟨w.heap.size + 1, 11, none⟩ = some (.int .i64 0) := cell_kept hb (by simp [go_sem]); have f11 : w1.frozen? ⟨w.heap.size + 1, 11, none⟩ = false := (hb.frozen (p := ⟨w.heap.size + 1, 11, none⟩) (by simp)).trans (by simp [go_sem]); have z0 : w.heap.size + 1 < w1.heap.size := World.block_lt_of_cell? (w := w1) (a := ⟨w.heap.size + 1, 0, none⟩) r0; have z1 : w.heap.size + 1 < w1.heap.size + 1 := (by omega); have z2 : w.heap.size + 1 < w1.heap.size + 1 + 1 := (by omega); have z3 : w.heap.size + 1 < w1.heap.size + 1 + 1 + 1 := (by omega); have z4 : w.heap.size + 1 < w1.heap.size + 1 + 1 + 1 + 1 := (by omega); have z5 : w.heap.size + 1 < w1.heap.size + 1 + 1 + 1 + 1 + 1 := (by omega); have z6 : w.heap.size + 1 < w1.heap.size + 1 + 1 + 1 + 1 + 1 + 1 := (by omega); have z7 : w.heap.size + 1 < w1.heap.size + 1 + 1 + 1 + 1 + 1 + 1 + 1 := (by omega); have z8 : w.heap.size + 1 < w1.heap.size + 1 + 1 + 1 + 1 + 1 + 1 + 1 + 1 := (by omega); have z9 : w.heap.size + 1 < w1.heap.size + 1 + 1 + 1 + 1 + 1 + 1 + 1 + 1 + 1 := (by omega); have z10 : w.heap.size + 1 < w1.heap.size + 1 + 1 + 1 + 1 + 1 + 1 + 1 + 1 + 1 + 1 := (by omega); have z11 : w.heap.size + 1 < w1.heap.size + 1 + 1 + 1 + 1 + 1 + 1 + 1 + 1 + 1 + 1 + 1 := (by omega); have HB : Hid (Below w.heap.size w w1) := bl_via (bl_alloc (bl_alloc (bl_refl _))) hb; clear hb)
  go_region_held3 (fun w' => w'.cell? ⟨w1.heap.size, 0, none⟩ = some (.int .i64 (2 * x + 1)) ∧ w'.cell? ⟨w1.heap.size, 1, none⟩ = some (.int .i64 (2 * y + 1)) ∧ w'.cell? ⟨w1.heap.size, 2, none⟩ = some (.int .i64 (c1x x k)) ∧ w'.cell? ⟨w1.heap.size, 3, none⟩ = some (.int .i64 (c1y y k)) ∧ w'.cell? ⟨w1.heap.size, 4, none⟩ = some (.int .i64 (c2x x k)) ∧ w'.cell? ⟨w1.heap.size, 5, none⟩ = some (.int .i64 (c2y y k)))
    ((refine ⟨?_, ?_, ?_, ?_, ?_, ?_⟩ <;> (first | (simp [go_sem]; done) | (simp [go_sem, World.cell?_alloc_past]; done) | (repeat' (first | (with_reducible refine set_far ?_ ?_) | (dsimp only; omega) | (simp [go_sem, World.cell?_alloc_past]; done))))))
    (first | (go_at_call 307; refine (edge_num _ _ _ _ _).mono ?_; rintro r w2 ⟨rfl, o3, o4, o5, rfl⟩))
  go_wp2
  refine bodyPost_ret (v := .agg #[ .int .i64 (eA (2 * x + 1) (2 * y + 1) (c1x x k) (c1y y k)), .int .i64 (eB (2 * x + 1) (2 * y + 1) (c1x x k) (c1y y k)), .int .i64 (eC (2 * x + 1) (2 * y + 1) (c1x x k) (c1y y k)), .int .i64 (eD (2 * x + 1) (2 * y + 1) (c1x x k) (c1y y k)), .int .i64 (eA (c1x x k) (c1y y k) (c2x x k) (c2y y k)), .int .i64 (eB (c1x x k) (c1y y k) (c2x x k) (c2y y k)), .int .i64 (eC (c1x x k) (c1y y k) (c2x x k) (c2y y k)), .int .i64 (eD (c1x x k) (c1y y k) (c2x x k) (c2y y k)), .int .i64 (eA (c2x x k) (c2y y k) (2 * x + 1) (2 * y + 1)), .int .i64 (eB (c2x x k) (c2y y k) (2 * x + 1) (2 * y + 1)), .int .i64 (eC (c2x x k) (c2y y k) (2 * x + 1) (2 * y + 1)), .int .i64 (eD (c2x x k) (c2y y k) (2 * x + 1) (2 * y + 1))]) ?_ rfl ⟨rfl, ?_⟩
  · simp [results, Tryz.results280, go_sem, World.cell?_alloc_past, *]
  · with_reducible repeat' (first | exact HB.out | refine bl_set ?_ ?_ | refine bl_alloc ?_ | refine bl_drew ?_)
    all_goals (dsimp only; omega)
attribute [local go_sem ↓] Go.wp_at_zero Go.wp_at_succ

def outX (k : Int) : Int := if k = 1 then 1 else if k = 3 then -1 else 0
def outY (k : Int) : Int := if k = 0 then -1 else if k = 2 then 1 else 0

theorem outX_bd (k : Int) : -1 ≤ outX k ∧ outX k ≤ 1 := by unfold outX; split <;> (try split) <;> omega
theorem outY_bd (k : Int) : -1 ≤ outY k ∧ outY k ≤ 1 := by unfold outY; split <;> (try split) <;> omega

attribute [local go_sem ↓] Go.wp_at_zero Go.wp_at_succ

theorem half (X : Int) : (2 * X).tdiv 2 = X := by rw [Int.mul_comm]; exact Int.mul_tdiv_cancel _ (by decide)

theorem fz_kept {w wx : World} {a : Addr} {v : Value} {b : Bool} (hb : Below w.heap.size w wx) (hc : w.cell? a = some v) (h : w.frozen? a = b) : wx.frozen? a = b := (hb.frozen (World.block_lt_of_cell? _ _ hc)).trans h

theorem st_old {w : World} {p a : Addr} {u v : Value} (h : w.cell? a = some v) (hne : a.block ≠ p.block) : (w.setCell p u).cell? a = some v := by
  have := World.cell?_of_block (w := w) (w' := w.setCell p u) (a := a) (Below.heap_setCell w p u a.block hne)
  exact this.trans h
theorem st_old3 {w : World} {p q r a : Addr} {u1 u2 u3 v : Value} (h : w.cell? a = some v) (hne : a.block ≠ p.block ∧ a.block ≠ q.block ∧ a.block ≠ r.block) : (((w.setCell p u1).setCell q u2).setCell r u3).cell? a = some v :=
  st_old (st_old (st_old h hne.1) hne.2.1) hne.2.2
theorem Steps.set3 {w : World} {p q r : Addr} {u1 u2 u3 : Value} (h : Steps w) (hne : 0 ≠ p.block ∧ 0 ≠ q.block ∧ 0 ≠ r.block) : Steps (((w.setCell p u1).setCell q u2).setCell r u3) := by
  obtain ⟨s0, s1, s2, s3, s4, s5, s6, s7⟩ := h
  exact ⟨st_old3 s0 hne, st_old3 s1 hne, st_old3 s2 hne, st_old3 s3 hne, st_old3 s4 hne, st_old3 s5 hne, st_old3 s6 hne, st_old3 s7 hne⟩
theorem dr_fz {w : World} {a : Addr} {b : Bool} (h : w.frozen? a = b) : w.drew.frozen? a = b := h
theorem wrap_of {n : Int} (h1 : -9000000000000000000 ≤ n) (h2 : n ≤ 9000000000000000000) : IntKind.i64.wrap n = n := by rw [IntKind.wrap_i64]; omega

theorem turn_to (a b c d e f x y p q : Int) (w : World) (hs : Sm a b c d) (h1 : -4000000 ≤ x) (h2 : x ≤ 4000000) (h3 : -4000000 ≤ y) (h4 : y ≤ 4000000) (hp : dot a b x y = p) (hq : dot c d x y = q) :
    Calls Tryz.prog 181 #[.agg #[.int .i64 a, .int .i64 b, .int .i64 c, .int .i64 d, .int .i64 e, .int .i64 f], .agg #[.int .i64 x, .int .i64 y]] w fun r w' => r = .returned (.agg #[.int .i64 p, .int .i64 q]) ∧ Below w.heap.size w w' := by
  subst hp hq
  refine (turn_any a b c d e f x y w hs h1 h2 h3 h4).mono ?_
  rintro r w' ⟨rfl, o1, o2, o3, rfl⟩
  exact ⟨rfl, bl_alloc (bl_alloc (bl_alloc (bl_refl _)))⟩

end Go.Proofs.YtnpboeodhpenmaaGreatDoor
