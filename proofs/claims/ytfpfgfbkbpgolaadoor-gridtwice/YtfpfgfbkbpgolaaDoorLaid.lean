/- What the listed variable's reading gives: the steps lie as start-up laid them. -/
import Derived.Test.YtfpfgfbkbpgolaaDoorRows
import Derived.Test.YtfpfgfbkbpgolaaDoorCell
import Derived.ProofKit
import Derived.LaidMore
import Derived.OpenShut
import Derived.Stop.Joined
import Derived.Lib.SmallJoins
namespace Go.Proofs.YtfpfgfbkbpgolaaDoor
open Go.ChangeShapes Go.WideShapes Go.ChangeAt Go.WideMaps Go.WideElems Go.RowKit Go.Joins

theorem Tryd.own : ownKnob Tryd.prog.godebug = none := by kernel_rfl
theorem gSteps : Tryd.prog.globalNamed "pleat/grid.steps" = some 0 := by kernel_rfl
theorem tSteps : (Tryd.prog.globals[0]?).map (·.type) = some 93 := by kernel_rfl
theorem c3 : Tryd.prog.cellsOf 3 = 1 := by kernel_rfl
theorem c25 : Tryd.prog.cellsOf 25 = 2 := by kernel_rfl
theorem c93 : Tryd.prog.cellsOf 93 = 8 := by kernel_rfl
theorem c23 : Tryd.prog.cellsOf 23 = 3 := by kernel_rfl
theorem c47 : Tryd.prog.cellsOf 47 = 2 := by kernel_rfl

theorem door_met (os : Os) (args : Array Value) : laidMetH Tryd.prog [("pleat/grid.steps", Rows.laid_pleat_grid_steps)] ((World.doorLaid Tryd.prog 189 os).forCall (fun _ _ => 0) ⟨#[], args, []⟩).memory :=
  laidMetH_of_parts3 (fuel := 8) (laidMet_of_run' 8 (by kernel_rfl) (by kernel_rfl)) (by kernel_rfl) (by kernel_rfl)

/-- A point's two numbers, read. -/
theorem point_of {H : Type} {enc : TypeId × Value → H} {W : World} {base : Nat} {sp : Nat → Bool} {hd : Bool} {m : Nat} {u v : Value} {d0 d1 : Int} {ps : List MemPlace}
    (h : DataW.trod enc Tryd.prog W base sp hd m 25 [u, v] = some (.agg [.lit (.int .i64 d0), .lit (.int .i64 d1)], ps)) : u = .int .i64 d0 ∧ v = .int .i64 d1 := by
  obtain ⟨y0, y1, n, hx, _, h0, h1⟩ := trod_struct2 Tryd.underlying25 h
  simp only [Prod.mk.injEq, DataW.agg.injEq, List.cons.injEq, and_true] at hx
  obtain ⟨⟨e0, e1⟩, _⟩ := hx
  simp [c3] at h0 h1
  obtain ⟨a, ha, hy0, _⟩ := DataW.trod_int Tryd.underlying3 h0
  obtain ⟨b, hb, hy1, _⟩ := DataW.trod_int Tryd.underlying3 h1
  subst hy0 hy1
  simp at e0 e1 ha hb
  subst e0 e1 ha hb
  exact ⟨rfl, rfl⟩

theorem steps_of {W : World} (h : laidMetH Tryd.prog [("pleat/grid.steps", Rows.laid_pleat_grid_steps)] W) : Steps W := by
  rw [MakeChecks.laidMetH_plain _ _ _ (by kernel_rfl)] at h
  obtain ⟨ps, ⟨g0, t0, cs0, f0, p0, q0, hg0, ht0, hv0, hd0, _, _⟩, _, _⟩ := h
  obtain rfl := Option.some.inj (gSteps.symm.trans hg0)
  obtain rfl := Option.some.inj (tSteps.symm.trans ht0)
  have hc := World.var?_cell hg0 hv0
  obtain ⟨xs, m1, rfl, hx1, hlen, hn4, hel⟩ := DataW.trod_array Tryd.underlying93 hd0
  rw [c93] at hlen
  simp only [Prod.mk.injEq, Rows.laid_pleat_grid_steps, DataW.agg.injEq] at hx1
  obtain ⟨hx1, _⟩ := hx1
  obtain ⟨l⟩ := cs0
  match xs, hn4 with
  | [x0, x1, x2, x3], _ =>
    match l, hlen with
    | [a0, a1, a2, a3, a4, a5, a6, a7], _ =>
      simp only [List.map_cons, List.map_nil, List.cons.injEq, and_true] at hx1
      obtain ⟨e0, e1, e2, e3⟩ := hx1
      have k0 := hel 0 (by decide)
      have k1 := hel 1 (by decide)
      have k2 := hel 2 (by decide)
      have k3 := hel 3 (by decide)
      obtain ⟨x0a, x0b⟩ := x0
      obtain ⟨x1a, x1b⟩ := x1
      obtain ⟨x2a, x2b⟩ := x2
      obtain ⟨x3a, x3b⟩ := x3
      simp at e0 e1 e2 e3
      subst e0 e1 e2 e3
      simp [c25] at k0 k1 k2 k3
      obtain ⟨r0, r1⟩ := point_of k0
      obtain ⟨r2, r3⟩ := point_of k1
      obtain ⟨r4, r5⟩ := point_of k2
      obtain ⟨r6, r7⟩ := point_of k3
      subst r0 r1 r2 r3 r4 r5 r6 r7
      exact ⟨by simpa using hc 0, by simpa using hc 1, by simpa using hc 2, by simpa using hc 3, by simpa using hc 4, by simpa using hc 5, by simpa using hc 6, by simpa using hc 7⟩

end Go.Proofs.YtfpfgfbkbpgolaaDoor
