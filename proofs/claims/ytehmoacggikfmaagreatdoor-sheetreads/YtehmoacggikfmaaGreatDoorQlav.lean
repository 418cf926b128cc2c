/- A part of the proof of sheetReads_holds. -/
import Derived.Test.YtehmoacggikfmaaGreatDoorRows
import Derived.Test.YtehmoacggikfmaaGreatDoorQlau
import Derived.ProofKit
import Derived.LaidMore
import Derived.OpenShut
import Derived.Stop.Joined
import Derived.Lib.SmallJoins
import Derived.Shelf.Vars
import Derived.Test.YtehmoacggikfmaaGreatDoorQlai
import Derived.Test.YtehmoacggikfmaaGreatDoorQlat
import Derived.Defers
import Derived.Recover
import Derived.Laws.Pointers
namespace Go.Proofs.YtehmoacggikfmaaGreatDoor
open Go.ChangeShapes Go.WideShapes Go.ChangeAt Go.WideMaps Go.WideElems Go.RowKit Go.Joins

theorem Tryz.own : ownKnob Tryz.prog.godebug = none := by kernel_rfl
theorem gSteps : Tryz.prog.globalNamed "pleat/grid.steps" = some 3 := by kernel_rfl
theorem tSteps : (Tryz.prog.globals[3]?).map (·.type) = some 170 := by kernel_rfl
theorem c3 : Tryz.prog.cellsOf 3 = 1 := by kernel_rfl
theorem c25 : Tryz.prog.cellsOf 51 = 2 := by kernel_rfl
theorem c119 : Tryz.prog.cellsOf 170 = 8 := by kernel_rfl

/-- A point's two numbers, read. -/
theorem point_of {H : Type} {enc : TypeId × Value → H} {W : World} {base : Nat} {sp : Nat → Bool} {hd : Bool} {m : Nat} {u v : Value} {d0 d1 : Int} {ps : List MemPlace}
    (h : DataW.trod enc Tryz.prog W base sp hd m 51 [u, v] = some (.agg [.lit (.int .i64 d0), .lit (.int .i64 d1)], ps)) : u = .int .i64 d0 ∧ v = .int .i64 d1 := by
  obtain ⟨y0, y1, n, hx, _, h0, h1⟩ := trod_struct2 Tryz.underlying51 h
  simp only [Prod.mk.injEq, DataW.agg.injEq, List.cons.injEq, and_true] at hx
  obtain ⟨⟨e0, e1⟩, _⟩ := hx
  simp [c3] at h0 h1
  obtain ⟨a, ha, hy0, _⟩ := DataW.trod_int Tryz.underlying3 h0
  obtain ⟨b, hb, hy1, _⟩ := DataW.trod_int Tryz.underlying3 h1
  subst hy0 hy1
  simp at e0 e1 ha hb
  subst e0 e1 ha hb
  exact ⟨rfl, rfl⟩
set_option maxRecDepth 100000 in
theorem steps_of {W : World} (h : laidMetH Tryz.prog Rows.sheetReadsRow.laid W) : Steps W := by
  rw [MakeChecks.laidMetH_plain _ _ _ (by kernel_rfl)] at h
  obtain ⟨ps, ⟨_, _, _, _, _, _, _, _, _, _, ⟨g0, t0, cs0, f0, p0, q0, hg0, ht0, hv0, hd0, _, _⟩, _⟩, _, _⟩ := h
  obtain rfl := Option.some.inj (gSteps.symm.trans hg0)
  obtain rfl := Option.some.inj (tSteps.symm.trans ht0)
  have hc := World.var?_cell hg0 hv0
  obtain ⟨xs, m1, rfl, hx1, hlen, hn4, hel⟩ := DataW.trod_array Tryz.underlying170 hd0
  rw [c119] at hlen
  simp only [Prod.mk.injEq, Rows.laid_pleat_grid_steps, DataW.agg.injEq] at hx1
  obtain ⟨hx1, _⟩ := hx1
  obtain ⟨l⟩ := cs0
  match xs, hn4 with
  | [x0, x1, x2, x3], _ =>
    match l, hlen with
    | [a0, a1, a2, a3, a4, a5, a6, a7], _ =>
      simp only [List.map_cons, List.map_nil, List.cons.injEq, and_true] at hx1
      obtain ⟨e0, e1, e2, e3⟩ := hx1
      have k0 := hel 0 (by decide)
      have k1 := hel 1 (by decide)
      have k2 := hel 2 (by decide)
      have k3 := hel 3 (by decide)
      obtain ⟨x0a, x0b⟩ := x0
      obtain ⟨x1a, x1b⟩ := x1
      obtain ⟨x2a, x2b⟩ := x2
      obtain ⟨x3a, x3b⟩ := x3
      simp at e0 e1 e2 e3
      subst e0 e1 e2 e3
      simp [c25] at k0 k1 k2 k3
      obtain ⟨r0, r1⟩ := point_of k0
      obtain ⟨r2, r3⟩ := point_of k1
      obtain ⟨r4, r5⟩ := point_of k2
      obtain ⟨r6, r7⟩ := point_of k3
      subst r0 r1 r2 r3 r4 r5 r6 r7
      exact ⟨by simpa using hc 0, by simpa using hc 1, by simpa using hc 2, by simpa using hc 3, by simpa using hc 4, by simpa using hc 5, by simpa using hc 6, by simpa using hc 7⟩
set_option maxRecDepth 100000 in
theorem mx_of {W : World} (h : W.ShapedOpen Tryz.prog) : MX W :=
  cell_of_shapedOpen_int (t := 3) (zero := #[.int .i64 0]) h (of_decide_eq_true (by kernel_rfl)) (by kernel_rfl) (by kernel_rfl) (by kernel_rfl) (by kernel_rfl) Tryz.underlying3
end Go.Proofs.YtehmoacggikfmaaGreatDoor
namespace Go.Proofs.YtehmoacggikfmaaGreatDoor
open Go.RowKit

theorem catch_idle (p q : Addr) (w : World) :
    CallsD Tryz.prog 7 #[.pointer (some p), .pointer (some q)] .returning w fun e u' w' => e = .returned (.tuple #[]) ∧ u' = .returning ∧ w' = w := by
  refine callsD_of_wpS Tryz.func7 rfl fun c₀ cs hu => ?_
  apply wpS_seq
  apply wpS_region
  simp [wpOpsS, go_sem, recoverD, hu, Tryz.ntmps7, Exit.thenS]
  apply wpS_seq
  apply wpS_region
  simp [wpOpsS, go_sem, Exit.thenS]
  refine wpS_cond (t := false) (by simp [Act.eval, Array.replicate]) ?_
  simp only [Bool.false_eq_true, if_false]
  refine wpS_of_wp (wp_skip ?_)
  cases c₀
  simp_all [bodyPostS, results, Tryz.results7]
set_option maxRecDepth 100000 in
set_option maxHeartbeats 1600000 in
theorem catch_panicking (ps pf : Nat) (c a : Int) (s0 s1 s2 s3 f0 f1 : Value) (older : List PanicEntry) (w : World) (hne : ps ≠ pf)
    (h0 : w.cell? ⟨ps, 0, none⟩ = some s0) (h1 : w.cell? ⟨ps, 1, none⟩ = some s1) (h2 : w.cell? ⟨ps, 2, none⟩ = some s2) (h3 : w.cell? ⟨ps, 3, none⟩ = some s3) (g0 : w.cell? ⟨pf, 0, none⟩ = some f0) (g1 : w.cell? ⟨pf, 1, none⟩ = some f1)
    (z0 : w.frozen? ⟨ps, 0, none⟩ = false) (z1 : w.frozen? ⟨ps, 1, none⟩ = false) (z2 : w.frozen? ⟨ps, 2, none⟩ = false) (z3 : w.frozen? ⟨ps, 3, none⟩ = false) (y0 : w.frozen? ⟨pf, 0, none⟩ = false) (y1 : w.frozen? ⟨pf, 1, none⟩ = false) :
    CallsD Tryz.prog 7 #[.pointer (some ⟨ps, 0, none⟩), .pointer (some ⟨pf, 0, none⟩)] (.panicking ({ v := .iface 28 (.agg #[.int .i64 c, .int .i64 a]), recovered := false } :: older)) w fun e u' w' =>
      e = .returned (.tuple #[]) ∧ u' = .panicking ({ v := .iface 28 (.agg #[.int .i64 c, .int .i64 a]), recovered := true } :: older) ∧ w'.cell? ⟨ps, 0, none⟩ = some (.int .i64 0) ∧ w'.cell? ⟨ps, 1, none⟩ = some (.int .i64 0) ∧ w'.cell? ⟨ps, 2, none⟩ = some (.slice none 0 0) ∧ w'.cell? ⟨ps, 3, none⟩ = some (.slice none 0 0) ∧ w'.cell? ⟨pf, 0, none⟩ = some (.int .i64 c) ∧ w'.cell? ⟨pf, 1, none⟩ = some (.int .i64 a) ∧ w'.heap.size = w.heap.size ∧ (w'.os = w.os ∧ w'.tape = w.tape ∧ w'.output = w.output) ∧ ∀ b, b ≠ ps → b ≠ pf → w'.heap[b]? = w.heap[b]? := by
  have hne2 : ¬ pf = ps := fun e => hne e.symm
  have hta : ∀ W : World, (Instr.typeAssert (.iface 28 (.agg #[.int .i64 c, .int .i64 a])) 20 28 false).run Tryz.prog W = .ok (.agg #[.int .i64 c, .int .i64 a]) W := fun W => by kernel_rfl
  have hne1 : ¬ ps = pf := hne
  refine callsD_of_wpS Tryz.func7 rfl fun c₀ cs hu => ?_
  apply wpS_seq
  apply wpS_region
  simp [wpOpsS, go_sem, recoverD, hu, Tryz.ntmps7, Exit.thenS]
  apply wpS_seq
  apply wpS_region
  simp [wpOpsS, go_sem, Exit.thenS]
  refine wpS_cond (t := true) (by simp [Act.eval, Array.replicate]) ?_
  simp only [if_true]
  refine wpS_of_wp ?_
  go_region_held3 (fun _ => True) (trivial) (fail)
  all_goals
    simp [bodyPostS, results, Tryz.results7, go_sem, h0, h1, h2, h3, g0, g1]
  all_goals
    have e3 : ∀ (W : World) (b o : Nat) (v : Value), (W.setCell ⟨b, o, none⟩ v).os = W.os ∧ (W.setCell ⟨b, o, none⟩ v).tape = W.tape ∧ (W.setCell ⟨b, o, none⟩ v).output = W.output := fun W b o v => ⟨(grown_cell W b o v).os, (grown_cell W b o v).tape, (grown_cell W b o v).output⟩
    refine ⟨?_, ?_⟩
    · have e4 := fun W b o v => (e3 W b o v).1
      have e5 := fun W b o v => (e3 W b o v).2.1
      have e6 := fun W b o v => (e3 W b o v).2.2
      have e7 : ∀ W : World, W.drew.os = W.os := fun _ => rfl
      have e8 : ∀ W : World, W.drew.tape = W.tape := fun _ => rfl
      have e9 : ∀ W : World, W.drew.output = W.output := fun _ => rfl
      simp only [e4, e6, e7, e9, and_self]
    intro b hb1 hb2
    have e : ∀ (W : World) (p : Addr) (v : Value), p.block = ps ∨ p.block = pf → (W.setCell p v).heap[b]? = W.heap[b]? := fun W p v hp => Below.heap_setCell _ _ _ b (fun e => by rcases hp with hp | hp <;> omega)
    rw [show ∀ W : World, W.drew.heap = W.heap from fun _ => rfl]
    rw [e _ _ _ (Or.inr rfl), e _ _ _ (Or.inr rfl), e _ _ _ (Or.inl rfl), e _ _ _ (Or.inl rfl), e _ _ _ (Or.inl rfl), e _ _ _ (Or.inl rfl)]
end Go.Proofs.YtehmoacggikfmaaGreatDoor
