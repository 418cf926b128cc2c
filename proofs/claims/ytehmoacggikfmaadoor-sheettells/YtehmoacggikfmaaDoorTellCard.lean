/-
  PROVED: the law SheetTells: whatever numbers the sheet holds and however long its lists are, what the law asks of May, Tris, Text and Show agrees with what it reckons itself; the law returns true, and the sheet reads as before.
  Conditions: the package-level variables that the row lists hold what start-up lays there; the card ties that to the program's text.
-/
import Derived.Test.YtehmoacggikfmaaDoorCards
import Derived.Test.YtehmoacggikfmaaDoorTie
import Derived.Test.YtehmoacggikfmaaDoorQlae
import Derived.Test.YtehmoacggikfmaaDoorQlca
import Derived.SizedLaws
import Derived.WalkKit
import Derived.Deep.DeepHandedRow
import Derived.Lib.LaidTab
import Derived.ChangeOld
namespace Go.Proofs.YtehmoacggikfmaaDoor
open Go.ChangeShapes Go.WideShapes Go.ChangeAt Go.WideMaps Go.WideElems Go.RowKit Go.Joins

theorem laidOut : laidOutB Tryd.prog = true := by kernel_rfl

theorem by3 : Tryd.prog.bytesOf 3 = 8 := by kernel_rfl
theorem by110 : Tryd.prog.bytesOf 48 = 40 := by kernel_rfl
set_option maxRecDepth 100000 in
theorem weights_sheet {H : Type} (a b c d : DataW H) : DataW.weights Tryd.prog 25 (.agg [a, b, c, d]) = DataW.weightsEach Tryd.prog [3, 3, 22, 23] [a, b, c, d] := by
  unfold DataW.weights
  rw [Tryd.underlying25]
  rfl

set_option maxRecDepth 100000 in
/-- A sheet that came in, opened. -/
theorem sheet_of {H : Type} {enc : TypeId × Value → H} {W : World} {base : Nat} {v : Value} {d : DataW H} {p : List MemPlace} (hv : Value.okWide Tryd.prog W .any base 25 v)
    (h : DataW.Trod enc Tryd.prog W 0 (fun _ => true) true 25 v d p) (hk : ∀ n ∈ d.weights Tryd.prog 25, n ≤ reachBytes) :
    ∃ (X Y : Int) (a c : Option Addr) (ca cc n : Nat) (zs ks : List Int), v = .agg #[.int .i64 X, .int .i64 Y, .slice a zs.length ca, .slice c n cc] ∧ Row W a zs ∧ Row W c ks ∧ ks.length = n * 5 ∧ zs.length ≤ 17592186044416 ∧ n ≤ 3518437208883 := by
  obtain ⟨cs, rfl, hsz⟩ := okWide_struct Tryd.underlying25 hv
  obtain ⟨e0, e1, e2, e3, rfl⟩ := array4 (hsz.trans c74)
  obtain ⟨fuel, hf⟩ := h
  obtain ⟨y0, y1, y2, y3, n, hx, _, t0, t1, t2, t3⟩ := trod_struct4 Tryd.underlying25 hf
  simp only [Prod.mk.injEq] at hx
  obtain ⟨rfl, _⟩ := hx
  rw [weights_sheet] at hk
  simp [Value.cells, c3, c70, c72] at t0 t1 t2 t3
  obtain ⟨X, r0, _, _⟩ := DataW.trod_int Tryd.underlying3 t0
  obtain ⟨Y, r1, _, _⟩ := DataW.trod_int Tryd.underlying3 t1
  simp at r0 r1
  subst r0 r1
  obtain ⟨c, m, cc, ks, r3, hn, hrow, hlen⟩ := creases_of t3
  simp at r3
  subst r3
  have hm : m ≤ 3518437208883 := by
    rcases hlen with rfl | ⟨es, rs, rfl, e⟩
    · omega
    · have := hk ((es.length + rs.length) * Tryd.prog.bytesOf 48) (DataW.weights_mem_each (j := 3) (t := 23) (d := y3.1) rfl rfl _ (by rw [e]; simp [DataW.weights, Tryd.underlying23]))
      rw [by110] at this
      unfold reachBytes at this
      omega
  rcases open_ints Tryd.underlying22 Tryd.underlying3 c3 t2 with ⟨r2, _⟩ | ⟨x, l, cap, zs, r2, _, hl, _, hz, hy, hcell, _⟩
  · simp at r2
    subst r2
    exact ⟨X, Y, none, c, 0, cc, m, [], ks, rfl, fun i hi => absurd hi (by simp), hrow, hn, by simp, hm⟩
  · simp at r2
    subst r2
    have hz' : zs.length = cap := by simpa using hz
    have hlz : (zs.take l).length = l := by rw [List.length_take]; omega
    refine ⟨X, Y, some x, c, cap, cc, m, zs.take l, ks, by rw [hlz], ?_, hrow, hn, ?_, hm⟩
    · intro i hi
      rw [hlz] at hi
      obtain ⟨b, off, rfl, hc'⟩ := ints_at hcell (by omega)
      refine ⟨b, off, rfl, ?_⟩
      rw [hc' i (by omega), List.getElem_take, List.getD_eq_getElem?_getD, List.getElem?_eq_getElem (by omega)]
      rfl
    · have := hk (((lits (H := H) .i64 (zs.take l)).length + (lits (H := H) .i64 (zs.drop l)).length) * Tryd.prog.bytesOf 3) (DataW.weights_mem_each (j := 2) (t := 22) (d := y2.1) rfl rfl _ (by rw [hy]; simp [DataW.weights, Tryd.underlying22]))
      rw [by3, show (lits (H := H) .i64 (zs.take l)).length = (zs.take l).length by simp [lits]] at this
      unfold reachBytes at this
      omega

set_option maxRecDepth 100000 in
theorem sheetTells_contract (H : Type) (enc : TypeId × Value → H) (W : World) (base : Nat) (args : Array Value) (ds gs : List (DataW H)) (before : List MemPlace)
    (hval : ∀ (j : Nat) t v, Tryd.f3.params[j]? = some t → args[j]? = some v → Value.okWide Tryd.prog W .any base t v)
    (hW : DataW.Whole enc Tryd.prog Tryd.f3.params.toList Rows.sheetTellsSpec.vars false W args.toList ds gs before) (hk : (DataW.weightsEach Tryd.prog (Tryd.f3.params.toList ++ (OpenSpec.ofChange Rows.sheetTellsSpec).bare.plain.varTypes Tryd.prog) (ds ++ gs)).all (· ≤ reachBytes) = true) (hL : laidMetH Tryd.prog Rows.sheetTellsRow.laid W) :
    Calls Tryd.prog 3 args W fun e W' => ∃ v, e = .returned v ∧ Rows.sheetTellsSpec.post enc Tryd.prog Tryd.f3 false true false false W args v W' := by
  have hW' := hW
  obtain ⟨p, q, hA0, hV, rfl, hfz, hnd⟩ := hW
  have hA : DataW.TrodAll enc Tryd.prog W 0 (fun _ => true) true Tryd.f3.params.toList args.toList ds p := hA0
  rw [Tryd.params3] at hA hval
  obtain ⟨v0, vs0, d0, ds0, p0, q0, hargs, rfl, rfl, h0, r0⟩ := trodAll_cons hA
  obtain ⟨rfl, rfl, rfl⟩ := trodAll_nil r0
  obtain rfl : args = #[v0] := by cases args; simp_all
  obtain ⟨rfl, rfl⟩ := trodVars_none hV
  have lt0 : ∀ x ∈ p0, x.block < W.heap.size := by obtain ⟨m, hm⟩ := h0; exact DataW.trod_lt m _ _ _ hm
  obtain ⟨X, Y, a, c, ca, cc, n, zs, ks, rfl, rz, rk, hn, hlz, hln⟩ := sheet_of (hval 0 25 v0 rfl rfl) h0 (fun n hn => by simpa using List.all_eq_true.1 hk n (DataW.weights_mem_each (j := 0) (t := 25) (by rw [Tryd.params3]; rfl) rfl n hn))
  clear hA0
  refine (sheetTells_any X Y a c ca cc n zs ks W rz rk hn hlz hln (steps_of hL)).mono fun e W' ⟨he, bel⟩ => ?_
  subst he
  exact ⟨_, rfl, _, _, _, [], _, [], hW', trodAll_mk1 (shut_bool Tryd.underlying4 _), (trodAll_cons_mk (Below.trod laidOut (by kernel_rfl) (of_decide_eq_true (by kernel_rfl)) h0 bel lt0) trodAll_mk0), rfl, bel.frame _, fun h => by cases h⟩

set_option maxRecDepth 100000 in
theorem tells_met (os : Os) : laidMet Tryd.prog Rows.sheetTellsRow.laid ((World.doorLaid Tryd.prog 204 os).forCall (fun _ _ => 0) ⟨#[], #[.agg #[.int .i64 0, .int .i64 0, .slice none 0 0, .slice none 0 0]], []⟩).memory :=
  laidMet_of_run' 65 (by kernel_rfl) (by kernel_rfl)
set_option maxRecDepth 100000 in
theorem tells_reads (os : Os) {H : Type} (enc : TypeId × Value → H) : ∃ places, DataW.whole enc Tryd.prog ((World.doorLaid Tryd.prog 204 os).forCall (fun _ _ => 0) ⟨#[], #[.agg #[.int .i64 0, .int .i64 0, .slice none 0 0, .slice none 0 0]], []⟩).memory Tryd.f3.params.toList Rows.sheetTellsSpec.vars false #[Value.agg #[.int .i64 0, .int .i64 0, .slice none 0 0, .slice none 0 0]].toList 8 = some ([.agg [.lit (.int .i64 0), .lit (.int .i64 0), .nil, .nil]], [], places) :=
  ⟨[], by kernel_rfl⟩

set_option maxRecDepth 100000 in
theorem sheetTells_lifted (os : Os) (started : os.Started) (H : Type) (enc : TypeId × Value → H) (F : Stop.Interp) :
    ReturnsInHanded {} Tryd.checked os 3 .any ((OpenSpec.ofChange Rows.sheetTellsSpec).preRow enc Tryd.prog Tryd.f3 Rows.sheetTellsRow.domain false Rows.sheetTellsRow.laid) (((OpenSpec.ofChange Rows.sheetTellsSpec).at F).post enc Tryd.prog Tryd.f3 false true false false) := by
  obtain ⟨places, hx⟩ := tells_reads os enc
  refine returnsInHanded_of_row (C := Tryd.checked) (s := OpenSpec.ofChange Rows.sheetTellsSpec) Tryd.own started (by kernel_rfl) Tryd.func3
    (witness_row_at (enc := enc) (C := Tryd.checked) false (World.doorLaid Tryd.prog 204 os) #[.agg #[.int .i64 0, .int .i64 0, .slice none 0 0, .slice none 0 0]] rfl (by kernel_rfl) (by kernel_rfl) (by kernel_rfl)
      (OpenSpec.preRow_of_cond 8 hx (by kernel_rfl) (fun k hk => by cases hk) (by kernel_rfl) (tells_met os))) ?_
  intro W base args ds gs before hval hW _ _ hwt hL _ _
  exact sheetTells_contract H enc W base args ds gs before hval hW hwt hL

theorem sheetTells_said : Rows.SheetTellsSaid :=
  OpenClaim.holds_of_cond 3 Tryd.f3 rfl rfl rfl rfl rfl rfl rfl ⟨rfl, rfl, rfl, rfl, rfl⟩ rfl rfl rfl rfl rfl (by kernel_rfl) Tryd.func3 (by kernel_rfl)
    (of_decide_eq_true (by kernel_rfl)) (by unfold Func.isWrapper; first | (rw [if_pos (by decide +kernel)]; kernel_rfl) | (rw [if_neg (by decide +kernel)]; exact ⟨rfl, rfl⟩))
    (fun os started H enc _ F => by rw [OpenClaim.pre_eq_preRow]; exact sheetTells_lifted os started H enc F)

theorem tells_plain (f : FuncId) (fn : Func) (hf : Tryd.pinned.checked.prog.funcNamed "pleat/pleatlaw.SheetTells" = some f) (hfn : Tryd.pinned.checked.prog.funcs[f]? = some fn) :
    false = Tryd.pinned.checked.prog.looks [] ∧ ∀ (j : Nat) t, fn.params[j]? = some t → Tryd.pinned.checked.prog.wantsStandIn t = false := by
  obtain rfl : f = 3 := Option.some.inj ((show Tryd.prog.funcNamed "pleat/pleatlaw.SheetTells" = some 3 by kernel_rfl).symm.trans hf) |>.symm
  obtain rfl : fn = Tryd.f3 := (Option.some.inj (Tryd.func3.symm.trans hfn)).symm
  refine ⟨by kernel_rfl, fun j t ht => ?_⟩
  rw [Tryd.params3] at ht
  obtain rfl : t = 25 := by simpa using Array.mem_of_getElem? ht
  exact (show Tryd.prog.wantsStandIn 25 = false by kernel_rfl)

theorem sheetTells_holds : Rows.SheetTellsCardSaid :=
  Claim7.holds_tied_plain_at .later [] _ _ _ _ sheetTells_said (fun _ h => by cases h) (by kernel_rfl) (fun _ h => by cases h) sheetTells_row_tie rfl ⟨rfl, rfl⟩ (by kernel_rfl) rfl tells_plain (by kernel_rfl)
#print axioms sheetTells_holds
end Go.Proofs.YtehmoacggikfmaaDoor
