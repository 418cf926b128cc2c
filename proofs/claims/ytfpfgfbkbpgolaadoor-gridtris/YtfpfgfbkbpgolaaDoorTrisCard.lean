/-
  PROVED: the law GridTris: for every triangle and every edge, whatever their numbers, the grid's Corners, Edges and Across answer what the document says, and the law returns true.
  Condition: the package-level variable grid.steps holds what start-up lays there; the card ties that to the program's text.
-/
import Derived.Test.YtfpfgfbkbpgolaaDoorCards
import Derived.Test.YtfpfgfbkbpgolaaDoorTie
import Derived.Test.YtfpfgfbkbpgolaaDoorLaid
import Derived.Test.YtfpfgfbkbpgolaaDoorEdgf
import Derived.Test.YtfpfgfbkbpgolaaDoorGtrb
namespace Go.Proofs.YtfpfgfbkbpgolaaDoor
open Go.ChangeShapes Go.WideShapes Go.ChangeAt Go.WideMaps Go.WideElems Go.RowKit Go.Joins

theorem gridTris_any (x y k p q r s : Int) (w : World) (hs : Steps w) :
    Calls Tryd.prog 3 #[.agg #[.int .i64 x, .int .i64 y, .int .i64 k], .agg #[.int .i64 p, .int .i64 q, .int .i64 r, .int .i64 s]] w fun e w' => e = .returned (.bool true) ∧ Below w.heap.size w w' := by
  cases h : triB x y k
  · exact gridTris_a x y k p q r s w h
  · exact gridTris_in x y k p q r s w h hs

set_option maxRecDepth 100000 in
theorem gridTris_lifted (os : Os) (started : os.Started) (H : Type) (enc : TypeId × Value → H) :
    ReturnsInHanded {} Tryd.checked os 3 .any (fun w args => (Rows.gridTrisSpec.pre enc Tryd.prog Tryd.f3 [] false w args ∧ laidMetH Tryd.prog [("pleat/grid.steps", Rows.laid_pleat_grid_steps)] w) ∧ sizedMet enc Tryd.prog Tryd.f3 (OpenSpec.ofChange Rows.gridTrisSpec) false w args)
      (Rows.gridTrisSpec.post enc Tryd.prog Tryd.f3 false true false false) := by
  refine returnsInHanded_of_change_and (C := Tryd.checked) (X := fun w _ => laidMetH Tryd.prog [("pleat/grid.steps", Rows.laid_pleat_grid_steps)] w) (fun _ _ _ hh h => h.of_heap hh) Tryd.own started (by kernel_rfl) Tryd.func3
    (ChangeSpec.witness_shaped (enc := enc) (C := Tryd.checked) (os := os) (X := fun w _ => laidMetH Tryd.prog [("pleat/grid.steps", Rows.laid_pleat_grid_steps)] w) false (World.doorLaid Tryd.prog 189 os) #[.agg #[.int .i64 0, .int .i64 0, .int .i64 0], .agg #[.int .i64 0, .int .i64 0, .int .i64 0, .int .i64 0]] 8 rfl (World.shaped_of_RefB (by kernel_rfl) (by kernel_rfl)) (by kernel_rfl) (by kernel_rfl) (by kernel_rfl) (door_met os _)) ?_
  intro W base args ds gs before hval0 hW _ _ hL _
  have hval : ∀ (j : Nat) t v, Tryd.f3.params[j]? = some t → args[j]? = some v → Value.okWide Tryd.prog W .any base t v := hval0
  have hW' := hW
  obtain ⟨p, q, hA0, hV, rfl, hfz, hnd⟩ := hW
  have hA : DataW.TrodAll enc Tryd.prog W 0 (fun _ => true) true Tryd.f3.params.toList args.toList ds p := hA0
  rw [Tryd.params3] at hA hval
  obtain ⟨v0, v1, d0, d1, p0, p1, rfl, rfl, rfl, h0, h1⟩ := trodAll_two hA
  obtain ⟨rfl, rfl⟩ := trodVars_none hV
  obtain ⟨w0, w1, w2, y2, y3, y4, m', rfl, rfl, rfl, hy2, hy3, hy4⟩ := open_agg3 Tryd.underlying23 (by kernel_rfl) c23 (hval 0 23 v0 rfl rfl) h0
  obtain ⟨a, b, c, d, rfl, rfl, rfl, wa, wb, wc, wd⟩ := open_edge (hval 1 27 v1 rfl rfl) h1
  obtain ⟨x, e2, rfl, wx⟩ := DataW.trod_int Tryd.underlying3 hy2
  obtain ⟨y, e3, rfl, wy⟩ := DataW.trod_int Tryd.underlying3 hy3
  obtain ⟨k, e4, rfl, wk⟩ := DataW.trod_int Tryd.underlying3 hy4
  simp at e2 e3 e4
  subst e2 e3 e4
  clear hA0 hval0
  simp only [List.append_nil] at hW'
  have r27 : ∀ (W' : World) (sp : Nat → Bool), DataW.Trod enc Tryd.prog W' 0 sp true 27 (.agg #[.int .i64 a, .int .i64 b, .int .i64 c, .int .i64 d]) (.agg [.agg [.lit (.int .i64 a), .lit (.int .i64 b)], .agg [.lit (.int .i64 c), .lit (.int .i64 d)]]) [] := fun W' sp => shut_edge wa wb wc wd
  have r23 : ∀ (W' : World) (sp : Nat → Bool), DataW.Trod enc Tryd.prog W' 0 sp true 23 (.agg #[.int .i64 x, .int .i64 y, .int .i64 k]) (.agg [.lit (.int .i64 x), .lit (.int .i64 y), .lit (.int .i64 k)]) [] := fun W' sp =>
    shut_agg3 (y0 := (.lit (.int .i64 x), [])) (y1 := (.lit (.int .i64 y), [])) (y2 := (.lit (.int .i64 k), [])) Tryd.underlying23 (by kernel_rfl) c23 ⟨1, by simp [DataW.trod, Tryd.underlying3, wx]⟩ ⟨1, by simp [DataW.trod, Tryd.underlying3, wy]⟩ ⟨1, by simp [DataW.trod, Tryd.underlying3, wk]⟩
  refine (gridTris_any x y k a b c d W (steps_of hL)).mono fun e W' ⟨he, hb⟩ => ?_
  subst he
  exact ⟨_, rfl, _, _, _, [], [], [], hW', trodAll_mk1 (shut_bool Tryd.underlying4 _), trodAll_mk2 (r23 _ _) (r27 _ _), rfl, hb.frame _, fun h => by cases h⟩

theorem gridTris_row : Rows.GridTrisSaid :=
  OpenClaim.holds_of_wide 3 Tryd.f3 rfl rfl rfl rfl rfl rfl rfl ⟨rfl, rfl, rfl, rfl, rfl⟩ rfl rfl rfl rfl rfl (by kernel_rfl) Tryd.func3 (by kernel_rfl)
    (of_decide_eq_true (by kernel_rfl)) (by unfold Func.isWrapper; first | (rw [if_pos (by decide +kernel)]; kernel_rfl) | (rw [if_neg (by decide +kernel)]; exact ⟨rfl, rfl⟩))
    (fun os started H enc _ => gridTris_lifted os started H enc)

theorem gridTris_holds : Rows.GridTrisCardSaid :=
  Claim7.holds_tied_plain_at .later [] [.called] true (true, "810f7797aa62436fd0c3de6d11c2ca92d8bdec3865ba6637f5262ec63e0eca1e") false
    gridTris_row (fun _ h => by cases h) (by kernel_rfl) (fun _ h => by cases h) gridTris_row_tie rfl ⟨rfl, rfl⟩ (by kernel_rfl) rfl
    (fun f fn hf hfn => by
      obtain rfl : f = 3 := Option.some.inj ((show Tryd.prog.funcNamed "pleat/pleatlaw.GridTris" = some 3 by kernel_rfl).symm.trans hf) |>.symm
      obtain rfl : fn = Tryd.f3 := (Option.some.inj (Tryd.func3.symm.trans hfn)).symm
      exact ⟨by kernel_rfl, fun j t ht => by
        rw [Tryd.params3] at ht
        have hm : t ∈ [23, 27] := by simpa using Array.mem_of_getElem? ht
        have hall : ([23, 27].all fun u => !Tryd.prog.wantsStandIn u) = true := by kernel_rfl
        exact (show Tryd.prog.wantsStandIn t = false by simpa using List.all_eq_true.1 hall t hm)⟩)
    (by kernel_rfl)
#print axioms gridTris_holds
end Go.Proofs.YtfpfgfbkbpgolaaDoor
