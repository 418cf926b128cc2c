/-
  PROVED: the law GridMaps: for any two maps and any triangle, whatever their numbers, the grid's After, Back and Move answer what the document says, and the law returns true.
  Condition: the package-level variable grid.steps holds what start-up lays there; the card ties that to the program's text.
-/
import Derived.Test.YtfpfgfbkbpgolaaDoorCards
import Derived.Test.YtfpfgfbkbpgolaaDoorTie
import Derived.Test.YtfpfgfbkbpgolaaDoorLaid
import Derived.Test.YtfpfgfbkbpgolaaDoorMaps
import Derived.Test.YtfpfgfbkbpgolaaDoorMapt
import Derived.Test.YtfpfgfbkbpgolaaDoorMapu
import Derived.Test.YtfpfgfbkbpgolaaDoorMvex
import Derived.Test.YtfpfgfbkbpgolaaDoorSixf
namespace Go.Proofs.YtfpfgfbkbpgolaaDoor
open Go.ChangeShapes Go.WideShapes Go.ChangeAt Go.WideMaps Go.WideElems Go.RowKit Go.Joins

theorem gridMaps_any (a b c d e f A B C D E F x y k : Int) (w : World) (hs : Steps w) :
    Calls Tryd.prog 5 #[.agg #[.int .i64 a, .int .i64 b, .int .i64 c, .int .i64 d, .int .i64 e, .int .i64 f], .agg #[.int .i64 A, .int .i64 B, .int .i64 C, .int .i64 D, .int .i64 E, .int .i64 F], .agg #[.int .i64 x, .int .i64 y, .int .i64 k]] w fun r w' => r = .returned (.bool true) ∧ Below w.heap.size w w' := by
  cases h1 : mapB a b c d e f
  · exact gridMaps_bad_x a b c d e f A B C D E F x y k w h1
  cases h3 : triB x y k
  · cases h2 : mapB A B C D E F
    · exact gridMaps_out_out a b c d e f A B C D E F x y k w h1 h2 h3
    cases hm : mapB (dot A B a c) (dot A B b d) (dot C D a c) (dot C D b d) (dot A B e f + E) (dot C D e f + F)
    · exact gridMaps_no_out a b c d e f A B C D E F x y k w h1 h2 hm h3
    · exact gridMaps_yes_out a b c d e f A B C D E F x y k w h1 h2 hm h3
  obtain ⟨X, Y, K, q1, q2, r1, r2, hX, hY, hK, hKx, hKy, hq, hr, X1, Y1, hmm⟩ := move_data a b c d e f x y k h1 h3
  cases h4 : triB X Y K
  · cases h2 : mapB A B C D E F
    · exact gridMaps_out_no a b c d e f A B C D E F x y k X Y K q1 q2 r1 r2 w h1 h2 h3 hX hY hK hKx hKy hq hr X1 Y1 hmm h4 hs
    cases hm : mapB (dot A B a c) (dot A B b d) (dot C D a c) (dot C D b d) (dot A B e f + E) (dot C D e f + F)
    · exact gridMaps_no_no a b c d e f A B C D E F x y k X Y K q1 q2 r1 r2 w h1 h2 hm h3 hX hY hK hKx hKy hq hr X1 Y1 hmm h4 hs
    · exact gridMaps_yes_no a b c d e f A B C D E F x y k X Y K q1 q2 r1 r2 w h1 h2 hm h3 hX hY hK hKx hKy hq hr X1 Y1 hmm h4 hs
  · cases h2 : mapB A B C D E F
    · exact gridMaps_out_yes a b c d e f A B C D E F x y k X Y K q1 q2 r1 r2 w h1 h2 h3 hX hY hK hKx hKy hq hr X1 Y1 hmm h4 hs
    cases hm : mapB (dot A B a c) (dot A B b d) (dot C D a c) (dot C D b d) (dot A B e f + E) (dot C D e f + F)
    · exact gridMaps_no_yes a b c d e f A B C D E F x y k X Y K q1 q2 r1 r2 w h1 h2 hm h3 hX hY hK hKx hKy hq hr X1 Y1 hmm h4 hs
    · exact gridMaps_yes_yes a b c d e f A B C D E F x y k X Y K q1 q2 r1 r2 w h1 h2 hm h3 hX hY hK hKx hKy hq hr X1 Y1 hmm h4 hs

set_option maxRecDepth 100000 in
theorem gridMaps_lifted (os : Os) (started : os.Started) (H : Type) (enc : TypeId × Value → H) :
    ReturnsInHanded {} Tryd.checked os 5 .any (fun w args => (Rows.gridMapsSpec.pre enc Tryd.prog Tryd.f5 [] false w args ∧ laidMetH Tryd.prog [("pleat/grid.steps", Rows.laid_pleat_grid_steps)] w) ∧ sizedMet enc Tryd.prog Tryd.f5 (OpenSpec.ofChange Rows.gridMapsSpec) false w args)
      (Rows.gridMapsSpec.post enc Tryd.prog Tryd.f5 false true false false) := by
  refine returnsInHanded_of_change_and (C := Tryd.checked) (X := fun w _ => laidMetH Tryd.prog [("pleat/grid.steps", Rows.laid_pleat_grid_steps)] w) (fun _ _ _ hh h => h.of_heap hh) Tryd.own started (by kernel_rfl) Tryd.func5
    (ChangeSpec.witness_shaped (enc := enc) (C := Tryd.checked) (os := os) (X := fun w _ => laidMetH Tryd.prog [("pleat/grid.steps", Rows.laid_pleat_grid_steps)] w) false (World.doorLaid Tryd.prog 189 os) #[.agg #[.int .i64 0, .int .i64 0, .int .i64 0, .int .i64 0, .int .i64 0, .int .i64 0], .agg #[.int .i64 0, .int .i64 0, .int .i64 0, .int .i64 0, .int .i64 0, .int .i64 0], .agg #[.int .i64 0, .int .i64 0, .int .i64 0]] 8 rfl (World.shaped_of_RefB (by kernel_rfl) (by kernel_rfl)) (by kernel_rfl) (by kernel_rfl) (by kernel_rfl) (door_met os _)) ?_
  intro W base args ds gs before hval0 hW _ _ hL _
  have hval : ∀ (j : Nat) t v, Tryd.f5.params[j]? = some t → args[j]? = some v → Value.okWide Tryd.prog W .any base t v := hval0
  have hW' := hW
  obtain ⟨p, q, hA0, hV, rfl, hfz, hnd⟩ := hW
  have hA : DataW.TrodAll enc Tryd.prog W 0 (fun _ => true) true Tryd.f5.params.toList args.toList ds p := hA0
  rw [Tryd.params5] at hA hval
  obtain ⟨v0, v1, v2, d0, d1, d2, p0, p1, p2, rfl, rfl, rfl, h0, h1, h2⟩ := trodAll_three hA
  obtain ⟨rfl, rfl⟩ := trodVars_none hV
  obtain ⟨a, b, c, d, e, f, rfl, rfl, rfl, wa, wb, wc, wd, we, wf⟩ := open_six (hval 0 51 v0 rfl rfl) h0
  obtain ⟨A, B, C, D, E, F, rfl, rfl, rfl, wA, wB, wC, wD, wE, wF⟩ := open_six (hval 1 51 v1 rfl rfl) h1
  obtain ⟨u2, u3, u4, y2, y3, y4, m', rfl, rfl, rfl, hy2, hy3, hy4⟩ := open_agg3 Tryd.underlying23 (by kernel_rfl) c23 (hval 2 23 v2 rfl rfl) h2
  obtain ⟨x, e2, rfl, wx⟩ := DataW.trod_int Tryd.underlying3 hy2
  obtain ⟨y, e3, rfl, wy⟩ := DataW.trod_int Tryd.underlying3 hy3
  obtain ⟨k, e4, rfl, wk⟩ := DataW.trod_int Tryd.underlying3 hy4
  simp at e2 e3 e4
  subst e2 e3 e4
  clear hA0 hval0
  simp only [List.append_nil] at hW'
  have r23 : ∀ (W' : World) (sp : Nat → Bool), DataW.Trod enc Tryd.prog W' 0 sp true 23 (.agg #[.int .i64 x, .int .i64 y, .int .i64 k]) (.agg [.lit (.int .i64 x), .lit (.int .i64 y), .lit (.int .i64 k)]) [] := fun W' sp =>
    shut_agg3 (y0 := (.lit (.int .i64 x), [])) (y1 := (.lit (.int .i64 y), [])) (y2 := (.lit (.int .i64 k), [])) Tryd.underlying23 (by kernel_rfl) c23 ⟨1, by simp [DataW.trod, Tryd.underlying3, wx]⟩ ⟨1, by simp [DataW.trod, Tryd.underlying3, wy]⟩ ⟨1, by simp [DataW.trod, Tryd.underlying3, wk]⟩
  refine (gridMaps_any a b c d e f A B C D E F x y k W (steps_of hL)).mono fun r W' ⟨he, hb⟩ => ?_
  subst he
  exact ⟨_, rfl, _, _, _, [], [], [], hW', trodAll_mk1 (shut_bool Tryd.underlying4 _), trodAll_mk3 (shut_six wa wb wc wd we wf) (shut_six wA wB wC wD wE wF) (r23 _ _), rfl, hb.frame _, fun h => by cases h⟩

theorem gridMaps_row : Rows.GridMapsSaid :=
  OpenClaim.holds_of_wide 5 Tryd.f5 rfl rfl rfl rfl rfl rfl rfl ⟨rfl, rfl, rfl, rfl, rfl⟩ rfl rfl rfl rfl rfl (by kernel_rfl) Tryd.func5 (by kernel_rfl)
    (of_decide_eq_true (by kernel_rfl)) (by unfold Func.isWrapper; first | (rw [if_pos (by decide +kernel)]; kernel_rfl) | (rw [if_neg (by decide +kernel)]; exact ⟨rfl, rfl⟩))
    (fun os started H enc _ => gridMaps_lifted os started H enc)

theorem gridMaps_holds : Rows.GridMapsCardSaid :=
  Claim7.holds_tied_plain_at .later [] [.called] true (true, "810f7797aa62436fd0c3de6d11c2ca92d8bdec3865ba6637f5262ec63e0eca1e") false
    gridMaps_row (fun _ h => by cases h) (by kernel_rfl) (fun _ h => by cases h) gridMaps_row_tie rfl ⟨rfl, rfl⟩ (by kernel_rfl) rfl
    (fun f fn hf hfn => by
      obtain rfl : f = 5 := Option.some.inj ((show Tryd.prog.funcNamed "pleat/pleatlaw.GridMaps" = some 5 by kernel_rfl).symm.trans hf) |>.symm
      obtain rfl : fn = Tryd.f5 := (Option.some.inj (Tryd.func5.symm.trans hfn)).symm
      exact ⟨by kernel_rfl, fun j t ht => by
        rw [Tryd.params5] at ht
        have hm : t ∈ [51, 51, 23] := by simpa using Array.mem_of_getElem? ht
        have hall : ([51, 51, 23].all fun u => !Tryd.prog.wantsStandIn u) = true := by kernel_rfl
        exact (show Tryd.prog.wantsStandIn t = false by simpa using List.all_eq_true.1 hall t hm)⟩)
    (by kernel_rfl)
#print axioms gridMaps_holds
end Go.Proofs.YtfpfgfbkbpgolaaDoor
