/- A point, a straight that came in, opened. -/
import Derived.Test.YtohnppjbmpaomaaRows
import Derived.Test.YtohnppjbmpaomaaBase
import Derived.ProofKit
import Derived.OpenShut
import Derived.SizedLaws
import Derived.HandedShaped
import Derived.Lib.SmallJoins
namespace Go.Proofs.Ytohnppjbmpaomaa
open Go.ChangeShapes Go.WideShapes Go.ChangeAt Go.RowKit Go.Joins

theorem own : ownKnob Try.prog.godebug = none := by kernel_rfl
theorem laidOut : laidOutB Try.prog = true := by kernel_rfl
theorem c3 : Try.prog.cellsOf 3 = 1 := by kernel_rfl
theorem c23 : Try.prog.cellsOf 23 = 2 := by kernel_rfl
theorem c25 : Try.prog.cellsOf 25 = 3 := by kernel_rfl
def lit (H : Type) (n : Int) : DataW H := .lit (.int .i64 n)
theorem point_of {H : Type} {enc : TypeId × Value → H} {W : World} {base : Nat} {v : Value} {d : DataW H} {p : List MemPlace} (hv : Value.okWide Try.prog W .any base 23 v)
    (h : DataW.Trod enc Try.prog W 0 (fun _ => true) true 23 v d p) :
    ∃ x y : Int, v = .agg #[.int .i64 x, .int .i64 y] ∧ p = [] ∧ ∀ (W' : World) (sp : Nat → Bool), DataW.Trod enc Try.prog W' 0 sp true 23 v d [] := by
  obtain ⟨w0, w1, y2, y3, m', rfl, rfl, rfl, hy2, hy3⟩ := open_agg2 Try.underlying23 (by kernel_rfl) c23 hv h
  obtain ⟨x, e2, rfl, wx⟩ := DataW.trod_int Try.underlying3 hy2
  obtain ⟨y, e3, rfl, wy⟩ := DataW.trod_int Try.underlying3 hy3
  simp at e2 e3
  subst e2 e3
  refine ⟨x, y, rfl, by simp, fun W' sp => ?_⟩
  exact shut_agg2 (y0 := (.lit (.int .i64 x), [])) (y1 := (.lit (.int .i64 y), [])) Try.underlying23 (by kernel_rfl) c23 ⟨1, by simp [DataW.trod, Try.underlying3, wx]⟩ ⟨1, by simp [DataW.trod, Try.underlying3, wy]⟩
theorem straight_of {H : Type} {enc : TypeId × Value → H} {W : World} {base : Nat} {v : Value} {d : DataW H} {p : List MemPlace} (hv : Value.okWide Try.prog W .any base 25 v)
    (h : DataW.Trod enc Try.prog W 0 (fun _ => true) true 25 v d p) :
    ∃ x y z : Int, v = .agg #[.int .i64 x, .int .i64 y, .int .i64 z] ∧ p = [] ∧ ∀ (W' : World) (sp : Nat → Bool), DataW.Trod enc Try.prog W' 0 sp true 25 v d [] := by
  obtain ⟨w0, w1, w2, y2, y3, y4, m', rfl, rfl, rfl, hy2, hy3, hy4⟩ := open_agg3 Try.underlying25 (by kernel_rfl) c25 hv h
  obtain ⟨x, e2, rfl, wx⟩ := DataW.trod_int Try.underlying3 hy2
  obtain ⟨y, e3, rfl, wy⟩ := DataW.trod_int Try.underlying3 hy3
  obtain ⟨z, e4, rfl, wz⟩ := DataW.trod_int Try.underlying3 hy4
  simp at e2 e3 e4
  subst e2 e3 e4
  refine ⟨x, y, z, rfl, by simp, fun W' sp => ?_⟩
  exact shut_agg3 (y0 := (.lit (.int .i64 x), [])) (y1 := (.lit (.int .i64 y), [])) (y2 := (.lit (.int .i64 z), [])) Try.underlying25 (by kernel_rfl) c25 ⟨1, by simp [DataW.trod, Try.underlying3, wx]⟩ ⟨1, by simp [DataW.trod, Try.underlying3, wy]⟩ ⟨1, by simp [DataW.trod, Try.underlying3, wz]⟩
end Go.Proofs.Ytohnppjbmpaomaa
