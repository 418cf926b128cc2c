/- A map, by value, opened and shut: six numbers. -/
import Derived.Test.YtfpfgfbkbpgolaaDoorLaid
namespace Go.Proofs.YtfpfgfbkbpgolaaDoor
open Go.ChangeShapes Go.WideShapes Go.ChangeAt Go.WideMaps Go.WideElems Go.RowKit Go.Joins

theorem c51 : Tryd.prog.cellsOf 51 = 6 := by kernel_rfl
theorem array6 {α : Type} {cs : Array α} (h : cs.size = 6) : ∃ c0 c1 c2 c3 c4 c5, cs = #[c0, c1, c2, c3, c4, c5] := by
  obtain ⟨l⟩ := cs
  match l, h with
  | [c0, c1, c2, c3, c4, c5], _ => exact ⟨c0, c1, c2, c3, c4, c5, rfl⟩

theorem open_six {H : Type} {enc : TypeId × Value → H} {W : World} {base b0 : Nat} {r : Reach} {sp : Nat → Bool} {hd : Bool} {v : Value} {dd : DataW H} {p : List MemPlace}
    (hv : Value.okWide Tryd.prog W r b0 51 v) (h : DataW.Trod enc Tryd.prog W base sp hd 51 v dd p) :
    ∃ a b c d e f : Int, v = .agg #[.int .i64 a, .int .i64 b, .int .i64 c, .int .i64 d, .int .i64 e, .int .i64 f] ∧ dd = .agg [.lit (.int .i64 a), .lit (.int .i64 b), .lit (.int .i64 c), .lit (.int .i64 d), .lit (.int .i64 e), .lit (.int .i64 f)] ∧ p = []
      ∧ (Lit.int .i64 a).wf = true ∧ (Lit.int .i64 b).wf = true ∧ (Lit.int .i64 c).wf = true ∧ (Lit.int .i64 d).wf = true ∧ (Lit.int .i64 e).wf = true ∧ (Lit.int .i64 f).wf = true := by
  obtain ⟨cs, rfl, hsz⟩ := okWide_struct Tryd.underlying51 hv
  obtain ⟨u0, u1, u2, u3, u4, u5, rfl⟩ := array6 (hsz.trans c51)
  obtain ⟨fuel, hf⟩ := h
  obtain ⟨xs, n, _, hx, _, hlen, hfl⟩ := DataW.trod_struct Tryd.underlying51 hf
  match xs, hlen with
  | [y0, y1, y2, y3, y4, y5], _ =>
    have k0 := hfl 0 _ rfl
    have k1 := hfl 1 _ rfl
    have k2 := hfl 2 _ rfl
    have k3 := hfl 3 _ rfl
    have k4 := hfl 4 _ rfl
    have k5 := hfl 5 _ rfl
    simp [c3, Value.cells] at k0 k1 k2 k3 k4 k5
    obtain ⟨a, e0, rfl, wa⟩ := DataW.trod_int Tryd.underlying3 k0
    obtain ⟨b, e1, rfl, wb⟩ := DataW.trod_int Tryd.underlying3 k1
    obtain ⟨c, e2, rfl, wc⟩ := DataW.trod_int Tryd.underlying3 k2
    obtain ⟨d, e3, rfl, wd⟩ := DataW.trod_int Tryd.underlying3 k3
    obtain ⟨e, e4, rfl, we⟩ := DataW.trod_int Tryd.underlying3 k4
    obtain ⟨f, e5, rfl, wf⟩ := DataW.trod_int Tryd.underlying3 k5
    simp at e0 e1 e2 e3 e4 e5
    subst e0 e1 e2 e3 e4 e5
    simp at hx
    exact ⟨a, b, c, d, e, f, rfl, hx.1, hx.2, wa, wb, wc, wd, we, wf⟩

theorem shut_six {H : Type} {enc : TypeId × Value → H} {W : World} {base : Nat} {sp : Nat → Bool} {hd : Bool} {a b c d e f : Int}
    (wa : (Lit.int .i64 a).wf = true) (wb : (Lit.int .i64 b).wf = true) (wc : (Lit.int .i64 c).wf = true) (wd : (Lit.int .i64 d).wf = true) (we : (Lit.int .i64 e).wf = true) (wf : (Lit.int .i64 f).wf = true) :
    DataW.Trod enc Tryd.prog W base sp hd 51 (.agg #[.int .i64 a, .int .i64 b, .int .i64 c, .int .i64 d, .int .i64 e, .int .i64 f]) (.agg [.lit (.int .i64 a), .lit (.int .i64 b), .lit (.int .i64 c), .lit (.int .i64 d), .lit (.int .i64 e), .lit (.int .i64 f)]) [] := by
  refine ⟨2, ?_⟩
  have := trod_struct_mk (enc := enc) (P := Tryd.prog) (w := W) (base := base) (spare := sp) (held := hd) (n := 1) (cs := [.int .i64 a, .int .i64 b, .int .i64 c, .int .i64 d, .int .i64 e, .int .i64 f]) (xs := [(.lit (.int .i64 a), []), (.lit (.int .i64 b), []), (.lit (.int .i64 c), []), (.lit (.int .i64 d), []), (.lit (.int .i64 e), []), (.lit (.int .i64 f), [])]) Tryd.underlying51 (by simp [c51]) (by simp [c3, DataW.trod, Tryd.underlying3, wa, wb, wc, wd, we, wf])
  simpa [Value.cells] using this

end Go.Proofs.YtfpfgfbkbpgolaaDoor
