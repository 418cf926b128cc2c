/- An edge, by value, opened and shut: four numbers. -/
import Derived.Test.YtfpfgfbkbpgolaaDoorLaid
namespace Go.Proofs.YtfpfgfbkbpgolaaDoor
open Go.ChangeShapes Go.WideShapes Go.ChangeAt Go.WideMaps Go.WideElems Go.RowKit Go.Joins

theorem c27 : Tryd.prog.cellsOf 27 = 4 := by kernel_rfl
theorem array4 {α : Type} {cs : Array α} (h : cs.size = 4) : ∃ c0 c1 c2 c3, cs = #[c0, c1, c2, c3] := by
  obtain ⟨l⟩ := cs
  match l, h with
  | [c0, c1, c2, c3], _ => exact ⟨c0, c1, c2, c3, rfl⟩

theorem open_point {H : Type} {enc : TypeId × Value → H} {W : World} {base n : Nat} {sp : Nat → Bool} {hd : Bool} {u0 u1 : Value} {y : DataW H × List MemPlace}
    (h : DataW.trod enc Tryd.prog W base sp hd n 25 [u0, u1] = some y) :
    ∃ a b : Int, u0 = .int .i64 a ∧ u1 = .int .i64 b ∧ y = (.agg [.lit (.int .i64 a), .lit (.int .i64 b)], []) ∧ (Lit.int .i64 a).wf = true ∧ (Lit.int .i64 b).wf = true := by
  obtain ⟨xs, n, _, hx, _, hlen, hfl⟩ := DataW.trod_struct Tryd.underlying25 h
  match xs, hlen with
  | [y0, y1], _ =>
    have k0 := hfl 0 _ rfl
    have k1 := hfl 1 _ rfl
    simp [c3] at k0 k1
    obtain ⟨a, e0, rfl, wa⟩ := DataW.trod_int Tryd.underlying3 k0
    obtain ⟨b, e1, rfl, wb⟩ := DataW.trod_int Tryd.underlying3 k1
    simp at e0 e1
    subst e0 e1
    simp at hx
    exact ⟨a, b, rfl, rfl, hx, wa, wb⟩

theorem open_edge {H : Type} {enc : TypeId × Value → H} {W : World} {base b0 : Nat} {r : Reach} {sp : Nat → Bool} {hd : Bool} {v : Value} {dd : DataW H} {p : List MemPlace}
    (hv : Value.okWide Tryd.prog W r b0 27 v) (h : DataW.Trod enc Tryd.prog W base sp hd 27 v dd p) :
    ∃ a b c d : Int, v = .agg #[.int .i64 a, .int .i64 b, .int .i64 c, .int .i64 d] ∧ dd = .agg [.agg [.lit (.int .i64 a), .lit (.int .i64 b)], .agg [.lit (.int .i64 c), .lit (.int .i64 d)]] ∧ p = []
      ∧ (Lit.int .i64 a).wf = true ∧ (Lit.int .i64 b).wf = true ∧ (Lit.int .i64 c).wf = true ∧ (Lit.int .i64 d).wf = true := by
  obtain ⟨cs, rfl, hsz⟩ := okWide_struct Tryd.underlying27 hv
  obtain ⟨v0, v1, v2, v3, rfl⟩ := array4 (hsz.trans c27)
  obtain ⟨fuel, hf⟩ := h
  obtain ⟨xs, n, _, hx, _, hlen, hfl⟩ := DataW.trod_struct Tryd.underlying27 hf
  match xs, hlen with
  | [y0, y1], _ =>
    have k0 := hfl 0 _ rfl
    have k1 := hfl 1 _ rfl
    simp [c25, Value.cells] at k0 k1
    obtain ⟨a, b, rfl, rfl, rfl, wa, wb⟩ := open_point k0
    obtain ⟨c, d, rfl, rfl, rfl, wc, wd⟩ := open_point k1
    simp at hx
    exact ⟨a, b, c, d, rfl, hx.1, hx.2, wa, wb, wc, wd⟩

theorem shut_edge {H : Type} {enc : TypeId × Value → H} {W : World} {base : Nat} {sp : Nat → Bool} {hd : Bool} {a b c d : Int}
    (wa : (Lit.int .i64 a).wf = true) (wb : (Lit.int .i64 b).wf = true) (wc : (Lit.int .i64 c).wf = true) (wd : (Lit.int .i64 d).wf = true) :
    DataW.Trod enc Tryd.prog W base sp hd 27 (.agg #[.int .i64 a, .int .i64 b, .int .i64 c, .int .i64 d]) (.agg [.agg [.lit (.int .i64 a), .lit (.int .i64 b)], .agg [.lit (.int .i64 c), .lit (.int .i64 d)]]) [] := by
  have hp : ∀ {e f : Int}, (Lit.int .i64 e).wf = true → (Lit.int .i64 f).wf = true → DataW.trod enc Tryd.prog W base sp hd 2 25 [.int .i64 e, .int .i64 f] = some (.agg [.lit (.int .i64 e), .lit (.int .i64 f)], []) := fun {e f} we wf => by
    have := trod_struct_mk (enc := enc) (P := Tryd.prog) (w := W) (base := base) (spare := sp) (held := hd) (n := 1) (cs := [.int .i64 e, .int .i64 f]) (xs := [(.lit (.int .i64 e), []), (.lit (.int .i64 f), [])]) Tryd.underlying25 (by simp [c25]) (by simp [c3, DataW.trod, Tryd.underlying3, we, wf])
    simpa [Value.cells] using this
  refine ⟨3, ?_⟩
  have := trod_struct_mk (enc := enc) (P := Tryd.prog) (w := W) (base := base) (spare := sp) (held := hd) (n := 2) (cs := [.int .i64 a, .int .i64 b, .int .i64 c, .int .i64 d]) (xs := [(.agg [.lit (.int .i64 a), .lit (.int .i64 b)], []), (.agg [.lit (.int .i64 c), .lit (.int .i64 d)], [])]) Tryd.underlying27 (by simp [c27]) (by simp [c25, hp wa wb, hp wc wd])
  simpa [Value.cells] using this

end Go.Proofs.YtfpfgfbkbpgolaaDoor
