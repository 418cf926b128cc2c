/- AxiomLines, whole. -/
import Derived.Test.YtohnppjbmpaomaaFars
import Derived.Test.YtohnppjbmpaomaaAcrs
import Derived.Test.YtohnppjbmpaomaaHlvx
import Derived.Test.YtohnppjbmpaomaaLwa
import Derived.Test.YtohnppjbmpaomaaLwb
import Derived.Test.YtohnppjbmpaomaaLwc
import Derived.Test.YtohnppjbmpaomaaLwd
import Derived.Test.YtohnppjbmpaomaaLwe
import Derived.Test.YtohnppjbmpaomaaLwf
import Derived.Test.YtohnppjbmpaomaaLwg
import Derived.Test.YtohnppjbmpaomaaLwh
import Derived.Test.YtohnppjbmpaomaaLwi
import Derived.Test.YtohnppjbmpaomaaLwj
namespace Go.Proofs.Ytohnppjbmpaomaa
open Go.RowKit

theorem fmay_nil (a b c d e f : Int) : fmay [] [⟨a, b, c⟩, ⟨d, e, f⟩] = wrg [⟨a, b, c⟩, ⟨d, e, f⟩] [] := by simp [fmay, wrg]
theorem fmay_pt (x y a b c d e f : Int) : fmay [⟨x, y⟩] [⟨a, b, c⟩, ⟨d, e, f⟩] = wrg [⟨a, b, c⟩, ⟨d, e, f⟩] [x, y] := by simp [fmay, wrg, Pn.far]
theorem sp_nil (w : World) : Sp w (.slice none 0 0) [] := ⟨none, 0, rfl, fun i hi => by simp at hi⟩
theorem far_nil2 (a b c d e f : Int) (g : Nat) (W : World) (h : W.cell? ⟨g, 0, none⟩ = some (.int .i64 a) ∧ W.cell? ⟨g, 1, none⟩ = some (.int .i64 b) ∧ W.cell? ⟨g, 2, none⟩ = some (.int .i64 c) ∧ W.cell? ⟨g, 3, none⟩ = some (.int .i64 d) ∧ W.cell? ⟨g, 4, none⟩ = some (.int .i64 e) ∧ W.cell? ⟨g, 5, none⟩ = some (.int .i64 f)) :
    Calls Try.prog 10 #[.slice none 0 0, .slice (some ⟨g, 0, none⟩) 2 2] W fun z w' => z = .returned (.int .i64 (wrg [⟨a, b, c⟩, ⟨d, e, f⟩] [])) ∧ Below W.heap.size W w' := by
  rw [← fmay_nil]
  exact farMay10 _ _ _ _ W (sp_nil W) (built_sn2 h) (by simp) (by simp)
theorem far_pt2 (x y a b c d e f : Int) (g h : Nat) (W : World) (h1 : W.cell? ⟨g, 0, none⟩ = some (.int .i64 x) ∧ W.cell? ⟨g, 1, none⟩ = some (.int .i64 y)) (h2 : W.cell? ⟨h, 0, none⟩ = some (.int .i64 a) ∧ W.cell? ⟨h, 1, none⟩ = some (.int .i64 b) ∧ W.cell? ⟨h, 2, none⟩ = some (.int .i64 c) ∧ W.cell? ⟨h, 3, none⟩ = some (.int .i64 d) ∧ W.cell? ⟨h, 4, none⟩ = some (.int .i64 e) ∧ W.cell? ⟨h, 5, none⟩ = some (.int .i64 f)) :
    Calls Try.prog 10 #[.slice (some ⟨g, 0, none⟩) 1 1, .slice (some ⟨h, 0, none⟩) 2 2] W fun z w' => z = .returned (.int .i64 (wrg [⟨a, b, c⟩, ⟨d, e, f⟩] [x, y])) ∧ Below W.heap.size W w' := by
  rw [← fmay_pt]
  exact farMay10 _ _ _ _ W (built_sp1 h1) (built_sn2 h2) (by simp) (by simp)
/-- Across: both answer alike. -/
def AlikeX (p l m : Value) : Prop := ((∀ W : World, Calls Try.prog 15 #[p, l, m] W fun z w' => z = .returned (.tuple #[.agg #[.int .i64 0, .int .i64 0, .int .i64 0], .int .i64 9]) ∧ Below W.heap.size W w') ∧ ∀ W : World, Calls Try.prog 17 #[p, l, m] W fun z w' => z = .returned (.tuple #[.agg #[.int .i64 0, .int .i64 0, .int .i64 0], .bool false]) ∧ Below W.heap.size W w') ∨
  ∃ A1 B1 C1, (∀ W : World, Calls Try.prog 15 #[p, l, m] W fun z w' => z = .returned (.tuple #[.agg #[.int .i64 A1, .int .i64 B1, .int .i64 C1], .int .i64 0]) ∧ Below W.heap.size W w') ∧ ∀ W : World, Calls Try.prog 17 #[p, l, m] W fun z w' => z = .returned (.tuple #[.agg #[.int .i64 A1, .int .i64 B1, .int .i64 C1], .bool true]) ∧ Below W.heap.size W w'
theorem sm_zero : sm 0 := by unfold sm; omega
set_option maxHeartbeats 800000 in
theorem across_any (x y a b c d e f : Int) (hk : wrg [⟨a, b, c⟩, ⟨d, e, f⟩] [x, y] = 0) : AlikeX (pt x y) (st a b c) (st d e f) := by
  obtain ⟨⟨ba, bb, bc⟩, ⟨bd', be, bf⟩, hn, hl, hm⟩ := wrg_ok2 hk
  have bx := hn x (by simp)
  have by_ := hn y (by simp)
  obtain ⟨u, A, B, C, hu, ha, hb, hc, e1, n1, n2, n3⟩ := form_parts (c := c) hl
  obtain ⟨v, D, E, F, hv, hd, he, _, e2, n4, n5, _⟩ := form_parts (c := 0) hm
  have bA := bd_abs ba n1
  have bB := bd_abs bb n2
  have bC := bd_abs bc n3
  have bD := bd_abs bd' n4
  have bE := bd_abs be n5
  have hM := part_ne hd he hm
  have CL : ∀ W : World, Calls Try.prog 28 #[.int .i64 a, .int .i64 b, .int .i64 c] W fun z w' => z = .returned (.agg #[.int .i64 A, .int .i64 B, .int .i64 C]) ∧ Below W.heap.size W w' := fun W => by
    have := inForm28 a b c W hl (bd_sm ba) (bd_sm bb) (bd_sm bc)
    rwa [e1] at this
  have CM : ∀ W : World, Calls Try.prog 28 #[.int .i64 d, .int .i64 e, .int .i64 0] W fun z w' => z = .returned (.agg #[.int .i64 D, .int .i64 E, .int .i64 F]) ∧ Below W.heap.size W w' := fun W => by
    have := inForm28 d e 0 W hm (bd_sm bd') (bd_sm be) sm_zero
    rwa [e2] at this
  have huv : u * v ≠ 0 := fun h => by
    rcases Int.mul_eq_zero.1 h with x | x
    · exact hu x
    · exact hv x
  have eT : trd a b d e = u * v * -(A * -E + B * D) := by
    unfold trd
    subst ha hb hd he
    grind
  by_cases hz : A * -E + B * D = 0
  · refine Or.inl ⟨fun W => across15_none x y a b c d e f W hk (by rw [eT, hz]; simp), fun W => ?_⟩
    exact acrossOf17_none x y a b c d e f A B C D E F _ _ _ _ W bx by_ bA bB bC bD bE rfl rfl rfl rfl hz CL CM
  · have hT : trd a b d e ≠ 0 := fun h => by
      rw [eT] at h
      rcases Int.mul_eq_zero.1 h with x | x
      · exact huv x
      · omega
    have ht : u * v * v ≠ 0 := fun h => by
      rcases Int.mul_eq_zero.1 h with x | x
      · exact huv x
      · exact hv x
    have hn2 : ¬ (2 * (A * -E + B * D) * -E = 0 ∧ 2 * (A * -E + B * D) * D = 0) := fun ⟨h1, h2⟩ => hM ⟨by
        rcases Int.mul_eq_zero.1 h2 with x | x
        · omega
        · exact x, by
        rcases Int.mul_eq_zero.1 h1 with x | x
        · omega
        · omega⟩
    have R := fun W => acrossOf17_ok x y a b c d e f A B C D E F _ _ _ _ _ _ _ _ _ _ _ _ _ _ _ _ _ _ _ _ W bx by_ bA bB bC bD bE rfl rfl rfl rfl rfl rfl rfl rfl rfl rfl rfl rfl rfl rfl rfl rfl rfl rfl rfl rfl hz hn2 CL CM
    have K := fun W => across15_ok x y a b c d e f _ _ _ _ _ _ _ _ _ _ _ _ _ W hk rfl rfl rfl rfl rfl rfl rfl rfl rfl rfl rfl rfl rfl hT
    have EQ : frm (2 * trd a b d e * e) (-2 * trd a b d e * d) (2 * trd a b d e * (e * x - d * y) - ofs a b c x y * (d * d + e * e)) = frm (2 * (A * -E + B * D) * -E) (2 * (A * -E + B * D) * D) (-E * (2 * (A * -E + B * D) * x + (C - A * x - B * y) * -E) + D * (2 * (A * -E + B * D) * y + (C - A * x - B * y) * D)) := by
      rw [← frm_scale ht hn2]
      congr 1
      · rw [eT, he]; grind
      · rw [eT, hd]; grind
      · rw [eT]
        unfold ofs
        subst ha hb hc hd he
        grind
    obtain ⟨G1, G2, G3, hG⟩ : ∃ G1 G2 G3, frm (2 * (A * -E + B * D) * -E) (2 * (A * -E + B * D) * D) (-E * (2 * (A * -E + B * D) * x + (C - A * x - B * y) * -E) + D * (2 * (A * -E + B * D) * y + (C - A * x - B * y) * D)) = .agg #[.int .i64 G1, .int .i64 G2, .int .i64 G3] := ⟨_, _, _, rfl⟩
    rw [EQ, hG] at K
    rw [hG] at R
    exact Or.inr ⟨G1, G2, G3, K, R⟩
theorem wrg_less {L : List Ln} {l : List Int} (h : wrg L l = 0) : wrg L [] = 0 := by
  unfold wrg at *
  split at h
  · omega
  · simpa using h
theorem lines_any (a b c d e f x y : Int) (w : World) :
    Calls Try.prog 4 #[st a b c, st d e f, pt x y] w fun z w' => z = .returned (.bool true) ∧ Below w.heap.size w w' := by
  have CF := far_nil2 a b c d e f
  have CG := far_pt2 x y a b c d e f
  by_cases h1 : wrg [⟨a, b, c⟩, ⟨d, e, f⟩] [] = 0
  · rw [h1] at CF
    have HA := halves_any a b c d e f h1
    by_cases h2 : wrg [⟨a, b, c⟩, ⟨d, e, f⟩] [x, y] = 0
    · rw [h2] at CG
      rcases across_any x y a b c d e f h2 with ⟨X1, X2⟩ | ⟨A1, B1, C1, X1, X2⟩
      · rcases HA with ⟨k, hk, Y1, Y2⟩ | ⟨G1, G2, G3, Y1, Y2⟩ | ⟨G1, G2, G3, H1, H2, H3, Y1, Y2⟩
        · exact lines_err_none a b c d e f x y k w Y1 X1 CF Y2 CG X2
        · exact lines_one_none a b c d e f x y G1 G2 G3 w Y1 X1 CF Y2 CG X2
        · exact lines_two_none a b c d e f x y G1 G2 G3 H1 H2 H3 w Y1 X1 CF Y2 CG X2
      · rcases HA with ⟨k, hk, Y1, Y2⟩ | ⟨G1, G2, G3, Y1, Y2⟩ | ⟨G1, G2, G3, H1, H2, H3, Y1, Y2⟩
        · exact lines_err_ok a b c d e f x y k A1 B1 C1 w Y1 X1 CF Y2 CG X2
        · exact lines_one_ok a b c d e f x y G1 G2 G3 A1 B1 C1 w Y1 X1 CF Y2 CG X2
        · exact lines_two_ok a b c d e f x y G1 G2 G3 H1 H2 H3 A1 B1 C1 w Y1 X1 CF Y2 CG X2
    · have X1 := fun W => across15_no x y a b c d e f _ W rfl h2
      rcases HA with ⟨k, hk, Y1, Y2⟩ | ⟨G1, G2, G3, Y1, Y2⟩ | ⟨G1, G2, G3, H1, H2, H3, Y1, Y2⟩
      · exact lines_err_no a b c d e f x y k _ w Y1 X1 CF Y2 CG h2
      · exact lines_one_no a b c d e f x y G1 G2 G3 _ w Y1 X1 CF Y2 CG h2
      · exact lines_two_no a b c d e f x y G1 G2 G3 H1 H2 H3 _ w Y1 X1 CF Y2 CG h2
  · have h2 : wrg [⟨a, b, c⟩, ⟨d, e, f⟩] [x, y] ≠ 0 := fun h => h1 (wrg_less h)
    exact lines_no_no a b c d e f x y _ _ w (fun W => halves14_no a b c d e f _ W rfl h1) (fun W => across15_no x y a b c d e f _ W rfl h2) CF CG h1 h2
end Go.Proofs.Ytohnppjbmpaomaa
