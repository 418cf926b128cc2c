/- A part of the proof of a law on sheets. -/
import Derived.Test.YtmjneoaciopioaaDoorQmab
import Derived.Deep.DeepCutAuto
namespace Go.Proofs.YtmjneoaciopioaaDoor
open Go.RowKit
attribute [local go_sem ↓] Go.wp_at_zero Go.wp_at_succ

def outX (k : Int) : Int := if k = 1 then 1 else if k = 3 then -1 else 0
def outY (k : Int) : Int := if k = 0 then -1 else if k = 2 then 1 else 0

theorem outX_bd (k : Int) : -1 ≤ outX k ∧ outX k ≤ 1 := by unfold outX; split <;> (try split) <;> omega
theorem outY_bd (k : Int) : -1 ≤ outY k ∧ outY k ≤ 1 := by unfold outY; split <;> (try split) <;> omega

attribute [local go_sem ↓] Go.wp_at_zero Go.wp_at_succ

def Ef (e f : Int) : Prop := (-1000000 ≤ e ∧ e ≤ 1000000) ∧ (-1000000 ≤ f ∧ f ≤ 1000000)

set_option maxHeartbeats 400000 in
theorem after_any (a b c d e f A B C D E F : Int) (w : World) (hs : Sm a b c d) (hS : Sm A B C D) (he : Ef e f) (hE : Ef E F) :
    Calls Tryd.prog 118 #[.agg #[.int .i64 a, .int .i64 b, .int .i64 c, .int .i64 d, .int .i64 e, .int .i64 f], .agg #[.int .i64 A, .int .i64 B, .int .i64 C, .int .i64 D, .int .i64 E, .int .i64 F]] w fun r w' =>
      r = .returned (.agg #[.int .i64 (dot A B a c), .int .i64 (dot A B b d), .int .i64 (dot C D a c), .int .i64 (dot C D b d), .int .i64 (dot A B e f + E), .int .i64 (dot C D e f + F)]) ∧ Below w.heap.size w w' := by
  obtain ⟨⟨a1, a2⟩, ⟨b1, b2⟩, ⟨c1, c2⟩, ⟨d1, d2⟩⟩ := hs
  obtain ⟨⟨e1, e2⟩, ⟨f1, f2⟩⟩ := he
  have HS : Hid (Sm A B C D) := hS
  have HE : Hid (Ef E F) := hE
  clear hS hE
  go_enter Tryd.func118, Tryd.ntmps118
  go_wp2_with (first | (go_at_call 131; refine (turn_any _ _ _ _ _ _ _ _ _ HS.out (by omega) (by omega) (by omega) (by omega)).mono ?_; rintro e w2 ⟨rfl, o1, o2, o3, rfl⟩) | (go_at_call 132; refine (image_any _ _ _ _ _ _ _ _ _ HS.out HE.out.1 HE.out.2 (by omega) (by omega) (by omega) (by omega)).mono ?_; rintro e w2 ⟨rfl, o4, o5, o6, o7, o8, o9, o10, o11, o12, rfl⟩))
  refine bodyPost_ret (v := .agg #[.int .i64 (dot A B a c), .int .i64 (dot A B b d), .int .i64 (dot C D a c), .int .i64 (dot C D b d), .int .i64 (dot A B e f + E), .int .i64 (dot C D e f + F)]) (by simp [results, Tryd.results118, go_sem, World.cell?_alloc_past]) rfl ⟨rfl, ?_⟩
  with_reducible repeat (first | refine bl_alloc ?_ | refine bl_drew ?_ | exact bl_refl _)

theorem dot_one (A B a b c d e f x y E : Int) (hx : x = 1) (hy : y = 0) : dot A B (dot a b x y + e) (dot c d x y + f) + E - (dot A B (dot a b 0 0 + e) (dot c d 0 0 + f) + E) = dot A B a c := by
  subst hx hy; simp [dot, Int.mul_add]; omega
theorem dot_two (A B a b c d e f x y E : Int) (hx : x = 0) (hy : y = 1) : dot A B (dot a b x y + e) (dot c d x y + f) + E - (dot A B (dot a b 0 0 + e) (dot c d 0 0 + f) + E) = dot A B b d := by
  subst hx hy; simp [dot, Int.mul_add]; omega
theorem dot_nought (A B a b c d e f E : Int) : dot A B (dot a b 0 0 + e) (dot c d 0 0 + f) + E = dot A B e f + E := by simp [dot]

theorem ret6 {a b c d e f a' b' c' d' e' f' : Int} (h1 : a = a') (h2 : b = b') (h3 : c = c') (h4 : d = d') (h5 : e = e') (h6 : f = f') :
    Ending.returned (.agg #[.int .i64 a, .int .i64 b, .int .i64 c, .int .i64 d, .int .i64 e, .int .i64 f]) = .returned (.agg #[.int .i64 a', .int .i64 b', .int .i64 c', .int .i64 d', .int .i64 e', .int .i64 f']) := by subst h1 h2 h3 h4 h5 h6; rfl

end Go.Proofs.YtmjneoaciopioaaDoor
