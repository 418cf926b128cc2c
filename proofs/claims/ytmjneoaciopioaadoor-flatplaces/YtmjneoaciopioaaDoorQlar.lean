/- A part of the proof of flatPlaces_holds. -/
import Derived.Test.YtmjneoaciopioaaDoorQlaj
namespace Go.Proofs.YtmjneoaciopioaaDoor
open Go.RowKit
attribute [local go_sem ↓] Go.wp_at_zero Go.wp_at_succ

def Ef (e f : Int) : Prop := (-1000000 ≤ e ∧ e ≤ 1000000) ∧ (-1000000 ≤ f ∧ f ≤ 1000000)

set_option maxHeartbeats 400000 in
theorem after_any (a b c d e f A B C D E F : Int) (w : World) (hs : Sm a b c d) (hS : Sm A B C D) (he : Ef e f) (hE : Ef E F) :
    Calls Tryd.prog 118 #[.agg #[.int .i64 a, .int .i64 b, .int .i64 c, .int .i64 d, .int .i64 e, .int .i64 f], .agg #[.int .i64 A, .int .i64 B, .int .i64 C, .int .i64 D, .int .i64 E, .int .i64 F]] w fun r w' =>
      r = .returned (.agg #[.int .i64 (dot A B a c), .int .i64 (dot A B b d), .int .i64 (dot C D a c), .int .i64 (dot C D b d), .int .i64 (dot A B e f + E), .int .i64 (dot C D e f + F)]) ∧ Below w.heap.size w w' := by
  obtain ⟨⟨a1, a2⟩, ⟨b1, b2⟩, ⟨c1, c2⟩, ⟨d1, d2⟩⟩ := hs
  obtain ⟨⟨e1, e2⟩, ⟨f1, f2⟩⟩ := he
  have HS : Hid (Sm A B C D) := hS
  have HE : Hid (Ef E F) := hE
  clear hS hE
  go_enter Tryd.func118, Tryd.ntmps118
  go_wp2_with (first | (go_at_call 131; refine (turn_any _ _ _ _ _ _ _ _ _ HS.out (by omega) (by omega) (by omega) (by omega)).mono ?_; rintro e w2 ⟨rfl, o1, o2, o3, rfl⟩) | (go_at_call 132; refine (image_any _ _ _ _ _ _ _ _ _ HS.out HE.out.1 HE.out.2 (by omega) (by omega) (by omega) (by omega)).mono ?_; rintro e w2 ⟨rfl, o4, o5, o6, o7, o8, o9, o10, o11, o12, rfl⟩))
  refine bodyPost_ret (v := .agg #[.int .i64 (dot A B a c), .int .i64 (dot A B b d), .int .i64 (dot C D a c), .int .i64 (dot C D b d), .int .i64 (dot A B e f + E), .int .i64 (dot C D e f + F)]) (by simp [results, Tryd.results118, go_sem, World.cell?_alloc_past]) rfl ⟨rfl, ?_⟩
  with_reducible repeat (first | refine bl_alloc ?_ | refine bl_drew ?_ | exact bl_refl _)

theorem dot_one (A B a b c d e f x y E : Int) (hx : x = 1) (hy : y = 0) : dot A B (dot a b x y + e) (dot c d x y + f) + E - (dot A B (dot a b 0 0 + e) (dot c d 0 0 + f) + E) = dot A B a c := by
  subst hx hy; simp [dot, Int.mul_add]; omega
theorem dot_two (A B a b c d e f x y E : Int) (hx : x = 0) (hy : y = 1) : dot A B (dot a b x y + e) (dot c d x y + f) + E - (dot A B (dot a b 0 0 + e) (dot c d 0 0 + f) + E) = dot A B b d := by
  subst hx hy; simp [dot, Int.mul_add]; omega
theorem dot_nought (A B a b c d e f E : Int) : dot A B (dot a b 0 0 + e) (dot c d 0 0 + f) + E = dot A B e f + E := by simp [dot]

theorem ret6 {a b c d e f a' b' c' d' e' f' : Int} (h1 : a = a') (h2 : b = b') (h3 : c = c') (h4 : d = d') (h5 : e = e') (h6 : f = f') :
    Ending.returned (.agg #[.int .i64 a, .int .i64 b, .int .i64 c, .int .i64 d, .int .i64 e, .int .i64 f]) = .returned (.agg #[.int .i64 a', .int .i64 b', .int .i64 c', .int .i64 d', .int .i64 e', .int .i64 f']) := by subst h1 h2 h3 h4 h5 h6; rfl

attribute [local go_sem ↓] Go.wp_at_zero Go.wp_at_succ

attribute [local go_sem ↓] Go.wp_at_zero Go.wp_at_succ

theorem half (X : Int) : (2 * X).tdiv 2 = X := by rw [Int.mul_comm]; exact Int.mul_tdiv_cancel _ (by decide)

theorem fz_kept {w wx : World} {a : Addr} {v : Value} {b : Bool} (hb : Below w.heap.size w wx) (hc : w.cell? a = some v) (h : w.frozen? a = b) : wx.frozen? a = b := (hb.frozen (World.block_lt_of_cell? _ _ hc)).trans h

theorem st_old {w : World} {p a : Addr} {u v : Value} (h : w.cell? a = some v) (hne : a.block ≠ p.block) : (w.setCell p u).cell? a = some v := by
  have := World.cell?_of_block (w := w) (w' := w.setCell p u) (a := a) (Below.heap_setCell w p u a.block hne)
  exact this.trans h
theorem st_old3 {w : World} {p q r a : Addr} {u1 u2 u3 v : Value} (h : w.cell? a = some v) (hne : a.block ≠ p.block ∧ a.block ≠ q.block ∧ a.block ≠ r.block) : (((w.setCell p u1).setCell q u2).setCell r u3).cell? a = some v :=
  st_old (st_old (st_old h hne.1) hne.2.1) hne.2.2
theorem Steps.set3 {w : World} {p q r : Addr} {u1 u2 u3 : Value} (h : Steps w) (hne : 0 ≠ p.block ∧ 0 ≠ q.block ∧ 0 ≠ r.block) : Steps (((w.setCell p u1).setCell q u2).setCell r u3) := by
  obtain ⟨s0, s1, s2, s3, s4, s5, s6, s7⟩ := h
  exact ⟨st_old3 s0 hne, st_old3 s1 hne, st_old3 s2 hne, st_old3 s3 hne, st_old3 s4 hne, st_old3 s5 hne, st_old3 s6 hne, st_old3 s7 hne⟩
theorem dr_fz {w : World} {a : Addr} {b : Bool} (h : w.frozen? a = b) : w.drew.frozen? a = b := h
theorem wrap_of {n : Int} (h1 : -9000000000000000000 ≤ n) (h2 : n ≤ 9000000000000000000) : IntKind.i64.wrap n = n := by rw [IntKind.wrap_i64]; omega

theorem turn_to (a b c d e f x y p q : Int) (w : World) (hs : Sm a b c d) (h1 : -4000000 ≤ x) (h2 : x ≤ 4000000) (h3 : -4000000 ≤ y) (h4 : y ≤ 4000000) (hp : dot a b x y = p) (hq : dot c d x y = q) :
    Calls Tryd.prog 131 #[.agg #[.int .i64 a, .int .i64 b, .int .i64 c, .int .i64 d, .int .i64 e, .int .i64 f], .agg #[.int .i64 x, .int .i64 y]] w fun r w' => r = .returned (.agg #[.int .i64 p, .int .i64 q]) ∧ Below w.heap.size w w' := by
  subst hp hq
  refine (turn_any a b c d e f x y w hs h1 h2 h3 h4).mono ?_
  rintro r w' ⟨rfl, o1, o2, o3, rfl⟩
  exact ⟨rfl, bl_alloc (bl_alloc (bl_alloc (bl_refl _)))⟩

end Go.Proofs.YtmjneoaciopioaaDoor
