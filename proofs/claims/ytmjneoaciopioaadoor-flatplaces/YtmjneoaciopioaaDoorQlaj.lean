/- A part of the proof of flatPlaces_holds. -/
import Derived.Test.YtmjneoaciopioaaDoorQlab
import Derived.Test.YtmjneoaciopioaaDoorQlac
import Derived.Deep.DeepCutAuto
namespace Go.Proofs.YtmjneoaciopioaaDoor
open Go.RowKit
attribute [local go_sem ↓] Go.wp_at_zero Go.wp_at_succ

/-- A row of a map at a point. -/
def dot (p q x y : Int) : Int := p * x + q * y

theorem mul_bd {u x M : Int} (h1 : -1 ≤ u) (h2 : u ≤ 1) (h3 : -M ≤ x) (h4 : x ≤ M) : -M ≤ u * x ∧ u * x ≤ M := by
  have hu : u = -1 ∨ u = 0 ∨ u = 1 := by omega
  rcases hu with rfl | rfl | rfl <;> omega

theorem dot_bd {p q x y M : Int} (h1 : -1 ≤ p) (h2 : p ≤ 1) (h3 : -1 ≤ q) (h4 : q ≤ 1) (h5 : -M ≤ x) (h6 : x ≤ M) (h7 : -M ≤ y) (h8 : y ≤ M) : -(2 * M) ≤ dot p q x y ∧ dot p q x y ≤ 2 * M := by
  have a := mul_bd h1 h2 h5 h6
  have b := mul_bd h3 h4 h7 h8
  unfold dot; omega

/-- The four numbers that turn are small. -/
def Sm (a b c d : Int) : Prop := (-1 ≤ a ∧ a ≤ 1) ∧ (-1 ≤ b ∧ b ≤ 1) ∧ (-1 ≤ c ∧ c ≤ 1) ∧ (-1 ≤ d ∧ d ≤ 1)

theorem turn_any (a b c d e f x y : Int) (w : World) (hs : Sm a b c d) (h1 : -4000000 ≤ x) (h2 : x ≤ 4000000) (h3 : -4000000 ≤ y) (h4 : y ≤ 4000000) :
    Calls Tryd.prog 131 #[.agg #[.int .i64 a, .int .i64 b, .int .i64 c, .int .i64 d, .int .i64 e, .int .i64 f], .agg #[.int .i64 x, .int .i64 y]] w fun r w' => r = .returned (.agg #[.int .i64 (dot a b x y), .int .i64 (dot c d x y)]) ∧ ∃ o1 o2 o3, w' = ((w.alloc o1).alloc o2).alloc o3 := by
  obtain ⟨⟨a1, a2⟩, ⟨b1, b2⟩, ⟨c1, c2⟩, ⟨d1, d2⟩⟩ := hs
  obtain ⟨p1, p2⟩ := mul_bd a1 a2 h1 h2
  obtain ⟨p3, p4⟩ := mul_bd b1 b2 h3 h4
  obtain ⟨p5, p6⟩ := mul_bd c1 c2 h1 h2
  obtain ⟨p7, p8⟩ := mul_bd d1 d2 h3 h4
  go_enter Tryd.func131, Tryd.ntmps131
  go_wp2
  exact bodyPost_ret (v := .agg #[.int .i64 (dot a b x y), .int .i64 (dot c d x y)]) (by simp [results, Tryd.results131, go_sem, dot]) rfl ⟨rfl, _, _, _, rfl⟩

theorem pointOf_any (a b c d e f x y : Int) (w : World) (hs : Sm a b c d) (he : -1000000 ≤ e ∧ e ≤ 1000000) (hf : -1000000 ≤ f ∧ f ≤ 1000000) (h1 : -4000000 ≤ x) (h2 : x ≤ 4000000) (h3 : -4000000 ≤ y) (h4 : y ≤ 4000000) :
    Calls Tryd.prog 71 #[.agg #[.int .i64 a, .int .i64 b, .int .i64 c, .int .i64 d, .int .i64 e, .int .i64 f], .agg #[.int .i64 x, .int .i64 y]] w fun r w' => r = .returned (.agg #[.int .i64 (dot a b x y + e), .int .i64 (dot c d x y + f)]) ∧ ∃ o1 o2 o3, w' = ((w.alloc o1).alloc o2).alloc o3 := by
  obtain ⟨⟨a1, a2⟩, ⟨b1, b2⟩, ⟨c1, c2⟩, ⟨d1, d2⟩⟩ := hs
  obtain ⟨p1, p2⟩ := mul_bd a1 a2 h1 h2
  obtain ⟨p3, p4⟩ := mul_bd b1 b2 h3 h4
  obtain ⟨p5, p6⟩ := mul_bd c1 c2 h1 h2
  obtain ⟨p7, p8⟩ := mul_bd d1 d2 h3 h4
  obtain ⟨e1, e2⟩ := he
  obtain ⟨f1, f2⟩ := hf
  go_enter Tryd.func71, Tryd.ntmps71
  go_wp2
  exact bodyPost_ret (v := .agg #[.int .i64 (dot a b x y + e), .int .i64 (dot c d x y + f)]) (by simp [results, Tryd.results71, go_sem, dot]) rfl ⟨rfl, _, _, _, rfl⟩

set_option maxHeartbeats 1600000 in
theorem image_any (a b c d e f x y : Int) (w : World) (hs : Sm a b c d) (he : -1000000 ≤ e ∧ e ≤ 1000000) (hf : -1000000 ≤ f ∧ f ≤ 1000000) (h1 : -4000000 ≤ x) (h2 : x ≤ 4000000) (h3 : -4000000 ≤ y) (h4 : y ≤ 4000000) :
    Calls Tryd.prog 132 #[.agg #[.int .i64 a, .int .i64 b, .int .i64 c, .int .i64 d, .int .i64 e, .int .i64 f], .agg #[.int .i64 x, .int .i64 y]] w fun r w' => r = .returned (.agg #[.int .i64 (dot a b x y + e), .int .i64 (dot c d x y + f)]) ∧ ∃ o1 o2 o3 o4 o5 o6 o7 o8 o9, w' = (((((((((w.alloc o1).alloc o2).alloc o3).alloc o4).alloc o5).alloc o6).alloc o7).alloc o8).alloc o9).drew := by
  have hd1 := dot_bd hs.1.1 hs.1.2 hs.2.1.1 hs.2.1.2 h1 h2 h3 h4
  have hd2 := dot_bd hs.2.2.1.1 hs.2.2.1.2 hs.2.2.2.1 hs.2.2.2.2 h1 h2 h3 h4
  have HS : Hid (Sm a b c d) := hs
  clear hs
  go_enter Tryd.func132, Tryd.ntmps132
  go_wp2
  go_region_held3 (fun w' => (w'.cell? ⟨w.heap.size, 0, none⟩ = some (.int .i64 a) ∧ w'.cell? ⟨w.heap.size, 1, none⟩ = some (.int .i64 b) ∧ w'.cell? ⟨w.heap.size, 2, none⟩ = some (.int .i64 c) ∧ w'.cell? ⟨w.heap.size, 3, none⟩ = some (.int .i64 d) ∧ w'.cell? ⟨w.heap.size, 4, none⟩ = some (.int .i64 e) ∧ w'.cell? ⟨w.heap.size, 5, none⟩ = some (.int .i64 f))
      ∧ w'.cell? ⟨w.heap.size + 1, 0, none⟩ = some (.int .i64 x) ∧ w'.cell? ⟨w.heap.size + 1, 1, none⟩ = some (.int .i64 y))
    (simp [go_sem, World.cell?_alloc_past])
    (first | (go_at_call 131; refine (turn_any _ _ _ _ _ _ _ _ _ HS.out (by omega) (by omega) (by omega) (by omega)).mono ?_; rintro e w2 ⟨rfl, o3, o4, o5, rfl⟩) | (go_at_call 97; refine (plus_any _ _ _ _ _ (by omega) (by omega) (by omega) (by omega) (by omega) (by omega) (by omega) (by omega)).mono ?_; rintro e w2 ⟨rfl, o6, o7, o8, rfl⟩))
  go_wp2
  exact bodyPost_ret (v := .agg #[.int .i64 (dot a b x y + e), .int .i64 (dot c d x y + f)]) (by simp [results, Tryd.results132, go_sem, World.cell?_alloc_past]) rfl ⟨rfl, _, _, _, _, _, _, _, _, _, rfl⟩

attribute [local go_sem ↓] Go.wp_at_zero Go.wp_at_succ

def outX (k : Int) : Int := if k = 1 then 1 else if k = 3 then -1 else 0
def outY (k : Int) : Int := if k = 0 then -1 else if k = 2 then 1 else 0

theorem outX_bd (k : Int) : -1 ≤ outX k ∧ outX k ≤ 1 := by unfold outX; split <;> (try split) <;> omega
theorem outY_bd (k : Int) : -1 ≤ outY k ∧ outY k ≤ 1 := by unfold outY; split <;> (try split) <;> omega

end Go.Proofs.YtmjneoaciopioaaDoor
