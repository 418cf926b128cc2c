/- Which of two numbers, points, edges is the lesser: the code's way and the reference's. -/
import Derived.Test.YtehmoacggikfmaaDoorQlay
namespace Go.Proofs.YtehmoacggikfmaaDoor
open Go.RowKit
attribute [local go_sem ↓] Go.wp_at_zero Go.wp_at_succ

/-- Three ways. -/
def cmp3 (a b : Int) : Int := if a < b then -1 else if b < a then 1 else 0
def or2 (m n : Int) : Int := if m = 0 then n else m
def cmpP (a b c d : Int) : Int := or2 (cmp3 a c) (cmp3 b d)
def cmpE (a b c d p q r s : Int) : Int := or2 (cmpP a b p q) (cmpP c d r s)

theorem isNaN_any (n : Int) (w : World) : Calls Tryd.prog 69 #[.int .i64 n] w fun e w' => e = .returned (.bool false) ∧ w' = w := by
  go_enter Tryd.func69, Tryd.ntmps69
  go_wp2
  go_ret
  exact ⟨rfl, rfl⟩
theorem compare_any (a b : Int) (w : World) : Calls Tryd.prog 60 #[.int .i64 a, .int .i64 b] w fun e w' => e = .returned (.int .i64 (cmp3 a b)) ∧ w' = w := by
  go_enter Tryd.func60, Tryd.ntmps60
  go_wp2_with (go_at_call 69; refine (isNaN_any _ _).mono ?_; rintro e w' ⟨rfl, rfl⟩)
  all_goals
    go_ret
    exact ⟨ret_int (by unfold cmp3; split <;> (try split) <;> omega), rfl⟩
set_option maxHeartbeats 800000 in
theorem or2_any (m n : Int) (g cap : Nat) (w : World) (h0 : w.cell? ⟨g, 0, none⟩ = some (.int .i64 m)) (h1 : w.cell? ⟨g, 1, none⟩ = some (.int .i64 n)) :
    Calls Tryd.prog 50 #[.slice (some ⟨g, 0, none⟩) 2 cap] w fun e w' => e = .returned (.int .i64 (or2 m n)) ∧ w' = w := by
  go_enter Tryd.func50, Tryd.ntmps50
  go_wp2
  go_loopg [8] 2 (fun k s8 wx => ∃ i : Int, 0 ≤ i ∧ i ≤ 2 ∧ (k : Int) = 2 - i ∧ s8 = .int .i64 i ∧ (1 ≤ i → m = 0) ∧ (2 ≤ i → n = 0) ∧ wx = w)
  case atStart => exact ⟨0, by omega, by omega, by omega, rfl, by omega, by omega, rfl⟩
  case round =>
    obtain ⟨i, i0, i2, hg, rfl, hm, hn, rfl⟩ := hrel
    have hi : i = 0 ∨ i = 1 ∨ i = 2 := by omega
    rcases hi with rfl | rfl | rfl
    · by_cases e : m = 0
      · have HE : Hid (m = 0) := e
        go_wp2
        go_roundg 1
        case measure => omega
        case rel => exact ⟨1, by omega, by omega, by omega, by go_num, fun _ => HE.out, by omega, rfl⟩
      · have HE : Hid (or2 m n = m) := by show or2 m n = m; simp [or2, e]
        have e' : (m == 0) = false := by simpa using e
        go_wp2
        go_ret
        exact ⟨ret_int HE.out.symm, rfl⟩
    · have hm0 := hm (by omega)
      have HM : Hid (m = 0) := hm0
      clear hm0
      by_cases e : n = 0
      · have HE : Hid (n = 0) := e
        go_wp2
        go_roundg 0
        case measure => omega
        case rel => exact ⟨2, by omega, by omega, by omega, by go_num, fun _ => HM.out, fun _ => HE.out, rfl⟩
      · have HE : Hid (or2 m n = n) := by show or2 m n = n; simp [or2, HM.out]
        have e' : (n == 0) = false := by simpa using e
        go_wp2
        go_ret
        exact ⟨ret_int HE.out.symm, rfl⟩
    · have HE : Hid (or2 m n = 0) := by show or2 m n = 0; simp [or2, hm (by omega), hn (by omega)]
      go_wp2
      go_ret
      exact ⟨ret_int HE.out.symm, rfl⟩

set_option maxRecDepth 100000 in
set_option maxHeartbeats 1600000 in
theorem comparePoints_any (a b p q : Int) (w : World) :
    Calls Tryd.prog 51 #[.agg #[.int .i64 a, .int .i64 b], .agg #[.int .i64 p, .int .i64 q]] w fun e w' => e = .returned (.int .i64 (cmpP a b p q)) ∧ Below w.heap.size w w' := by
  go_enter Tryd.func51, Tryd.ntmps51
  go_wp2
  go_region_held3 (fun w' => w'.cell? ⟨w.heap.size, 0, none⟩ = some (.int .i64 a) ∧ w'.cell? ⟨w.heap.size, 1, none⟩ = some (.int .i64 b) ∧ w'.cell? ⟨w.heap.size + 1, 0, none⟩ = some (.int .i64 p) ∧ w'.cell? ⟨w.heap.size + 1, 1, none⟩ = some (.int .i64 q))
    ((refine ⟨?_, ?_, ?_, ?_⟩ <;> (repeat' (first | (with_reducible assumption) | (dsimp only; omega) | (simp [go_sem]; done) | (with_reducible refine al_old ?_) | (with_reducible refine dr_old ?_)))))
    (first | (go_at_call 60; refine (compare_any _ _ _).mono ?_; rintro e w2 ⟨rfl, rfl⟩) | (go_at_call 50; refine (or2_any (cmp3 a p) (cmp3 b q) _ _ _ (by first | (simp [go_sem]; done) | (simp [go_sem, World.cell?_alloc_past]; done)) (by first | (simp [go_sem]; done) | (simp [go_sem, World.cell?_alloc_past]; done))).mono ?_; rintro e w3 ⟨rfl, rfl⟩))
  all_goals
    go_wp2
    go_ret
    refine ⟨rfl, ?_⟩
    with_reducible repeat' (first | exact bl_refl _ | refine bl_alloc ?_ | refine bl_drew ?_)

set_option maxRecDepth 100000 in
set_option maxHeartbeats 1600000 in
theorem compareEdges_any (a b c d p q r s : Int) (w : World) :
    Calls Tryd.prog 39 #[.agg #[.int .i64 a, .int .i64 b, .int .i64 c, .int .i64 d], .agg #[.int .i64 p, .int .i64 q, .int .i64 r, .int .i64 s]] w fun e w' => e = .returned (.int .i64 (cmpE a b c d p q r s)) ∧ Below w.heap.size w w' := by
  go_enter Tryd.func39, Tryd.ntmps39
  go_wp2
  go_region_held3 (fun w' => w'.cell? ⟨w.heap.size, 0, none⟩ = some (.int .i64 a) ∧ w'.cell? ⟨w.heap.size, 1, none⟩ = some (.int .i64 b) ∧ w'.cell? ⟨w.heap.size, 2, none⟩ = some (.int .i64 c) ∧ w'.cell? ⟨w.heap.size, 3, none⟩ = some (.int .i64 d) ∧ w'.cell? ⟨w.heap.size + 1, 0, none⟩ = some (.int .i64 p) ∧ w'.cell? ⟨w.heap.size + 1, 1, none⟩ = some (.int .i64 q) ∧ w'.cell? ⟨w.heap.size + 1, 2, none⟩ = some (.int .i64 r) ∧ w'.cell? ⟨w.heap.size + 1, 3, none⟩ = some (.int .i64 s))
    ((refine ⟨?_, ?_, ?_, ?_, ?_, ?_, ?_, ?_⟩ <;> (repeat' (first | (with_reducible assumption) | (dsimp only; omega) | (simp [go_sem]; done) | (with_reducible refine al_old ?_) | (with_reducible refine dr_old ?_)))))
    (first
      | (go_at_call 51; refine (comparePoints_any _ _ _ _ _).mono ?_; rintro e w8 ⟨rfl, hb⟩; have a0_w8 : w8.cell? ⟨w.heap.size, 0, none⟩ = some (.int .i64 a) := cl_kept hb (by first | (with_reducible (repeat (first | assumption | refine dr_old ?_ | refine al_old ?_)); done) | (simp [go_sem]; done)); have a1_w8 : w8.cell? ⟨w.heap.size, 1, none⟩ = some (.int .i64 b) := cl_kept hb (by first | (with_reducible (repeat (first | assumption | refine dr_old ?_ | refine al_old ?_)); done) | (simp [go_sem]; done)); have a2_w8 : w8.cell? ⟨w.heap.size, 2, none⟩ = some (.int .i64 c) := cl_kept hb (by first | (with_reducible (repeat (first | assumption | refine dr_old ?_ | refine al_old ?_)); done) | (simp [go_sem]; done)); have a3_w8 : w8.cell? ⟨w.heap.size, 3, none⟩ = some (.int .i64 d) := cl_kept hb (by first | (with_reducible (repeat (first | assumption | refine dr_old ?_ | refine al_old ?_)); done) | (simp [go_sem]; done)); have e0_w8 : w8.cell? ⟨w.heap.size + 1, 0, none⟩ = some (.int .i64 p) := cl_kept hb (by first | (with_reducible (repeat (first | assumption | refine dr_old ?_ | refine al_old ?_)); done) | (simp [go_sem]; done)); have e1_w8 : w8.cell? ⟨w.heap.size + 1, 1, none⟩ = some (.int .i64 q) := cl_kept hb (by first | (with_reducible (repeat (first | assumption | refine dr_old ?_ | refine al_old ?_)); done) | (simp [go_sem]; done)); have e2_w8 : w8.cell? ⟨w.heap.size + 1, 2, none⟩ = some (.int .i64 r) := cl_kept hb (by first | (with_reducible (repeat (first | assumption | refine dr_old ?_ | refine al_old ?_)); done) | (simp [go_sem]; done)); have e3_w8 : w8.cell? ⟨w.heap.size + 1, 3, none⟩ = some (.int .i64 s) := cl_kept hb (by first | (with_reducible (repeat (first | assumption | refine dr_old ?_ | refine al_old ?_)); done) | (simp [go_sem]; done)); have hq : Below w.heap.size w w8 := (by with_reducible (first | exact bl_via HQ.out hb | exact bl_via (bl_drew HQ.out) hb | exact bl_via (bl_drew (bl_alloc (bl_alloc (bl_refl _)))) hb | exact bl_via (bl_alloc (bl_alloc (bl_refl _))) hb)); have HQ : Hid (Below w.heap.size w w8) := hq; clear hq; clear hb)
      | (go_at_call 50; refine (or2_any (cmpP a b p q) (cmpP c d r s) _ _ _ (by first | (simp [go_sem]; done) | (simp [go_sem, World.cell?_alloc_past]; done)) (by first | (simp [go_sem]; done) | (simp [go_sem, World.cell?_alloc_past]; done))).mono ?_; rintro e w3 ⟨rfl, rfl⟩))
  all_goals
    go_wp2
    go_ret
    refine ⟨rfl, ?_⟩
    with_reducible repeat' (first | exact HQ.out | refine bl_alloc ?_ | refine bl_drew ?_)

end Go.Proofs.YtehmoacggikfmaaDoor
