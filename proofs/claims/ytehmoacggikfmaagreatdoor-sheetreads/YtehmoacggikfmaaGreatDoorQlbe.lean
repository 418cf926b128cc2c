/- One step of a line of the grid. -/
import Derived.Test.YtehmoacggikfmaaGreatDoorQlbd
namespace Go.Proofs.YtehmoacggikfmaaGreatDoor
open Go.RowKit

theorem stT_is {a b c d : Nat} {X Y u v : Int} (hx : (c : Int) - (a : Int) = X) (hy : (d : Int) - (b : Int) = Y)
    (h : (X = 0 ∧ 0 < Y ∧ a % 2 = 0 ∧ u = 0 ∧ v = 2) ∨ (0 < X ∧ Y = 0 ∧ a % 2 = 0 ∧ u = 2 ∧ v = 0) ∨ (0 < X ∧ X = Y ∧ u = 1 ∧ v = 1) ∨ (0 < X ∧ X = -Y ∧ u = 1 ∧ v = -1) ∨ (¬ (X = 0 ∧ 0 < Y ∧ a % 2 = 0) ∧ ¬ (Y = 0 ∧ 0 < X ∧ a % 2 = 0) ∧ ¬ (0 < X ∧ X = Y) ∧ ¬ (0 < X ∧ X = -Y) ∧ u = 0 ∧ v = 0)) : stT a b c d = (u, v) := by
  unfold stT
  rw [hx, hy]
  rcases h with ⟨h1, h2, h3, rfl, rfl⟩ | ⟨h1, h2, h3, rfl, rfl⟩ | ⟨h1, h2, rfl, rfl⟩ | ⟨h1, h2, rfl, rfl⟩ | ⟨h1, h2, h3, h4, rfl, rfl⟩
  · rw [if_pos (by omega)]
  · rw [if_neg (by omega), if_pos (by omega)]
  · rw [if_neg (by omega), if_neg (by omega), if_pos (by omega)]
  · rw [if_neg (by omega), if_neg (by omega), if_neg (by omega), if_pos (by omega)]
  · rw [if_neg (by omega), if_neg (by omega), if_neg (by omega), if_neg (by omega)]
set_option maxRecDepth 100000 in
set_option maxHeartbeats 12800000 in
theorem stepTo_any (a b c d : Nat) (w : World) (ha : a < 1000) (hb : b < 1000) (hc : c < 1000) (hd : d < 1000) :
    Calls Tryz.prog 72 #[.agg #[.int .i64 (a : Int), .int .i64 (b : Int)], .agg #[.int .i64 (c : Int), .int .i64 (d : Int)]] w fun e w' => e = .returned (.agg #[.int .i64 (stT a b c d).1, .int .i64 (stT a b c d).2]) ∧ Below w.heap.size w w' := by
  obtain ⟨X, hX⟩ : ∃ X : Int, X = (c : Int) - (a : Int) := ⟨_, rfl⟩
  obtain ⟨Y, hY⟩ : ∃ Y : Int, Y = (d : Int) - (b : Int) := ⟨_, rfl⟩
  have wX : IntKind.i64.wrap ((c : Int) - (a : Int)) = X := by rw [IntKind.wrap_i64]; omega
  have wY : IntKind.i64.wrap ((d : Int) - (b : Int)) = Y := by rw [IntKind.wrap_i64]; omega
  have wN : IntKind.i64.wrap (-Y) = -Y := by rw [IntKind.wrap_i64]; omega
  have HX : Hid ((c : Int) - (a : Int) = X) := hX.symm
  have HY : Hid ((d : Int) - (b : Int) = Y) := hY.symm
  clear hX hY
  have hcs : (X = 0 ∧ 0 < Y ∧ a % 2 = 0) ∨ (0 < X ∧ Y = 0 ∧ a % 2 = 0) ∨ (0 < X ∧ X = Y) ∨ (0 < X ∧ X = -Y) ∨ (X = 0 ∧ 0 < Y ∧ a % 2 ≠ 0) ∨ (X = 0 ∧ Y = 0) ∨ (X = 0 ∧ Y < 0) ∨ (X < 0 ∧ Y = 0) ∨ (X < 0 ∧ Y ≠ 0) ∨ (0 < X ∧ Y = 0 ∧ a % 2 ≠ 0) ∨ (0 < X ∧ Y ≠ 0 ∧ X ≠ Y ∧ X ≠ -Y) := by omega
  rcases hcs with hcs | hcs | hcs | hcs | hcs | hcs | hcs | hcs | hcs | hcs | hcs
  · have q_x0 : (X == 0) = true := by rw [beq_iff_eq]; omega
    have q_yp : 0 < Y := by omega
    have d_yp : decide (0 < Y) = true := by simp; omega
    have q_e : ((a : Int) % 2 == 0) = true := by rw [beq_iff_eq]; omega
    have HV : Hid (stT a b c d = (0, 2)) := stT_is HX.out HY.out (by omega)
    clear hcs
    go_enter Tryz.func72, Tryz.ntmps72
    go_wp2
    go_region_held3 (fun w' => w'.cell? ⟨w.heap.size, 0, none⟩ = some (.int .i64 (a : Int)) ∧ w'.cell? ⟨w.heap.size, 1, none⟩ = some (.int .i64 (b : Int)) ∧ w'.cell? ⟨w.heap.size + 1, 0, none⟩ = some (.int .i64 (c : Int)) ∧ w'.cell? ⟨w.heap.size + 1, 1, none⟩ = some (.int .i64 (d : Int)))
      (refine ⟨?_, ?_, ?_, ?_⟩ <;> (simp [go_sem]; done))
      (fail)
    go_wp2
    refine bodyPost_ret (v := .agg #[.int .i64 0, .int .i64 2]) (by simp [results, Tryz.results72, go_sem]) rfl ⟨by rw [HV.out], ?_⟩
    repeat' (first | exact bl_refl _ | (refine bl_set ?_ (by dsimp only; omega)) | refine bl_alloc ?_ | refine bl_drew ?_)
  · have q_x0 : (X == 0) = false := by rw [beq_eq_false_iff_ne]; omega
    have q_y0 : (Y == 0) = true := by rw [beq_iff_eq]; omega
    have q_xp : 0 < X := by omega
    have d_xp : decide (0 < X) = true := by simp; omega
    have q_e : ((a : Int) % 2 == 0) = true := by rw [beq_iff_eq]; omega
    have HV : Hid (stT a b c d = (2, 0)) := stT_is HX.out HY.out (by omega)
    clear hcs
    go_enter Tryz.func72, Tryz.ntmps72
    go_wp2
    go_region_held3 (fun w' => w'.cell? ⟨w.heap.size, 0, none⟩ = some (.int .i64 (a : Int)) ∧ w'.cell? ⟨w.heap.size, 1, none⟩ = some (.int .i64 (b : Int)) ∧ w'.cell? ⟨w.heap.size + 1, 0, none⟩ = some (.int .i64 (c : Int)) ∧ w'.cell? ⟨w.heap.size + 1, 1, none⟩ = some (.int .i64 (d : Int)))
      (refine ⟨?_, ?_, ?_, ?_⟩ <;> (simp [go_sem]; done))
      (fail)
    go_wp2
    refine bodyPost_ret (v := .agg #[.int .i64 2, .int .i64 0]) (by simp [results, Tryz.results72, go_sem]) rfl ⟨by rw [HV.out], ?_⟩
    repeat' (first | exact bl_refl _ | (refine bl_set ?_ (by dsimp only; omega)) | refine bl_alloc ?_ | refine bl_drew ?_)
  · have q_x0 : (X == 0) = false := by rw [beq_eq_false_iff_ne]; omega
    have q_y0 : (Y == 0) = false := by rw [beq_eq_false_iff_ne]; omega
    have q_xp : 0 < X := by omega
    have d_xp : decide (0 < X) = true := by simp; omega
    have q_xy : (X == Y) = true := by rw [beq_iff_eq]; omega
    rcases he0 : ((a : Int) % 2 == 0) with _ | _
    · have HV : Hid (stT a b c d = (1, 1)) := stT_is HX.out HY.out (by omega)
      clear hcs
      go_enter Tryz.func72, Tryz.ntmps72
      go_wp2
      go_region_held3 (fun w' => w'.cell? ⟨w.heap.size, 0, none⟩ = some (.int .i64 (a : Int)) ∧ w'.cell? ⟨w.heap.size, 1, none⟩ = some (.int .i64 (b : Int)) ∧ w'.cell? ⟨w.heap.size + 1, 0, none⟩ = some (.int .i64 (c : Int)) ∧ w'.cell? ⟨w.heap.size + 1, 1, none⟩ = some (.int .i64 (d : Int)))
        (refine ⟨?_, ?_, ?_, ?_⟩ <;> (simp [go_sem]; done))
        (fail)
      go_wp2
      refine bodyPost_ret (v := .agg #[.int .i64 1, .int .i64 1]) (by simp [results, Tryz.results72, go_sem]) rfl ⟨by rw [HV.out], ?_⟩
      repeat' (first | exact bl_refl _ | (refine bl_set ?_ (by dsimp only; omega)) | refine bl_alloc ?_ | refine bl_drew ?_)
    · have HV : Hid (stT a b c d = (1, 1)) := stT_is HX.out HY.out (by omega)
      clear hcs
      go_enter Tryz.func72, Tryz.ntmps72
      go_wp2
      go_region_held3 (fun w' => w'.cell? ⟨w.heap.size, 0, none⟩ = some (.int .i64 (a : Int)) ∧ w'.cell? ⟨w.heap.size, 1, none⟩ = some (.int .i64 (b : Int)) ∧ w'.cell? ⟨w.heap.size + 1, 0, none⟩ = some (.int .i64 (c : Int)) ∧ w'.cell? ⟨w.heap.size + 1, 1, none⟩ = some (.int .i64 (d : Int)))
        (refine ⟨?_, ?_, ?_, ?_⟩ <;> (simp [go_sem]; done))
        (fail)
      go_wp2
      refine bodyPost_ret (v := .agg #[.int .i64 1, .int .i64 1]) (by simp [results, Tryz.results72, go_sem]) rfl ⟨by rw [HV.out], ?_⟩
      repeat' (first | exact bl_refl _ | (refine bl_set ?_ (by dsimp only; omega)) | refine bl_alloc ?_ | refine bl_drew ?_)
  · have q_x0 : (X == 0) = false := by rw [beq_eq_false_iff_ne]; omega
    have q_y0 : (Y == 0) = false := by rw [beq_eq_false_iff_ne]; omega
    have q_xp : 0 < X := by omega
    have d_xp : decide (0 < X) = true := by simp; omega
    have q_xy : (X == Y) = false := by rw [beq_eq_false_iff_ne]; omega
    have q_xn : (X == -Y) = true := by rw [beq_iff_eq]; omega
    rcases he0 : ((a : Int) % 2 == 0) with _ | _
    · have HV : Hid (stT a b c d = (1, (-1))) := stT_is HX.out HY.out (by omega)
      clear hcs
      go_enter Tryz.func72, Tryz.ntmps72
      go_wp2
      go_region_held3 (fun w' => w'.cell? ⟨w.heap.size, 0, none⟩ = some (.int .i64 (a : Int)) ∧ w'.cell? ⟨w.heap.size, 1, none⟩ = some (.int .i64 (b : Int)) ∧ w'.cell? ⟨w.heap.size + 1, 0, none⟩ = some (.int .i64 (c : Int)) ∧ w'.cell? ⟨w.heap.size + 1, 1, none⟩ = some (.int .i64 (d : Int)))
        (refine ⟨?_, ?_, ?_, ?_⟩ <;> (simp [go_sem]; done))
        (fail)
      go_wp2
      refine bodyPost_ret (v := .agg #[.int .i64 1, .int .i64 (-1)]) (by simp [results, Tryz.results72, go_sem]) rfl ⟨by rw [HV.out], ?_⟩
      repeat' (first | exact bl_refl _ | (refine bl_set ?_ (by dsimp only; omega)) | refine bl_alloc ?_ | refine bl_drew ?_)
    · have HV : Hid (stT a b c d = (1, (-1))) := stT_is HX.out HY.out (by omega)
      clear hcs
      go_enter Tryz.func72, Tryz.ntmps72
      go_wp2
      go_region_held3 (fun w' => w'.cell? ⟨w.heap.size, 0, none⟩ = some (.int .i64 (a : Int)) ∧ w'.cell? ⟨w.heap.size, 1, none⟩ = some (.int .i64 (b : Int)) ∧ w'.cell? ⟨w.heap.size + 1, 0, none⟩ = some (.int .i64 (c : Int)) ∧ w'.cell? ⟨w.heap.size + 1, 1, none⟩ = some (.int .i64 (d : Int)))
        (refine ⟨?_, ?_, ?_, ?_⟩ <;> (simp [go_sem]; done))
        (fail)
      go_wp2
      refine bodyPost_ret (v := .agg #[.int .i64 1, .int .i64 (-1)]) (by simp [results, Tryz.results72, go_sem]) rfl ⟨by rw [HV.out], ?_⟩
      repeat' (first | exact bl_refl _ | (refine bl_set ?_ (by dsimp only; omega)) | refine bl_alloc ?_ | refine bl_drew ?_)
  · have q_x0 : (X == 0) = true := by rw [beq_iff_eq]; omega
    have q_yp : 0 < Y := by omega
    have d_yp : decide (0 < Y) = true := by simp; omega
    have q_e : ((a : Int) % 2 == 0) = false := by rw [beq_eq_false_iff_ne]; omega
    have q_y0 : (Y == 0) = false := by rw [beq_eq_false_iff_ne]; omega
    have q_xp : ¬ 0 < X := by omega
    have d_xp : decide (0 < X) = false := by simp; omega
    have HV : Hid (stT a b c d = (0, 0)) := stT_is HX.out HY.out (by omega)
    clear hcs
    go_enter Tryz.func72, Tryz.ntmps72
    go_wp2
    go_region_held3 (fun w' => w'.cell? ⟨w.heap.size, 0, none⟩ = some (.int .i64 (a : Int)) ∧ w'.cell? ⟨w.heap.size, 1, none⟩ = some (.int .i64 (b : Int)) ∧ w'.cell? ⟨w.heap.size + 1, 0, none⟩ = some (.int .i64 (c : Int)) ∧ w'.cell? ⟨w.heap.size + 1, 1, none⟩ = some (.int .i64 (d : Int)))
      (refine ⟨?_, ?_, ?_, ?_⟩ <;> (simp [go_sem]; done))
      (fail)
    go_wp2
    refine bodyPost_ret (v := .agg #[.int .i64 0, .int .i64 0]) (by simp [results, Tryz.results72, go_sem]) rfl ⟨by rw [HV.out], ?_⟩
    repeat' (first | exact bl_refl _ | (refine bl_set ?_ (by dsimp only; omega)) | refine bl_alloc ?_ | refine bl_drew ?_)
  · have q_x0 : (X == 0) = true := by rw [beq_iff_eq]; omega
    have q_yp : ¬ 0 < Y := by omega
    have d_yp : decide (0 < Y) = false := by simp; omega
    have q_y0 : (Y == 0) = true := by rw [beq_iff_eq]; omega
    have q_xp : ¬ 0 < X := by omega
    have d_xp : decide (0 < X) = false := by simp; omega
    rcases he0 : ((a : Int) % 2 == 0) with _ | _
    · have HV : Hid (stT a b c d = (0, 0)) := stT_is HX.out HY.out (by omega)
      clear hcs
      go_enter Tryz.func72, Tryz.ntmps72
      go_wp2
      go_region_held3 (fun w' => w'.cell? ⟨w.heap.size, 0, none⟩ = some (.int .i64 (a : Int)) ∧ w'.cell? ⟨w.heap.size, 1, none⟩ = some (.int .i64 (b : Int)) ∧ w'.cell? ⟨w.heap.size + 1, 0, none⟩ = some (.int .i64 (c : Int)) ∧ w'.cell? ⟨w.heap.size + 1, 1, none⟩ = some (.int .i64 (d : Int)))
        (refine ⟨?_, ?_, ?_, ?_⟩ <;> (simp [go_sem]; done))
        (fail)
      go_wp2
      refine bodyPost_ret (v := .agg #[.int .i64 0, .int .i64 0]) (by simp [results, Tryz.results72, go_sem]) rfl ⟨by rw [HV.out], ?_⟩
      repeat' (first | exact bl_refl _ | (refine bl_set ?_ (by dsimp only; omega)) | refine bl_alloc ?_ | refine bl_drew ?_)
    · have HV : Hid (stT a b c d = (0, 0)) := stT_is HX.out HY.out (by omega)
      clear hcs
      go_enter Tryz.func72, Tryz.ntmps72
      go_wp2
      go_region_held3 (fun w' => w'.cell? ⟨w.heap.size, 0, none⟩ = some (.int .i64 (a : Int)) ∧ w'.cell? ⟨w.heap.size, 1, none⟩ = some (.int .i64 (b : Int)) ∧ w'.cell? ⟨w.heap.size + 1, 0, none⟩ = some (.int .i64 (c : Int)) ∧ w'.cell? ⟨w.heap.size + 1, 1, none⟩ = some (.int .i64 (d : Int)))
        (refine ⟨?_, ?_, ?_, ?_⟩ <;> (simp [go_sem]; done))
        (fail)
      go_wp2
      refine bodyPost_ret (v := .agg #[.int .i64 0, .int .i64 0]) (by simp [results, Tryz.results72, go_sem]) rfl ⟨by rw [HV.out], ?_⟩
      repeat' (first | exact bl_refl _ | (refine bl_set ?_ (by dsimp only; omega)) | refine bl_alloc ?_ | refine bl_drew ?_)
  · have q_x0 : (X == 0) = true := by rw [beq_iff_eq]; omega
    have q_yp : ¬ 0 < Y := by omega
    have d_yp : decide (0 < Y) = false := by simp; omega
    have q_y0 : (Y == 0) = false := by rw [beq_eq_false_iff_ne]; omega
    have q_xp : ¬ 0 < X := by omega
    have d_xp : decide (0 < X) = false := by simp; omega
    rcases he0 : ((a : Int) % 2 == 0) with _ | _
    · have HV : Hid (stT a b c d = (0, 0)) := stT_is HX.out HY.out (by omega)
      clear hcs
      go_enter Tryz.func72, Tryz.ntmps72
      go_wp2
      go_region_held3 (fun w' => w'.cell? ⟨w.heap.size, 0, none⟩ = some (.int .i64 (a : Int)) ∧ w'.cell? ⟨w.heap.size, 1, none⟩ = some (.int .i64 (b : Int)) ∧ w'.cell? ⟨w.heap.size + 1, 0, none⟩ = some (.int .i64 (c : Int)) ∧ w'.cell? ⟨w.heap.size + 1, 1, none⟩ = some (.int .i64 (d : Int)))
        (refine ⟨?_, ?_, ?_, ?_⟩ <;> (simp [go_sem]; done))
        (fail)
      go_wp2
      refine bodyPost_ret (v := .agg #[.int .i64 0, .int .i64 0]) (by simp [results, Tryz.results72, go_sem]) rfl ⟨by rw [HV.out], ?_⟩
      repeat' (first | exact bl_refl _ | (refine bl_set ?_ (by dsimp only; omega)) | refine bl_alloc ?_ | refine bl_drew ?_)
    · have HV : Hid (stT a b c d = (0, 0)) := stT_is HX.out HY.out (by omega)
      clear hcs
      go_enter Tryz.func72, Tryz.ntmps72
      go_wp2
      go_region_held3 (fun w' => w'.cell? ⟨w.heap.size, 0, none⟩ = some (.int .i64 (a : Int)) ∧ w'.cell? ⟨w.heap.size, 1, none⟩ = some (.int .i64 (b : Int)) ∧ w'.cell? ⟨w.heap.size + 1, 0, none⟩ = some (.int .i64 (c : Int)) ∧ w'.cell? ⟨w.heap.size + 1, 1, none⟩ = some (.int .i64 (d : Int)))
        (refine ⟨?_, ?_, ?_, ?_⟩ <;> (simp [go_sem]; done))
        (fail)
      go_wp2
      refine bodyPost_ret (v := .agg #[.int .i64 0, .int .i64 0]) (by simp [results, Tryz.results72, go_sem]) rfl ⟨by rw [HV.out], ?_⟩
      repeat' (first | exact bl_refl _ | (refine bl_set ?_ (by dsimp only; omega)) | refine bl_alloc ?_ | refine bl_drew ?_)
  · have q_x0 : (X == 0) = false := by rw [beq_eq_false_iff_ne]; omega
    have q_y0 : (Y == 0) = true := by rw [beq_iff_eq]; omega
    have q_xp : ¬ 0 < X := by omega
    have d_xp : decide (0 < X) = false := by simp; omega
    rcases he0 : ((a : Int) % 2 == 0) with _ | _
    · have HV : Hid (stT a b c d = (0, 0)) := stT_is HX.out HY.out (by omega)
      clear hcs
      go_enter Tryz.func72, Tryz.ntmps72
      go_wp2
      go_region_held3 (fun w' => w'.cell? ⟨w.heap.size, 0, none⟩ = some (.int .i64 (a : Int)) ∧ w'.cell? ⟨w.heap.size, 1, none⟩ = some (.int .i64 (b : Int)) ∧ w'.cell? ⟨w.heap.size + 1, 0, none⟩ = some (.int .i64 (c : Int)) ∧ w'.cell? ⟨w.heap.size + 1, 1, none⟩ = some (.int .i64 (d : Int)))
        (refine ⟨?_, ?_, ?_, ?_⟩ <;> (simp [go_sem]; done))
        (fail)
      go_wp2
      refine bodyPost_ret (v := .agg #[.int .i64 0, .int .i64 0]) (by simp [results, Tryz.results72, go_sem]) rfl ⟨by rw [HV.out], ?_⟩
      repeat' (first | exact bl_refl _ | (refine bl_set ?_ (by dsimp only; omega)) | refine bl_alloc ?_ | refine bl_drew ?_)
    · have HV : Hid (stT a b c d = (0, 0)) := stT_is HX.out HY.out (by omega)
      clear hcs
      go_enter Tryz.func72, Tryz.ntmps72
      go_wp2
      go_region_held3 (fun w' => w'.cell? ⟨w.heap.size, 0, none⟩ = some (.int .i64 (a : Int)) ∧ w'.cell? ⟨w.heap.size, 1, none⟩ = some (.int .i64 (b : Int)) ∧ w'.cell? ⟨w.heap.size + 1, 0, none⟩ = some (.int .i64 (c : Int)) ∧ w'.cell? ⟨w.heap.size + 1, 1, none⟩ = some (.int .i64 (d : Int)))
        (refine ⟨?_, ?_, ?_, ?_⟩ <;> (simp [go_sem]; done))
        (fail)
      go_wp2
      refine bodyPost_ret (v := .agg #[.int .i64 0, .int .i64 0]) (by simp [results, Tryz.results72, go_sem]) rfl ⟨by rw [HV.out], ?_⟩
      repeat' (first | exact bl_refl _ | (refine bl_set ?_ (by dsimp only; omega)) | refine bl_alloc ?_ | refine bl_drew ?_)
  · have q_x0 : (X == 0) = false := by rw [beq_eq_false_iff_ne]; omega
    have q_y0 : (Y == 0) = false := by rw [beq_eq_false_iff_ne]; omega
    have q_xp : ¬ 0 < X := by omega
    have d_xp : decide (0 < X) = false := by simp; omega
    rcases he0 : ((a : Int) % 2 == 0) with _ | _
    · have HV : Hid (stT a b c d = (0, 0)) := stT_is HX.out HY.out (by omega)
      clear hcs
      go_enter Tryz.func72, Tryz.ntmps72
      go_wp2
      go_region_held3 (fun w' => w'.cell? ⟨w.heap.size, 0, none⟩ = some (.int .i64 (a : Int)) ∧ w'.cell? ⟨w.heap.size, 1, none⟩ = some (.int .i64 (b : Int)) ∧ w'.cell? ⟨w.heap.size + 1, 0, none⟩ = some (.int .i64 (c : Int)) ∧ w'.cell? ⟨w.heap.size + 1, 1, none⟩ = some (.int .i64 (d : Int)))
        (refine ⟨?_, ?_, ?_, ?_⟩ <;> (simp [go_sem]; done))
        (fail)
      go_wp2
      refine bodyPost_ret (v := .agg #[.int .i64 0, .int .i64 0]) (by simp [results, Tryz.results72, go_sem]) rfl ⟨by rw [HV.out], ?_⟩
      repeat' (first | exact bl_refl _ | (refine bl_set ?_ (by dsimp only; omega)) | refine bl_alloc ?_ | refine bl_drew ?_)
    · have HV : Hid (stT a b c d = (0, 0)) := stT_is HX.out HY.out (by omega)
      clear hcs
      go_enter Tryz.func72, Tryz.ntmps72
      go_wp2
      go_region_held3 (fun w' => w'.cell? ⟨w.heap.size, 0, none⟩ = some (.int .i64 (a : Int)) ∧ w'.cell? ⟨w.heap.size, 1, none⟩ = some (.int .i64 (b : Int)) ∧ w'.cell? ⟨w.heap.size + 1, 0, none⟩ = some (.int .i64 (c : Int)) ∧ w'.cell? ⟨w.heap.size + 1, 1, none⟩ = some (.int .i64 (d : Int)))
        (refine ⟨?_, ?_, ?_, ?_⟩ <;> (simp [go_sem]; done))
        (fail)
      go_wp2
      refine bodyPost_ret (v := .agg #[.int .i64 0, .int .i64 0]) (by simp [results, Tryz.results72, go_sem]) rfl ⟨by rw [HV.out], ?_⟩
      repeat' (first | exact bl_refl _ | (refine bl_set ?_ (by dsimp only; omega)) | refine bl_alloc ?_ | refine bl_drew ?_)
  · have q_x0 : (X == 0) = false := by rw [beq_eq_false_iff_ne]; omega
    have q_y0 : (Y == 0) = true := by rw [beq_iff_eq]; omega
    have q_xp : 0 < X := by omega
    have d_xp : decide (0 < X) = true := by simp; omega
    have q_e : ((a : Int) % 2 == 0) = false := by rw [beq_eq_false_iff_ne]; omega
    have q_xy : (X == Y) = false := by rw [beq_eq_false_iff_ne]; omega
    have q_xn : (X == -Y) = false := by rw [beq_eq_false_iff_ne]; omega
    have HV : Hid (stT a b c d = (0, 0)) := stT_is HX.out HY.out (by omega)
    clear hcs
    go_enter Tryz.func72, Tryz.ntmps72
    go_wp2
    go_region_held3 (fun w' => w'.cell? ⟨w.heap.size, 0, none⟩ = some (.int .i64 (a : Int)) ∧ w'.cell? ⟨w.heap.size, 1, none⟩ = some (.int .i64 (b : Int)) ∧ w'.cell? ⟨w.heap.size + 1, 0, none⟩ = some (.int .i64 (c : Int)) ∧ w'.cell? ⟨w.heap.size + 1, 1, none⟩ = some (.int .i64 (d : Int)))
      (refine ⟨?_, ?_, ?_, ?_⟩ <;> (simp [go_sem]; done))
      (fail)
    go_wp2
    refine bodyPost_ret (v := .agg #[.int .i64 0, .int .i64 0]) (by simp [results, Tryz.results72, go_sem]) rfl ⟨by rw [HV.out], ?_⟩
    repeat' (first | exact bl_refl _ | (refine bl_set ?_ (by dsimp only; omega)) | refine bl_alloc ?_ | refine bl_drew ?_)
  · have q_x0 : (X == 0) = false := by rw [beq_eq_false_iff_ne]; omega
    have q_y0 : (Y == 0) = false := by rw [beq_eq_false_iff_ne]; omega
    have q_xp : 0 < X := by omega
    have d_xp : decide (0 < X) = true := by simp; omega
    have q_xy : (X == Y) = false := by rw [beq_eq_false_iff_ne]; omega
    have q_xn : (X == -Y) = false := by rw [beq_eq_false_iff_ne]; omega
    rcases he0 : ((a : Int) % 2 == 0) with _ | _
    · have HV : Hid (stT a b c d = (0, 0)) := stT_is HX.out HY.out (by omega)
      clear hcs
      go_enter Tryz.func72, Tryz.ntmps72
      go_wp2
      go_region_held3 (fun w' => w'.cell? ⟨w.heap.size, 0, none⟩ = some (.int .i64 (a : Int)) ∧ w'.cell? ⟨w.heap.size, 1, none⟩ = some (.int .i64 (b : Int)) ∧ w'.cell? ⟨w.heap.size + 1, 0, none⟩ = some (.int .i64 (c : Int)) ∧ w'.cell? ⟨w.heap.size + 1, 1, none⟩ = some (.int .i64 (d : Int)))
        (refine ⟨?_, ?_, ?_, ?_⟩ <;> (simp [go_sem]; done))
        (fail)
      go_wp2
      refine bodyPost_ret (v := .agg #[.int .i64 0, .int .i64 0]) (by simp [results, Tryz.results72, go_sem]) rfl ⟨by rw [HV.out], ?_⟩
      repeat' (first | exact bl_refl _ | (refine bl_set ?_ (by dsimp only; omega)) | refine bl_alloc ?_ | refine bl_drew ?_)
    · have HV : Hid (stT a b c d = (0, 0)) := stT_is HX.out HY.out (by omega)
      clear hcs
      go_enter Tryz.func72, Tryz.ntmps72
      go_wp2
      go_region_held3 (fun w' => w'.cell? ⟨w.heap.size, 0, none⟩ = some (.int .i64 (a : Int)) ∧ w'.cell? ⟨w.heap.size, 1, none⟩ = some (.int .i64 (b : Int)) ∧ w'.cell? ⟨w.heap.size + 1, 0, none⟩ = some (.int .i64 (c : Int)) ∧ w'.cell? ⟨w.heap.size + 1, 1, none⟩ = some (.int .i64 (d : Int)))
        (refine ⟨?_, ?_, ?_, ?_⟩ <;> (simp [go_sem]; done))
        (fail)
      go_wp2
      refine bodyPost_ret (v := .agg #[.int .i64 0, .int .i64 0]) (by simp [results, Tryz.results72, go_sem]) rfl ⟨by rw [HV.out], ?_⟩
      repeat' (first | exact bl_refl _ | (refine bl_set ?_ (by dsimp only; omega)) | refine bl_alloc ?_ | refine bl_drew ?_)
end Go.Proofs.YtehmoacggikfmaaGreatDoor
