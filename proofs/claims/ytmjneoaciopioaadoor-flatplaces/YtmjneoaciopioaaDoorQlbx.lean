/- Maps put together: the grid's after and the reference's AfterOf. -/
import Derived.Test.YtmjneoaciopioaaDoorQlaj
import Derived.Test.YtmjneoaciopioaaDoorQlar
import Derived.Deep.DeepCutAuto
namespace Go.Proofs.YtmjneoaciopioaaDoor
open Go.RowKit
attribute [local go_sem ↓] Go.wp_at_zero Go.wp_at_succ


set_option maxHeartbeats 3200000 in
theorem afterOf_any (a b c d e f A B C D E F : Int) (w : World) (hs : Sm a b c d) (hS : Sm A B C D) (he : Ef e f) (hE : Ef E F) :
    Calls Tryd.prog 45 #[.agg #[.int .i64 a, .int .i64 b, .int .i64 c, .int .i64 d, .int .i64 e, .int .i64 f], .agg #[.int .i64 A, .int .i64 B, .int .i64 C, .int .i64 D, .int .i64 E, .int .i64 F]] w fun r w' =>
      r = .returned (.agg #[.int .i64 (dot A B a c), .int .i64 (dot A B b d), .int .i64 (dot C D a c), .int .i64 (dot C D b d), .int .i64 (dot A B e f + E), .int .i64 (dot C D e f + F)]) ∧ Below w.heap.size w w' := by
  have HS1 : Hid (Sm a b c d) := hs
  have HE1 : Hid (Ef e f) := he
  have HS : Hid (Sm A B C D) := hS
  have HE : Hid (Ef E F) := hE
  have q0 : (-1000010 ≤ dot a b 0 0 + e ∧ dot a b 0 0 + e ≤ 1000010) ∧ (-1000010 ≤ dot c d 0 0 + f ∧ dot c d 0 0 + f ≤ 1000010) := by obtain ⟨⟨_, _⟩, ⟨_, _⟩⟩ := he; simp [dot]; omega
  have q1 : (-1000010 ≤ dot a b 1 0 + e ∧ dot a b 1 0 + e ≤ 1000010) ∧ (-1000010 ≤ dot c d 1 0 + f ∧ dot c d 1 0 + f ≤ 1000010) := by obtain ⟨⟨_, _⟩, ⟨_, _⟩⟩ := he; obtain ⟨⟨_, _⟩, ⟨_, _⟩, ⟨_, _⟩, ⟨_, _⟩⟩ := hs; simp [dot]; omega
  have q2 : (-1000010 ≤ dot a b 0 1 + e ∧ dot a b 0 1 + e ≤ 1000010) ∧ (-1000010 ≤ dot c d 0 1 + f ∧ dot c d 0 1 + f ≤ 1000010) := by obtain ⟨⟨_, _⟩, ⟨_, _⟩⟩ := he; obtain ⟨⟨_, _⟩, ⟨_, _⟩, ⟨_, _⟩, ⟨_, _⟩⟩ := hs; simp [dot]; omega
  obtain ⟨⟨q01, q02⟩, ⟨q03, q04⟩⟩ := q0
  obtain ⟨⟨q11, q12⟩, ⟨q13, q14⟩⟩ := q1
  obtain ⟨⟨q21, q22⟩, ⟨q23, q24⟩⟩ := q2
  have r1 := dot_bd hS.1.1 hS.1.2 hS.2.1.1 hS.2.1.2 q01 q02 q03 q04
  have r2 := dot_bd hS.2.2.1.1 hS.2.2.1.2 hS.2.2.2.1 hS.2.2.2.2 q01 q02 q03 q04
  have r3 := dot_bd hS.1.1 hS.1.2 hS.2.1.1 hS.2.1.2 q11 q12 q13 q14
  have r4 := dot_bd hS.2.2.1.1 hS.2.2.1.2 hS.2.2.2.1 hS.2.2.2.2 q11 q12 q13 q14
  have r5 := dot_bd hS.1.1 hS.1.2 hS.2.1.1 hS.2.1.2 q21 q22 q23 q24
  have r6 := dot_bd hS.2.2.1.1 hS.2.2.1.2 hS.2.2.2.1 hS.2.2.2.2 q21 q22 q23 q24
  obtain ⟨⟨E1, E2⟩, ⟨F1, F2⟩⟩ := hE
  clear hs hS he
  go_enter Tryd.func45, Tryd.ntmps45
  go_wp2
  go_cut [5] (fun s5 wx => ∃ g5 : Nat, s5 = .pointer (some ⟨g5, 0, none⟩) ∧ Pt wx g5 (dot A B (dot a b 0 0 + e) (dot c d 0 0 + f) + E) (dot C D (dot a b 0 0 + e) (dot c d 0 0 + f) + F) ∧ Below w.heap.size w wx ∧ Mp wx w.heap.size a b c d e f ∧ Mp wx (w.heap.size + 1) A B C D E F ∧ Mp wx (w.heap.size + 1 + 1) 0 0 0 0 0 0 ∧ Fr wx (w.heap.size + 1 + 1))
  case first =>
    go_region_held3 (fun w' => (w'.cell? ⟨w.heap.size, 0, none⟩ = some (.int .i64 a) ∧ w'.cell? ⟨w.heap.size, 1, none⟩ = some (.int .i64 b) ∧ w'.cell? ⟨w.heap.size, 2, none⟩ = some (.int .i64 c) ∧ w'.cell? ⟨w.heap.size, 3, none⟩ = some (.int .i64 d) ∧ w'.cell? ⟨w.heap.size, 4, none⟩ = some (.int .i64 e) ∧ w'.cell? ⟨w.heap.size, 5, none⟩ = some (.int .i64 f)) ∧ (w'.cell? ⟨w.heap.size + 1, 0, none⟩ = some (.int .i64 A) ∧ w'.cell? ⟨w.heap.size + 1, 1, none⟩ = some (.int .i64 B) ∧ w'.cell? ⟨w.heap.size + 1, 2, none⟩ = some (.int .i64 C) ∧ w'.cell? ⟨w.heap.size + 1, 3, none⟩ = some (.int .i64 D) ∧ w'.cell? ⟨w.heap.size + 1, 4, none⟩ = some (.int .i64 E) ∧ w'.cell? ⟨w.heap.size + 1, 5, none⟩ = some (.int .i64 F)))
      ((refine ⟨⟨?_, ?_, ?_, ?_, ?_, ?_⟩, ?_, ?_, ?_, ?_, ?_, ?_⟩ <;> (first | (with_reducible (repeat (first | assumption | refine al_old ?_ | refine dr_old ?_)); done) | (simp [go_sem]; done))))
      (first | (go_at_call 71; refine (pointOf_any _ _ _ _ _ _ _ _ _ (by first | exact HS1.out | exact HS.out) (by first | exact HE1.out.1 | exact HE.out.1) (by first | exact HE1.out.2 | exact HE.out.2) (by omega) (by omega) (by omega) (by omega)).mono ?_; rintro e w2 ⟨rfl, o3, o4, o5, rfl⟩))
    all_goals
      go_wp2
      go_meet
      case rel =>
        refine ⟨_, rfl, ?_, ?_, ?_, ?_, ?_, ?_⟩
        · simp [Pt, go_sem, World.cell?_alloc_past]
        · with_reducible repeat (first | refine bl_alloc ?_ | refine bl_drew ?_ | exact bl_refl _)
        · simp [Mp, go_sem, World.cell?_alloc_past]
        · simp [Mp, go_sem, World.cell?_alloc_past]
        · simp [Mp, go_sem, World.cell?_alloc_past]
        · simp [Fr, go_sem]
  case rest =>
    obtain ⟨g5, rfl, p5, hB, hM, hN, hR, hF⟩ := hcut
    have hz : w.heap.size ≤ wc.heap.size := hB.size
    obtain ⟨m0, m1, m2, m3, m4, m5⟩ := id hM
    obtain ⟨n0, n1, n2, n3, n4, n5⟩ := id hN
    have hP : Hid (Pt wc g5 (dot A B (dot a b 0 0 + e) (dot c d 0 0 + f) + E) (dot C D (dot a b 0 0 + e) (dot c d 0 0 + f) + F) ∧ Below w.heap.size w wc ∧ Mp wc w.heap.size a b c d e f ∧ Mp wc (w.heap.size + 1) A B C D E F ∧ Mp wc (w.heap.size + 1 + 1) 0 0 0 0 0 0 ∧ Fr wc (w.heap.size + 1 + 1)) := ⟨p5, hB, hM, hN, hR, hF⟩
    clear hB hM hN hR hF p5
    go_wp2
    go_cut [5, 6] (fun s5 s6 wx => ∃ g5 g6 : Nat, s5 = .pointer (some ⟨g5, 0, none⟩) ∧ s6 = .pointer (some ⟨g6, 0, none⟩) ∧ Pt wx g5 (dot A B (dot a b 0 0 + e) (dot c d 0 0 + f) + E) (dot C D (dot a b 0 0 + e) (dot c d 0 0 + f) + F) ∧ Pt wx g6 (dot A B (dot a b 1 0 + e) (dot c d 1 0 + f) + E) (dot C D (dot a b 1 0 + e) (dot c d 1 0 + f) + F) ∧ Below w.heap.size w wx ∧ Mp wx w.heap.size a b c d e f ∧ Mp wx (w.heap.size + 1) A B C D E F ∧ Mp wx (w.heap.size + 1 + 1) 0 0 0 0 0 0 ∧ Fr wx (w.heap.size + 1 + 1))
    case first =>
      go_region_held3 (fun w' => (w'.cell? ⟨w.heap.size, 0, none⟩ = some (.int .i64 a) ∧ w'.cell? ⟨w.heap.size, 1, none⟩ = some (.int .i64 b) ∧ w'.cell? ⟨w.heap.size, 2, none⟩ = some (.int .i64 c) ∧ w'.cell? ⟨w.heap.size, 3, none⟩ = some (.int .i64 d) ∧ w'.cell? ⟨w.heap.size, 4, none⟩ = some (.int .i64 e) ∧ w'.cell? ⟨w.heap.size, 5, none⟩ = some (.int .i64 f)) ∧ (w'.cell? ⟨w.heap.size + 1, 0, none⟩ = some (.int .i64 A) ∧ w'.cell? ⟨w.heap.size + 1, 1, none⟩ = some (.int .i64 B) ∧ w'.cell? ⟨w.heap.size + 1, 2, none⟩ = some (.int .i64 C) ∧ w'.cell? ⟨w.heap.size + 1, 3, none⟩ = some (.int .i64 D) ∧ w'.cell? ⟨w.heap.size + 1, 4, none⟩ = some (.int .i64 E) ∧ w'.cell? ⟨w.heap.size + 1, 5, none⟩ = some (.int .i64 F)))
        ((refine ⟨⟨?_, ?_, ?_, ?_, ?_, ?_⟩, ?_, ?_, ?_, ?_, ?_, ?_⟩ <;> (first | (with_reducible (repeat (first | assumption | refine al_old ?_ | refine dr_old ?_)); done) | (simp [go_sem]; done))))
        (first | (go_at_call 71; refine (pointOf_any _ _ _ _ _ _ _ _ _ (by first | exact HS1.out | exact HS.out) (by first | exact HE1.out.1 | exact HE.out.1) (by first | exact HE1.out.2 | exact HE.out.2) (by omega) (by omega) (by omega) (by omega)).mono ?_; rintro e w2 ⟨rfl, o3, o4, o5, rfl⟩))
      all_goals
        go_wp2
        go_meet
        case rel =>
          obtain ⟨p5, hB, hM, hN, hR, hF⟩ := hP.out
          refine ⟨_, _, rfl, rfl, p5.kept (by with_reducible repeat (first | refine bl_alloc ?_ | refine bl_drew ?_ | exact bl_refl _)), ?_, bl_via hB (by with_reducible repeat (first | refine bl_alloc ?_ | refine bl_drew ?_ | exact bl_refl _)), hM.kept (by with_reducible repeat (first | refine bl_alloc ?_ | refine bl_drew ?_ | exact bl_refl _)), hN.kept (by with_reducible repeat (first | refine bl_alloc ?_ | refine bl_drew ?_ | exact bl_refl _)), hR.kept (by with_reducible repeat (first | refine bl_alloc ?_ | refine bl_drew ?_ | exact bl_refl _)), hF.kept hR.lt (by with_reducible repeat (first | refine bl_alloc ?_ | refine bl_drew ?_ | exact bl_refl _))⟩
          simp [Pt, go_sem, World.cell?_alloc_past]
    case rest =>
      clear hP hz m0 m1 m2 m3 m4 m5 n0 n1 n2 n3 n4 n5
      obtain ⟨g5, g6, rfl, rfl, p5, p6, hB, hM, hN, hR, hF⟩ := hcut
      have hz : w.heap.size ≤ wc.heap.size := hB.size
      obtain ⟨m0, m1, m2, m3, m4, m5⟩ := id hM
      obtain ⟨n0, n1, n2, n3, n4, n5⟩ := id hN
      have hP : Hid (Pt wc g5 (dot A B (dot a b 0 0 + e) (dot c d 0 0 + f) + E) (dot C D (dot a b 0 0 + e) (dot c d 0 0 + f) + F) ∧ Pt wc g6 (dot A B (dot a b 1 0 + e) (dot c d 1 0 + f) + E) (dot C D (dot a b 1 0 + e) (dot c d 1 0 + f) + F) ∧ Below w.heap.size w wc ∧ Mp wc w.heap.size a b c d e f ∧ Mp wc (w.heap.size + 1) A B C D E F ∧ Mp wc (w.heap.size + 1 + 1) 0 0 0 0 0 0 ∧ Fr wc (w.heap.size + 1 + 1)) := ⟨p5, p6, hB, hM, hN, hR, hF⟩
      clear hB hM hN hR hF p5 p6
      go_wp2
      go_cut [5, 6, 7] (fun s5 s6 s7 wx => ∃ g5 g6 g7 : Nat, s5 = .pointer (some ⟨g5, 0, none⟩) ∧ s6 = .pointer (some ⟨g6, 0, none⟩) ∧ s7 = .pointer (some ⟨g7, 0, none⟩) ∧ Pt wx g5 (dot A B (dot a b 0 0 + e) (dot c d 0 0 + f) + E) (dot C D (dot a b 0 0 + e) (dot c d 0 0 + f) + F) ∧ Pt wx g6 (dot A B (dot a b 1 0 + e) (dot c d 1 0 + f) + E) (dot C D (dot a b 1 0 + e) (dot c d 1 0 + f) + F) ∧ Pt wx g7 (dot A B (dot a b 0 1 + e) (dot c d 0 1 + f) + E) (dot C D (dot a b 0 1 + e) (dot c d 0 1 + f) + F) ∧ Below w.heap.size w wx ∧ Mp wx w.heap.size a b c d e f ∧ Mp wx (w.heap.size + 1) A B C D E F ∧ Mp wx (w.heap.size + 1 + 1) 0 0 0 0 0 0 ∧ Fr wx (w.heap.size + 1 + 1))
      case first =>
        go_region_held3 (fun w' => (w'.cell? ⟨w.heap.size, 0, none⟩ = some (.int .i64 a) ∧ w'.cell? ⟨w.heap.size, 1, none⟩ = some (.int .i64 b) ∧ w'.cell? ⟨w.heap.size, 2, none⟩ = some (.int .i64 c) ∧ w'.cell? ⟨w.heap.size, 3, none⟩ = some (.int .i64 d) ∧ w'.cell? ⟨w.heap.size, 4, none⟩ = some (.int .i64 e) ∧ w'.cell? ⟨w.heap.size, 5, none⟩ = some (.int .i64 f)) ∧ (w'.cell? ⟨w.heap.size + 1, 0, none⟩ = some (.int .i64 A) ∧ w'.cell? ⟨w.heap.size + 1, 1, none⟩ = some (.int .i64 B) ∧ w'.cell? ⟨w.heap.size + 1, 2, none⟩ = some (.int .i64 C) ∧ w'.cell? ⟨w.heap.size + 1, 3, none⟩ = some (.int .i64 D) ∧ w'.cell? ⟨w.heap.size + 1, 4, none⟩ = some (.int .i64 E) ∧ w'.cell? ⟨w.heap.size + 1, 5, none⟩ = some (.int .i64 F)))
          ((refine ⟨⟨?_, ?_, ?_, ?_, ?_, ?_⟩, ?_, ?_, ?_, ?_, ?_, ?_⟩ <;> (first | (with_reducible (repeat (first | assumption | refine al_old ?_ | refine dr_old ?_)); done) | (simp [go_sem]; done))))
          (first | (go_at_call 71; refine (pointOf_any _ _ _ _ _ _ _ _ _ (by first | exact HS1.out | exact HS.out) (by first | exact HE1.out.1 | exact HE.out.1) (by first | exact HE1.out.2 | exact HE.out.2) (by omega) (by omega) (by omega) (by omega)).mono ?_; rintro e w2 ⟨rfl, o3, o4, o5, rfl⟩))
        all_goals
          go_wp2
          go_meet
          case rel =>
            obtain ⟨p5, p6, hB, hM, hN, hR, hF⟩ := hP.out
            refine ⟨_, _, _, rfl, rfl, rfl, p5.kept (by with_reducible repeat (first | refine bl_alloc ?_ | refine bl_drew ?_ | exact bl_refl _)), p6.kept (by with_reducible repeat (first | refine bl_alloc ?_ | refine bl_drew ?_ | exact bl_refl _)), ?_, bl_via hB (by with_reducible repeat (first | refine bl_alloc ?_ | refine bl_drew ?_ | exact bl_refl _)), hM.kept (by with_reducible repeat (first | refine bl_alloc ?_ | refine bl_drew ?_ | exact bl_refl _)), hN.kept (by with_reducible repeat (first | refine bl_alloc ?_ | refine bl_drew ?_ | exact bl_refl _)), hR.kept (by with_reducible repeat (first | refine bl_alloc ?_ | refine bl_drew ?_ | exact bl_refl _)), hF.kept hR.lt (by with_reducible repeat (first | refine bl_alloc ?_ | refine bl_drew ?_ | exact bl_refl _))⟩
            simp [Pt, go_sem, World.cell?_alloc_past]
      case rest =>
        clear hP hz m0 m1 m2 m3 m4 m5 n0 n1 n2 n3 n4 n5
        obtain ⟨g5, g6, g7, rfl, rfl, rfl, p5, p6, p7, hB, hM, hN, hR, hF⟩ := hcut
        have hz : w.heap.size ≤ wc.heap.size := hB.size
        obtain ⟨m0, m1, m2, m3, m4, m5⟩ := id hM
        obtain ⟨n0, n1, n2, n3, n4, n5⟩ := id hN
        obtain ⟨r0, r1, r2, r3, r4, r5⟩ := id hR
        obtain ⟨f0, f1', f2', f3, f4, f5⟩ := id hF
        obtain ⟨x5, y5⟩ := id p5
        obtain ⟨x6, y6⟩ := id p6
        obtain ⟨x7, y7⟩ := id p7
        have HB : Hid (Below w.heap.size w wc) := hB
        clear hB hM hN hR hF p5 p6 p7 m0 m1 m2 m3 m4 m5 n0 n1 n2 n3 n4 n5
        go_wp2
        refine bodyPost_ret (v := .agg #[.int .i64 (dot A B (dot a b 1 0 + e) (dot c d 1 0 + f) + E - (dot A B (dot a b 0 0 + e) (dot c d 0 0 + f) + E)), .int .i64 (dot A B (dot a b 0 1 + e) (dot c d 0 1 + f) + E - (dot A B (dot a b 0 0 + e) (dot c d 0 0 + f) + E)), .int .i64 (dot C D (dot a b 1 0 + e) (dot c d 1 0 + f) + F - (dot C D (dot a b 0 0 + e) (dot c d 0 0 + f) + F)), .int .i64 (dot C D (dot a b 0 1 + e) (dot c d 0 1 + f) + F - (dot C D (dot a b 0 0 + e) (dot c d 0 0 + f) + F)), .int .i64 (dot A B (dot a b 0 0 + e) (dot c d 0 0 + f) + E), .int .i64 (dot C D (dot a b 0 0 + e) (dot c d 0 0 + f) + F)]) ?_ rfl ⟨?_, ?_⟩
        · simp [results, Tryd.results45, go_sem, r0, r1, r2, r3, r4, r5]
        · exact ret6 (dot_one _ _ _ _ _ _ _ _ _ _ _ rfl rfl) (dot_two _ _ _ _ _ _ _ _ _ _ _ rfl rfl) (dot_one _ _ _ _ _ _ _ _ _ _ _ rfl rfl) (dot_two _ _ _ _ _ _ _ _ _ _ _ rfl rfl) (dot_nought _ _ _ _ _ _ _ _ _) (dot_nought _ _ _ _ _ _ _ _ _)
        · exact bl_set (bl_set (bl_set (bl_set (bl_set (bl_set HB.out (by simp; omega)) (by simp; omega)) (by simp; omega)) (by simp; omega)) (by simp; omega)) (by simp; omega)
end Go.Proofs.YtmjneoaciopioaaDoor
