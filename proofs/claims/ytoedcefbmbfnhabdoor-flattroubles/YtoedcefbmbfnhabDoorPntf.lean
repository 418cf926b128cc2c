/- The points of a paper's triangles, and the paper around them. -/
import Derived.Test.YtoedcefbmbfnhabDoorPntm
import Derived.Test.YtoedcefbmbfnhabDoorPkad
import Derived.Test.YtoedcefbmbfnhabDoorPkah
import Derived.Test.YtoedcefbmbfnhabDoorQtal
namespace Go.Proofs.YtoedcefbmbfnhabDoor
open Go.RowKit Go.ChangeMaps

/-- Three points in a block. -/
def C6 (w : World) (g : Nat) (m0 m1 m2 m3 m4 m5 : Int) : Prop := w.cell? ⟨g, 0, none⟩ = some (.int .i64 m0) ∧ w.cell? ⟨g, 1, none⟩ = some (.int .i64 m1) ∧ w.cell? ⟨g, 2, none⟩ = some (.int .i64 m2) ∧ w.cell? ⟨g, 3, none⟩ = some (.int .i64 m3) ∧ w.cell? ⟨g, 4, none⟩ = some (.int .i64 m4) ∧ w.cell? ⟨g, 5, none⟩ = some (.int .i64 m5)
theorem C6.kept {w w' : World} {g : Nat} {m0 m1 m2 m3 m4 m5 : Int} (h : C6 w g m0 m1 m2 m3 m4 m5) (hb : Below w.heap.size w w') : C6 w' g m0 m1 m2 m3 m4 m5 := ⟨cl_kept hb h.1, cl_kept hb h.2.1, cl_kept hb h.2.2.1, cl_kept hb h.2.2.2.1, cl_kept hb h.2.2.2.2.1, cl_kept hb h.2.2.2.2.2⟩

theorem idxA0 (g : Nat) (w : World) : (Instr.indexAt 106 (.pointer (some ⟨g, 0, none⟩)) (.int .i64 0)).run Tryd.prog w = .ok (.pointer (some ⟨g, 0, none⟩)) w := by
  simp [go_sem]
theorem idxA1 (g : Nat) (w : World) : (Instr.indexAt 106 (.pointer (some ⟨g, 0, none⟩)) (.int .i64 1)).run Tryd.prog w = .ok (.pointer (some ⟨g, 2, none⟩)) w := by
  simp [go_sem]
theorem idxA2 (g : Nat) (w : World) : (Instr.indexAt 106 (.pointer (some ⟨g, 0, none⟩)) (.int .i64 2)).run Tryd.prog w = .ok (.pointer (some ⟨g, 4, none⟩)) w := by
  simp [go_sem]
set_option maxRecDepth 100000 in
set_option maxHeartbeats 12800000 in
theorem pointsOf_any (w : World) (cc ra rk : Nat) (ad : Option Addr) (L : List (Int × Int × Int)) (hs : Steps w) (hT : TRow w ad L) (hL : L.length ≤ 300) (hbd : ∀ t ∈ L, (0 ≤ t.1 ∧ t.1 ≤ 8) ∧ (0 ≤ t.2.1 ∧ t.2.1 ≤ 8) ∧ (0 ≤ t.2.2 ∧ t.2.2 ≤ 3)) :
    Calls Tryd.prog 23 #[.agg #[.slice ad L.length cc, .map (some ra), .map (some rk)]] w fun e w' => ∃ rm, e = .returned (.map (some rm)) ∧ PtM w w' rm (L.flatMap tps) := by
  have HST : Hid (Steps w) := hs
  have HT : Hid (TRow w ad L) := hT
  have HBD : Hid (∀ t ∈ L, (0 ≤ t.1 ∧ t.1 ≤ 8) ∧ (0 ≤ t.2.1 ∧ t.2.1 ≤ 8) ∧ (0 ≤ t.2.2 ∧ t.2.2 ≤ 3)) := hbd
  clear hs hT hbd
  have hmm := @run_makeMap Tryd.prog
  go_enter Tryd.func23, Tryd.ntmps23
  go_wp2
  obtain ⟨rm, hrm⟩ : ∃ r, r = w.heap.size + 1 := ⟨_, rfl⟩
  have HRM : Hid (rm = w.heap.size + 1) := hrm
  rw [← hrm]
  clear hrm
  go_loopg [14] L.length (fun gk s14 wx => ∃ i : Nat, i ≤ L.length ∧ gk = L.length - i ∧ s14 = .int .i64 (i : Int) ∧ PtM w wx rm ((L.take i).flatMap tps))
  case atStart =>
    refine ⟨0, by omega, rfl, rfl, ⟨[], 0, ?_, ⟨by simp, by simp, by simp⟩, fun pt => by simp [Pm.lk, pv, hasPt]⟩, bl_alloc (bl_alloc (bl_refl _)), by have := HRM.out; omega⟩
    rw [HRM.out]
    have := Pm.em_made (w.alloc (.cells #[.slice ad L.length cc, .map (some ra), .map (some rk)] 63))
    simpa using this
  case round =>
    obtain ⟨i, hi, rfl, rfl, hP⟩ := hrel
    have HP : Hid (PtM w wr rm ((L.take i).flatMap tps)) := hP
    clear hP
    by_cases h1 : i < L.length
    · have i1 : (i : Int) < (L.length : Int) := by omega
      have i0 : (0 : Int) ≤ (i : Int) := by omega
      obtain ⟨tg, rfl, t0, t1, t2⟩ := (HT.out.kept HP.out.2.1) i h1
      have zt : tg < wr.heap.size := World.block_lt_of_cell? _ _ t0
      have hbd := HBD.out _ (List.getElem_mem h1)
      obtain ⟨t, ht⟩ : ∃ t, t = L[i] := ⟨_, rfl⟩
      obtain ⟨x, y, k⟩ := t
      rw [← ht] at t0 t1 t2 hbd
      dsimp only at t0 t1 t2 hbd
      have HLI : Hid ((x, y, k) = L[i]) := ht
      have htri : triB x y k = true := by simp [triB]; omega
      have HTB : Hid (triB x y k = true ∧ (0 ≤ k ∧ k ≤ 3)) := ⟨htri, hbd.2.2⟩
      obtain ⟨m0, h0⟩ : ∃ m, m = 2 * x + 1 := ⟨_, rfl⟩
      obtain ⟨m1, h1'⟩ : ∃ m, m = 2 * y + 1 := ⟨_, rfl⟩
      obtain ⟨m2, h2⟩ : ∃ m, m = c1x x k := ⟨_, rfl⟩
      obtain ⟨m3, h3⟩ : ∃ m, m = c1y y k := ⟨_, rfl⟩
      obtain ⟨m4, h4⟩ : ∃ m, m = c2x x k := ⟨_, rfl⟩
      obtain ⟨m5, h5⟩ : ∃ m, m = c2y y k := ⟨_, rfl⟩
      have CC : Hid (∀ W' : World, Below wr.heap.size wr W' → Calls Tryd.prog 53 #[.agg #[.int .i64 x, .int .i64 y, .int .i64 k]] W' fun r w' => r = .returned (.tuple #[.agg #[.int .i64 m0, .int .i64 m1, .int .i64 m2, .int .i64 m3, .int .i64 m4, .int .i64 m5], .int .i64 0]) ∧ Below W'.heap.size W' w') := fun W' hW' => by
        rw [h0, h1', h2, h3, h4, h5]
        exact Corners_yes x y k W' htri (HST.out.kept (bl_via HP.out.2.1 hW'))
      have HM6 : Hid (m0 = 2 * x + 1 ∧ m1 = 2 * y + 1 ∧ m2 = c1x x k ∧ m3 = c1y y k ∧ m4 = c2x x k ∧ m5 = c2y y k) := ⟨h0, h1', h2, h3, h4, h5⟩
      clear ht hbd htri h0 h1' h2 h3 h4 h5
      go_wp2_with (go_at_call 53; refine (CC.out _ (by with_reducible exact bl_alloc (bl_refl _))).mono ?_; rintro e w5 ⟨rfl, hb⟩; have HP5 : Hid (PtM w w5 rm ((L.take i).flatMap tps)) := HP.out.kept (bl_via (bl_alloc (bl_refl _)) hb); clear hb)
      refine wp_named (fun W6 hW6 => ?_)
      obtain ⟨B6, hB6⟩ : ∃ b, b = w5.heap.size := ⟨_, rfl⟩
      have HC6 : Hid (C6 W6 B6 m0 m1 m2 m3 m4 m5 ∧ PtM w W6 rm ((L.take i).flatMap tps) ∧ rm < B6) := by
        have : C6 W6 B6 m0 m1 m2 m3 m4 m5 ∧ PtM w W6 rm ((L.take i).flatMap tps) ∧ rm < B6 := by
          rw [hW6, hB6]
          exact ⟨by simp [C6, go_sem], HP5.out.kept (bl_alloc (bl_refl _)), HP5.out.lt⟩
        exact this
      rw [← hB6]
      clear hW6 hB6 HP5
      go_wp2
      go_loopg [24] 3 (fun gk s24 wx => ∃ j : Nat, j ≤ 3 ∧ gk = 3 - j ∧ s24 = .int .i64 (j : Int) ∧ C6 wx B6 m0 m1 m2 m3 m4 m5 ∧ PtM w wx rm ((L.take i).flatMap tps ++ (tps (x, y, k)).take j))
      case atStart => exact ⟨0, by omega, rfl, rfl, HC6.out.1, by simpa using HC6.out.2.1⟩
      case round =>
        have hr6 : rm < B6 := HC6.out.2.2
        clear HC6 HP CC t0 t1 t2 zt
        obtain ⟨j, hj, rfl, rfl, hc6, hP⟩ := hrel
        obtain ⟨P, hPP⟩ : ∃ P, P = (L.take i).flatMap tps ++ (tps (x, y, k)).take j := ⟨_, rfl⟩
        rw [← hPP] at hP
        have HS : Hid (C6 wr B6 m0 m1 m2 m3 m4 m5 ∧ PtM w wr rm P) := ⟨hc6, hP⟩
        obtain ⟨y0, y1, y2, y3, y4, y5⟩ := hc6
        clear hP
        have hj4 : j = 0 ∨ j = 1 ∨ j = 2 ∨ j = 3 := by omega
        rcases hj4 with rfl | rfl | rfl | rfl
        · have HPP : Hid (P = (L.take i).flatMap tps ++ (tps (x, y, k)).take 0) := hPP
          clear hPP
          rw [show ((0 : Nat) : Int) = 0 from rfl]
          obtain ⟨D1, hD1⟩ : ∃ D, D = (5 + 2 * k.toNat) % 8 := ⟨_, rfl⟩
          have h81 : D1 < 8 := by omega
          have h82 : (5 + 2 * k.toNat + 2) % 8 < 8 := by omega
          have h12 : (5 + 2 * k.toNat + 2) % 8 = (D1 + 2) % 8 := by omega
          have CD1 : Hid (∀ W' : World, Calls Tryd.prog 55 #[.agg #[.int .i64 m0, .int .i64 m1], .agg #[.int .i64 m2, .int .i64 m3]] W' fun e w' => e = .returned (.int .i64 (D1 : Int)) ∧ Below W'.heap.size W' w') := fun W' => by
            have hd := (dirs (x := x) (y := y) HTB.out.2).1
            obtain ⟨rfl, rfl, rfl, rfl, rfl, rfl⟩ := HM6.out
            rw [← hD1] at hd
            exact direction_any _ _ _ _ D1 h81 W' hd.1 hd.2
          have CD2 : Hid (∀ W' : World, Calls Tryd.prog 55 #[.agg #[.int .i64 m0, .int .i64 m1], .agg #[.int .i64 m4, .int .i64 m5]] W' fun e w' => e = .returned (.int .i64 (((D1 + 2) % 8 : Nat) : Int)) ∧ Below W'.heap.size W' w') := fun W' => by
            have hd := (dirs (x := x) (y := y) HTB.out.2).2.1
            obtain ⟨rfl, rfl, rfl, rfl, rfl, rfl⟩ := HM6.out
            rw [h12] at hd
            exact direction_any _ _ _ _ _ (by omega) W' hd.1 hd.2
          obtain ⟨bb, hbb⟩ : ∃ f, f = bitsOf P (m0, m1) := ⟨_, rfl⟩
          obtain ⟨b2, hb2⟩ : ∃ f, f = fillJ bb D1 2 := ⟨_, rfl⟩
          have CF : Hid (∀ W' : World, Calls Tryd.prog 54 #[.agg #[.bool (bb 0), .int .i64 0, .bool (bb 1), .int .i64 0, .bool (bb 2), .int .i64 0, .bool (bb 3), .int .i64 0, .bool (bb 4), .int .i64 0, .bool (bb 5), .int .i64 0, .bool (bb 6), .int .i64 0, .bool (bb 7), .int .i64 0], .int .i64 (D1 : Int), .int .i64 (((D1 + 2) % 8 : Nat) : Int)] W' fun e w' => e = .returned (.agg #[.bool (b2 0), .int .i64 0, .bool (b2 1), .int .i64 0, .bool (b2 2), .int .i64 0, .bool (b2 3), .int .i64 0, .bool (b2 4), .int .i64 0, .bool (b2 5), .int .i64 0, .bool (b2 6), .int .i64 0, .bool (b2 7), .int .i64 0]) ∧ Below W'.heap.size W' w') := fun W' => by
            rw [hb2]
            exact filled_any bb (fun _ => 0) D1 2 h81 (by omega) W'
          have hx : (Instr.index 106 (.agg #[.int .i64 m0, .int .i64 m1, .int .i64 m2, .int .i64 m3, .int .i64 m4, .int .i64 m5]) (.int .i64 0)).run Tryd.prog wr = .ok (.agg #[.int .i64 m0, .int .i64 m1]) wr := by kernel_rfl
          have HFR : Hid (D1 = (5 + 2 * k.toNat) % 8 ∧ bb = bitsOf P (m0, m1) ∧ b2 = fillJ bb D1 2) := ⟨hD1, hbb, hb2⟩
          clear hD1 hbb hb2 h12 h82
          go_wp2
          refine wp_named (fun W0 hW0 => ?_)
          have HB0 : Hid (Below wr.heap.size wr W0) := by
            have : Below wr.heap.size wr W0 := by rw [hW0]; exact bl_alloc (bl_refl _)
            exact this
          obtain ⟨B9, hB9⟩ : ∃ b, b = wr.heap.size := ⟨_, rfl⟩
          have x0 : W0.cell? ⟨B9, 0, none⟩ = some (.int .i64 m0) := by rw [hW0, hB9]; simp [go_sem]
          have x1 : W0.cell? ⟨B9, 1, none⟩ = some (.int .i64 m1) := by rw [hW0, hB9]; simp [go_sem]
          replace y0 : W0.cell? ⟨B6, 0, none⟩ = some (.int .i64 m0) := cl_kept HB0.out y0
          replace y1 : W0.cell? ⟨B6, 1, none⟩ = some (.int .i64 m1) := cl_kept HB0.out y1
          replace y2 : W0.cell? ⟨B6, 2, none⟩ = some (.int .i64 m2) := cl_kept HB0.out y2
          replace y3 : W0.cell? ⟨B6, 3, none⟩ = some (.int .i64 m3) := cl_kept HB0.out y3
          replace y4 : W0.cell? ⟨B6, 4, none⟩ = some (.int .i64 m4) := cl_kept HB0.out y4
          replace y5 : W0.cell? ⟨B6, 5, none⟩ = some (.int .i64 m5) := cl_kept HB0.out y5
          have HP0 : Hid (PtM w W0 rm P) := HS.out.2.kept HB0.out
          have hlk : (Instr.lookup 67 (.map (some rm)) (.agg #[.int .i64 m0, .int .i64 m1]) false).run Tryd.prog W0.drew = .ok (.agg #[.bool (bb 0), .int .i64 0, .bool (bb 1), .int .i64 0, .bool (bb 2), .int .i64 0, .bool (bb 3), .int .i64 0, .bool (bb 4), .int .i64 0, .bool (bb 5), .int .i64 0, .bool (bb 6), .int .i64 0, .bool (bb 7), .int .i64 0]) W0.drew := by
            have h9 := HP0.out.look m0 m1 W0.drew (bl_drew (bl_refl _))
            rw [← HFR.out.2.1] at h9
            exact h9
          have hrm9 : rm < B9 := by rw [hB9]; exact HS.out.2.lt
          have z9 : B9 < W0.heap.size := World.block_lt_of_cell? _ _ x0
          have z6 : B6 < W0.heap.size := World.block_lt_of_cell? _ _ y0
          rw [← hB9]
          clear hW0 hB9 hx
          have kc := Kin.cells W0
          have kn : Nonempty (Kin W0) := ⟨⟨W0, bl_refl _⟩⟩
          have klk : ∀ n : Kin W0, (Instr.lookup 67 (.map (some rm)) (.agg #[.int .i64 m0, .int .i64 m1]) false).run Tryd.prog n.w = .ok (.agg #[.bool (bb 0), .int .i64 0, .bool (bb 1), .int .i64 0, .bool (bb 2), .int .i64 0, .bool (bb 3), .int .i64 0, .bool (bb 4), .int .i64 0, .bool (bb 5), .int .i64 0, .bool (bb 6), .int .i64 0, .bool (bb 7), .int .i64 0]) n.w := fun n => by
            have h9 := HP0.out.look m0 m1 n.w n.h
            rw [← HFR.out.2.1] at h9
            exact h9
          clear hlk
          refine wp_region_kin_last 20 (by kernel_rfl) (by kernel_rfl) (by kernel_rfl) (by rfl) ?_
          simp only [List.take_succ_cons, List.take_zero]
          repeat (go_big_quiet_step ((first | (go_at_call 55; with_reducible exact kin_of (CD1.out _)) | (go_at_call 55; with_reducible exact kin_of (CD2.out _)) | (go_at_call 54; exact kin_of (CF.out _)))))
          refine wpQuiet_nil ?_
          intro wq hw'
          obtain ⟨nq, hw''⟩ := hw'
          have hq : Below W0.heap.size W0 wq := hw'' ▸ nq.h
          obtain ⟨W4, hup, hgw, hP4⟩ := (HP0.out.kept hq).update m0 m1 D1 2
          rw [← HFR.out.2.1, ← HFR.out.2.2] at hup
          have hup' : (Instr.mapUpdate 67 (.map (some rm)) (.agg #[.int .i64 m0, .int .i64 m1]) (.agg #[.bool (b2 0), .int .i64 0, .bool (b2 1), .int .i64 0, .bool (b2 2), .int .i64 0, .bool (b2 3), .int .i64 0, .bool (b2 4), .int .i64 0, .bool (b2 5), .int .i64 0, .bool (b2 6), .int .i64 0, .bool (b2 7), .int .i64 0])).run Tryd.prog wq = .ok () W4 := hup
          have HP4 : Hid (PtM w W4 rm (P ++ [((m0, m1), D1, 2)])) := hP4
          have y0_w10 := cl_kept hq y0
          have y1_w10 := cl_kept hq y1
          have y2_w10 := cl_kept hq y2
          have y3_w10 := cl_kept hq y3
          have y4_w10 := cl_kept hq y4
          have y5_w10 := cl_kept hq y5
          clear hw'' nq hq kc kn klk hup hP4 x0 x1 y0 y1 y2 y3 y4 y5 z9 z6
          simp only [List.drop_succ_cons, List.drop_zero]
          go_wp2
          go_roundg (3 - (0 + 1))
          case measure => omega
          case rel =>
            refine ⟨0 + 1, by omega, rfl, by go_num, ?_, ?_⟩
            · have hne : some B6 ≠ some rm := by simp; omega
              exact ⟨hgw.cell y0_w10 hne, hgw.cell y1_w10 hne, hgw.cell y2_w10 hne, hgw.cell y3_w10 hne, hgw.cell y4_w10 hne, hgw.cell y5_w10 hne⟩
            · have h9 := HP4.out
              rw [HPP.out, List.append_assoc] at h9
              have e9 : (tps (x, y, k)).take (0 + 1) = (tps (x, y, k)).take 0 ++ [((m0, m1), D1, 2)] := by
                obtain ⟨e0, e1, e2, e3, e4, e5⟩ := HM6.out
                simp [tps, e0, e1, HFR.out.1]
              rw [e9]
              exact h9
        · have HPP : Hid (P = (L.take i).flatMap tps ++ (tps (x, y, k)).take 1) := hPP
          clear hPP
          rw [show ((1 : Nat) : Int) = 1 from rfl]
          obtain ⟨D1, hD1⟩ : ∃ D, D = (2 * k.toNat) % 8 := ⟨_, rfl⟩
          have h81 : D1 < 8 := by omega
          have h82 : (2 * k.toNat + 1) % 8 < 8 := by omega
          have h12 : (2 * k.toNat + 1) % 8 = (D1 + 1) % 8 := by omega
          have CD1 : Hid (∀ W' : World, Calls Tryd.prog 55 #[.agg #[.int .i64 m2, .int .i64 m3], .agg #[.int .i64 m4, .int .i64 m5]] W' fun e w' => e = .returned (.int .i64 (D1 : Int)) ∧ Below W'.heap.size W' w') := fun W' => by
            have hd := (dirs (x := x) (y := y) HTB.out.2).2.2.1
            obtain ⟨rfl, rfl, rfl, rfl, rfl, rfl⟩ := HM6.out
            rw [← hD1] at hd
            exact direction_any _ _ _ _ D1 h81 W' hd.1 hd.2
          have CD2 : Hid (∀ W' : World, Calls Tryd.prog 55 #[.agg #[.int .i64 m2, .int .i64 m3], .agg #[.int .i64 m0, .int .i64 m1]] W' fun e w' => e = .returned (.int .i64 (((D1 + 1) % 8 : Nat) : Int)) ∧ Below W'.heap.size W' w') := fun W' => by
            have hd := (dirs (x := x) (y := y) HTB.out.2).2.2.2.1
            obtain ⟨rfl, rfl, rfl, rfl, rfl, rfl⟩ := HM6.out
            rw [h12] at hd
            exact direction_any _ _ _ _ _ (by omega) W' hd.1 hd.2
          obtain ⟨bb, hbb⟩ : ∃ f, f = bitsOf P (m2, m3) := ⟨_, rfl⟩
          obtain ⟨b2, hb2⟩ : ∃ f, f = fillJ bb D1 1 := ⟨_, rfl⟩
          have CF : Hid (∀ W' : World, Calls Tryd.prog 54 #[.agg #[.bool (bb 0), .int .i64 0, .bool (bb 1), .int .i64 0, .bool (bb 2), .int .i64 0, .bool (bb 3), .int .i64 0, .bool (bb 4), .int .i64 0, .bool (bb 5), .int .i64 0, .bool (bb 6), .int .i64 0, .bool (bb 7), .int .i64 0], .int .i64 (D1 : Int), .int .i64 (((D1 + 1) % 8 : Nat) : Int)] W' fun e w' => e = .returned (.agg #[.bool (b2 0), .int .i64 0, .bool (b2 1), .int .i64 0, .bool (b2 2), .int .i64 0, .bool (b2 3), .int .i64 0, .bool (b2 4), .int .i64 0, .bool (b2 5), .int .i64 0, .bool (b2 6), .int .i64 0, .bool (b2 7), .int .i64 0]) ∧ Below W'.heap.size W' w') := fun W' => by
            rw [hb2]
            exact filled_any bb (fun _ => 0) D1 1 h81 (by omega) W'
          have hx : (Instr.index 106 (.agg #[.int .i64 m0, .int .i64 m1, .int .i64 m2, .int .i64 m3, .int .i64 m4, .int .i64 m5]) (.int .i64 1)).run Tryd.prog wr = .ok (.agg #[.int .i64 m2, .int .i64 m3]) wr := by kernel_rfl
          have HFR : Hid (D1 = (2 * k.toNat) % 8 ∧ bb = bitsOf P (m2, m3) ∧ b2 = fillJ bb D1 1) := ⟨hD1, hbb, hb2⟩
          clear hD1 hbb hb2 h12 h82
          go_wp2
          refine wp_named (fun W0 hW0 => ?_)
          have HB0 : Hid (Below wr.heap.size wr W0) := by
            have : Below wr.heap.size wr W0 := by rw [hW0]; exact bl_alloc (bl_refl _)
            exact this
          obtain ⟨B9, hB9⟩ : ∃ b, b = wr.heap.size := ⟨_, rfl⟩
          have x0 : W0.cell? ⟨B9, 0, none⟩ = some (.int .i64 m2) := by rw [hW0, hB9]; simp [go_sem]
          have x1 : W0.cell? ⟨B9, 1, none⟩ = some (.int .i64 m3) := by rw [hW0, hB9]; simp [go_sem]
          replace y0 : W0.cell? ⟨B6, 0, none⟩ = some (.int .i64 m0) := cl_kept HB0.out y0
          replace y1 : W0.cell? ⟨B6, 1, none⟩ = some (.int .i64 m1) := cl_kept HB0.out y1
          replace y2 : W0.cell? ⟨B6, 2, none⟩ = some (.int .i64 m2) := cl_kept HB0.out y2
          replace y3 : W0.cell? ⟨B6, 3, none⟩ = some (.int .i64 m3) := cl_kept HB0.out y3
          replace y4 : W0.cell? ⟨B6, 4, none⟩ = some (.int .i64 m4) := cl_kept HB0.out y4
          replace y5 : W0.cell? ⟨B6, 5, none⟩ = some (.int .i64 m5) := cl_kept HB0.out y5
          have HP0 : Hid (PtM w W0 rm P) := HS.out.2.kept HB0.out
          have hlk : (Instr.lookup 67 (.map (some rm)) (.agg #[.int .i64 m2, .int .i64 m3]) false).run Tryd.prog W0.drew = .ok (.agg #[.bool (bb 0), .int .i64 0, .bool (bb 1), .int .i64 0, .bool (bb 2), .int .i64 0, .bool (bb 3), .int .i64 0, .bool (bb 4), .int .i64 0, .bool (bb 5), .int .i64 0, .bool (bb 6), .int .i64 0, .bool (bb 7), .int .i64 0]) W0.drew := by
            have h9 := HP0.out.look m2 m3 W0.drew (bl_drew (bl_refl _))
            rw [← HFR.out.2.1] at h9
            exact h9
          have hrm9 : rm < B9 := by rw [hB9]; exact HS.out.2.lt
          have z9 : B9 < W0.heap.size := World.block_lt_of_cell? _ _ x0
          have z6 : B6 < W0.heap.size := World.block_lt_of_cell? _ _ y0
          rw [← hB9]
          clear hW0 hB9 hx
          have kc := Kin.cells W0
          have kn : Nonempty (Kin W0) := ⟨⟨W0, bl_refl _⟩⟩
          have klk : ∀ n : Kin W0, (Instr.lookup 67 (.map (some rm)) (.agg #[.int .i64 m2, .int .i64 m3]) false).run Tryd.prog n.w = .ok (.agg #[.bool (bb 0), .int .i64 0, .bool (bb 1), .int .i64 0, .bool (bb 2), .int .i64 0, .bool (bb 3), .int .i64 0, .bool (bb 4), .int .i64 0, .bool (bb 5), .int .i64 0, .bool (bb 6), .int .i64 0, .bool (bb 7), .int .i64 0]) n.w := fun n => by
            have h9 := HP0.out.look m2 m3 n.w n.h
            rw [← HFR.out.2.1] at h9
            exact h9
          clear hlk
          refine wp_region_kin_last 20 (by kernel_rfl) (by kernel_rfl) (by kernel_rfl) (by rfl) ?_
          simp only [List.take_succ_cons, List.take_zero]
          repeat (go_big_quiet_step ((first | (go_at_call 55; with_reducible exact kin_of (CD1.out _)) | (go_at_call 55; with_reducible exact kin_of (CD2.out _)) | (go_at_call 54; exact kin_of (CF.out _)))))
          refine wpQuiet_nil ?_
          intro wq hw'
          obtain ⟨nq, hw''⟩ := hw'
          have hq : Below W0.heap.size W0 wq := hw'' ▸ nq.h
          obtain ⟨W4, hup, hgw, hP4⟩ := (HP0.out.kept hq).update m2 m3 D1 1
          rw [← HFR.out.2.1, ← HFR.out.2.2] at hup
          have hup' : (Instr.mapUpdate 67 (.map (some rm)) (.agg #[.int .i64 m2, .int .i64 m3]) (.agg #[.bool (b2 0), .int .i64 0, .bool (b2 1), .int .i64 0, .bool (b2 2), .int .i64 0, .bool (b2 3), .int .i64 0, .bool (b2 4), .int .i64 0, .bool (b2 5), .int .i64 0, .bool (b2 6), .int .i64 0, .bool (b2 7), .int .i64 0])).run Tryd.prog wq = .ok () W4 := hup
          have HP4 : Hid (PtM w W4 rm (P ++ [((m2, m3), D1, 1)])) := hP4
          have y0_w10 := cl_kept hq y0
          have y1_w10 := cl_kept hq y1
          have y2_w10 := cl_kept hq y2
          have y3_w10 := cl_kept hq y3
          have y4_w10 := cl_kept hq y4
          have y5_w10 := cl_kept hq y5
          clear hw'' nq hq kc kn klk hup hP4 x0 x1 y0 y1 y2 y3 y4 y5 z9 z6
          simp only [List.drop_succ_cons, List.drop_zero]
          go_wp2
          go_roundg (3 - (1 + 1))
          case measure => omega
          case rel =>
            refine ⟨1 + 1, by omega, rfl, by go_num, ?_, ?_⟩
            · have hne : some B6 ≠ some rm := by simp; omega
              exact ⟨hgw.cell y0_w10 hne, hgw.cell y1_w10 hne, hgw.cell y2_w10 hne, hgw.cell y3_w10 hne, hgw.cell y4_w10 hne, hgw.cell y5_w10 hne⟩
            · have h9 := HP4.out
              rw [HPP.out, List.append_assoc] at h9
              have e9 : (tps (x, y, k)).take (1 + 1) = (tps (x, y, k)).take 1 ++ [((m2, m3), D1, 1)] := by
                obtain ⟨e0, e1, e2, e3, e4, e5⟩ := HM6.out
                simp [tps, e2, e3, HFR.out.1]
              rw [e9]
              exact h9
        · have HPP : Hid (P = (L.take i).flatMap tps ++ (tps (x, y, k)).take 2) := hPP
          clear hPP
          rw [show ((2 : Nat) : Int) = 2 from rfl]
          obtain ⟨D1, hD1⟩ : ∃ D, D = (3 + 2 * k.toNat) % 8 := ⟨_, rfl⟩
          have h81 : D1 < 8 := by omega
          have h82 : (3 + 2 * k.toNat + 1) % 8 < 8 := by omega
          have h12 : (3 + 2 * k.toNat + 1) % 8 = (D1 + 1) % 8 := by omega
          have CD1 : Hid (∀ W' : World, Calls Tryd.prog 55 #[.agg #[.int .i64 m4, .int .i64 m5], .agg #[.int .i64 m0, .int .i64 m1]] W' fun e w' => e = .returned (.int .i64 (D1 : Int)) ∧ Below W'.heap.size W' w') := fun W' => by
            have hd := (dirs (x := x) (y := y) HTB.out.2).2.2.2.2.1
            obtain ⟨rfl, rfl, rfl, rfl, rfl, rfl⟩ := HM6.out
            rw [← hD1] at hd
            exact direction_any _ _ _ _ D1 h81 W' hd.1 hd.2
          have CD2 : Hid (∀ W' : World, Calls Tryd.prog 55 #[.agg #[.int .i64 m4, .int .i64 m5], .agg #[.int .i64 m2, .int .i64 m3]] W' fun e w' => e = .returned (.int .i64 (((D1 + 1) % 8 : Nat) : Int)) ∧ Below W'.heap.size W' w') := fun W' => by
            have hd := (dirs (x := x) (y := y) HTB.out.2).2.2.2.2.2
            obtain ⟨rfl, rfl, rfl, rfl, rfl, rfl⟩ := HM6.out
            rw [h12] at hd
            exact direction_any _ _ _ _ _ (by omega) W' hd.1 hd.2
          obtain ⟨bb, hbb⟩ : ∃ f, f = bitsOf P (m4, m5) := ⟨_, rfl⟩
          obtain ⟨b2, hb2⟩ : ∃ f, f = fillJ bb D1 1 := ⟨_, rfl⟩
          have CF : Hid (∀ W' : World, Calls Tryd.prog 54 #[.agg #[.bool (bb 0), .int .i64 0, .bool (bb 1), .int .i64 0, .bool (bb 2), .int .i64 0, .bool (bb 3), .int .i64 0, .bool (bb 4), .int .i64 0, .bool (bb 5), .int .i64 0, .bool (bb 6), .int .i64 0, .bool (bb 7), .int .i64 0], .int .i64 (D1 : Int), .int .i64 (((D1 + 1) % 8 : Nat) : Int)] W' fun e w' => e = .returned (.agg #[.bool (b2 0), .int .i64 0, .bool (b2 1), .int .i64 0, .bool (b2 2), .int .i64 0, .bool (b2 3), .int .i64 0, .bool (b2 4), .int .i64 0, .bool (b2 5), .int .i64 0, .bool (b2 6), .int .i64 0, .bool (b2 7), .int .i64 0]) ∧ Below W'.heap.size W' w') := fun W' => by
            rw [hb2]
            exact filled_any bb (fun _ => 0) D1 1 h81 (by omega) W'
          have hx : (Instr.index 106 (.agg #[.int .i64 m0, .int .i64 m1, .int .i64 m2, .int .i64 m3, .int .i64 m4, .int .i64 m5]) (.int .i64 2)).run Tryd.prog wr = .ok (.agg #[.int .i64 m4, .int .i64 m5]) wr := by kernel_rfl
          have HFR : Hid (D1 = (3 + 2 * k.toNat) % 8 ∧ bb = bitsOf P (m4, m5) ∧ b2 = fillJ bb D1 1) := ⟨hD1, hbb, hb2⟩
          clear hD1 hbb hb2 h12 h82
          go_wp2
          refine wp_named (fun W0 hW0 => ?_)
          have HB0 : Hid (Below wr.heap.size wr W0) := by
            have : Below wr.heap.size wr W0 := by rw [hW0]; exact bl_alloc (bl_refl _)
            exact this
          obtain ⟨B9, hB9⟩ : ∃ b, b = wr.heap.size := ⟨_, rfl⟩
          have x0 : W0.cell? ⟨B9, 0, none⟩ = some (.int .i64 m4) := by rw [hW0, hB9]; simp [go_sem]
          have x1 : W0.cell? ⟨B9, 1, none⟩ = some (.int .i64 m5) := by rw [hW0, hB9]; simp [go_sem]
          replace y0 : W0.cell? ⟨B6, 0, none⟩ = some (.int .i64 m0) := cl_kept HB0.out y0
          replace y1 : W0.cell? ⟨B6, 1, none⟩ = some (.int .i64 m1) := cl_kept HB0.out y1
          replace y2 : W0.cell? ⟨B6, 2, none⟩ = some (.int .i64 m2) := cl_kept HB0.out y2
          replace y3 : W0.cell? ⟨B6, 3, none⟩ = some (.int .i64 m3) := cl_kept HB0.out y3
          replace y4 : W0.cell? ⟨B6, 4, none⟩ = some (.int .i64 m4) := cl_kept HB0.out y4
          replace y5 : W0.cell? ⟨B6, 5, none⟩ = some (.int .i64 m5) := cl_kept HB0.out y5
          have HP0 : Hid (PtM w W0 rm P) := HS.out.2.kept HB0.out
          have hlk : (Instr.lookup 67 (.map (some rm)) (.agg #[.int .i64 m4, .int .i64 m5]) false).run Tryd.prog W0.drew = .ok (.agg #[.bool (bb 0), .int .i64 0, .bool (bb 1), .int .i64 0, .bool (bb 2), .int .i64 0, .bool (bb 3), .int .i64 0, .bool (bb 4), .int .i64 0, .bool (bb 5), .int .i64 0, .bool (bb 6), .int .i64 0, .bool (bb 7), .int .i64 0]) W0.drew := by
            have h9 := HP0.out.look m4 m5 W0.drew (bl_drew (bl_refl _))
            rw [← HFR.out.2.1] at h9
            exact h9
          have hrm9 : rm < B9 := by rw [hB9]; exact HS.out.2.lt
          have z9 : B9 < W0.heap.size := World.block_lt_of_cell? _ _ x0
          have z6 : B6 < W0.heap.size := World.block_lt_of_cell? _ _ y0
          rw [← hB9]
          clear hW0 hB9 hx
          have kc := Kin.cells W0
          have kn : Nonempty (Kin W0) := ⟨⟨W0, bl_refl _⟩⟩
          have klk : ∀ n : Kin W0, (Instr.lookup 67 (.map (some rm)) (.agg #[.int .i64 m4, .int .i64 m5]) false).run Tryd.prog n.w = .ok (.agg #[.bool (bb 0), .int .i64 0, .bool (bb 1), .int .i64 0, .bool (bb 2), .int .i64 0, .bool (bb 3), .int .i64 0, .bool (bb 4), .int .i64 0, .bool (bb 5), .int .i64 0, .bool (bb 6), .int .i64 0, .bool (bb 7), .int .i64 0]) n.w := fun n => by
            have h9 := HP0.out.look m4 m5 n.w n.h
            rw [← HFR.out.2.1] at h9
            exact h9
          clear hlk
          refine wp_region_kin_last 20 (by kernel_rfl) (by kernel_rfl) (by kernel_rfl) (by rfl) ?_
          simp only [List.take_succ_cons, List.take_zero]
          repeat (go_big_quiet_step ((first | (go_at_call 55; with_reducible exact kin_of (CD1.out _)) | (go_at_call 55; with_reducible exact kin_of (CD2.out _)) | (go_at_call 54; exact kin_of (CF.out _)))))
          refine wpQuiet_nil ?_
          intro wq hw'
          obtain ⟨nq, hw''⟩ := hw'
          have hq : Below W0.heap.size W0 wq := hw'' ▸ nq.h
          obtain ⟨W4, hup, hgw, hP4⟩ := (HP0.out.kept hq).update m4 m5 D1 1
          rw [← HFR.out.2.1, ← HFR.out.2.2] at hup
          have hup' : (Instr.mapUpdate 67 (.map (some rm)) (.agg #[.int .i64 m4, .int .i64 m5]) (.agg #[.bool (b2 0), .int .i64 0, .bool (b2 1), .int .i64 0, .bool (b2 2), .int .i64 0, .bool (b2 3), .int .i64 0, .bool (b2 4), .int .i64 0, .bool (b2 5), .int .i64 0, .bool (b2 6), .int .i64 0, .bool (b2 7), .int .i64 0])).run Tryd.prog wq = .ok () W4 := hup
          have HP4 : Hid (PtM w W4 rm (P ++ [((m4, m5), D1, 1)])) := hP4
          have y0_w10 := cl_kept hq y0
          have y1_w10 := cl_kept hq y1
          have y2_w10 := cl_kept hq y2
          have y3_w10 := cl_kept hq y3
          have y4_w10 := cl_kept hq y4
          have y5_w10 := cl_kept hq y5
          clear hw'' nq hq kc kn klk hup hP4 x0 x1 y0 y1 y2 y3 y4 y5 z9 z6
          simp only [List.drop_succ_cons, List.drop_zero]
          go_wp2
          go_roundg (3 - (2 + 1))
          case measure => omega
          case rel =>
            refine ⟨2 + 1, by omega, rfl, by go_num, ?_, ?_⟩
            · have hne : some B6 ≠ some rm := by simp; omega
              exact ⟨hgw.cell y0_w10 hne, hgw.cell y1_w10 hne, hgw.cell y2_w10 hne, hgw.cell y3_w10 hne, hgw.cell y4_w10 hne, hgw.cell y5_w10 hne⟩
            · have h9 := HP4.out
              rw [HPP.out, List.append_assoc] at h9
              have e9 : (tps (x, y, k)).take (2 + 1) = (tps (x, y, k)).take 2 ++ [((m4, m5), D1, 1)] := by
                obtain ⟨e0, e1, e2, e3, e4, e5⟩ := HM6.out
                simp [tps, e4, e5, HFR.out.1]
              rw [e9]
              exact h9
        · have HPP : Hid (P = (L.take i).flatMap tps ++ (tps (x, y, k)).take 3) := hPP
          clear hPP
          rw [show ((3 : Nat) : Int) = 3 from rfl]
          go_wp2
          go_roundg (L.length - (i + 1))
          case measure => omega
          case rel =>
            refine ⟨i + 1, by omega, rfl, by go_num, ?_⟩
            have h9 := HS.out.2
            rw [HPP.out] at h9
            rw [List.take_succ_eq_append_getElem h1, List.flatMap_append, ← HLI.out]
            simpa [tps] using h9
    · have i1 : ¬ (i : Int) < (L.length : Int) := by omega
      obtain rfl : i = L.length := by omega
      go_wp2
      go_ret
      refine ⟨rm, rfl, ?_⟩
      have h9 := HP.out
      rw [List.take_length] at h9
      exact h9
end Go.Proofs.YtoedcefbmbfnhabDoor
