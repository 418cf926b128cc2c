/- The stars of a paper: creases are drawn at their ends, what has paper all around is gathered, and sorted. -/
import Derived.Test.YtmjneoaciopioaaDoorQmbs
namespace Go.Proofs.YtmjneoaciopioaaDoor
open Go.RowKit Go.ChangeMaps

set_option maxRecDepth 100000 in
set_option maxHeartbeats 3200000 in
theorem starsOf_any (w : World) (cc ra rk : Nat) (ad : Option Addr) (L : List (Int × Int × Int)) (hs : Steps w) (hT : TRow w ad L) (hL : L.length ≤ 300) (hbd : ∀ t ∈ L, (0 ≤ t.1 ∧ t.1 ≤ 8) ∧ (0 ≤ t.2.1 ∧ t.2.1 ≤ 8) ∧ (0 ≤ t.2.2 ∧ t.2.2 ≤ 3))
    (cb : Option Addr) (n ccap : Nat) (ks : List Int) (hC : CRow w cb ks n) (hn : n ≤ 3518437208883) (hG : ∀ i, i < n → GE (ck ks i 0, ck ks i 1, ck ks i 2, ck ks i 3)) :
    Calls Tryd.prog 34 #[.agg #[.slice ad L.length cc, .map (some ra), .map (some rk)], .slice cb n ccap] w fun e w' => StarsR (L.flatMap tps) (kc ks n) w w' e := by
  obtain ⟨P, hP0⟩ : ∃ P, P = L.flatMap tps := ⟨_, rfl⟩
  have CP : Hid (∀ W' : World, Below w.heap.size w W' → Calls Tryd.prog 24 #[.agg #[.slice ad L.length cc, .map (some ra), .map (some rk)]] W' fun e w' => ∃ rm, e = .returned (.map (some rm)) ∧ PtM W' w' rm P) := fun W' hW' => by
    rw [hP0]
    exact pointsOf_any W' cc ra rk ad L (hs.kept hW') (hT.kept hW') hL hbd
  obtain ⟨iS, hIS⟩ := info_parts infStr
  have HIS : Hid (Tryd.prog.info? 45 = some iS ∧ iS.zero = some (.agg #[.int .i64 0, .int .i64 0, .slice none 0 0, .slice none 0 0]) ∧ iS.size = 4 ∧ iS.bytes = 64) := hIS
  have HPL : Hid (P.length ≤ 900) := by
    have : P.length = L.length * 3 := by
      rw [hP0]
      clear hP0 CP hs hT hL hbd
      induction L with
      | nil => rfl
      | cons t l ih =>
        rw [List.flatMap_cons, List.length_append, ih, List.length_cons]
        simp [tps]
        omega
    have : P.length ≤ 900 := by omega
    exact this
  clear hIS
  have HC : Hid (CRow w cb ks n) := hC
  have HG : Hid (∀ i, i < n → GE (ck ks i 0, ck ks i 1, ck ks i 2, ck ks i 3)) := hG
  rw [← hP0]
  clear hP0 hs hT hL hbd hC hG
  go_enter Tryd.func34, Tryd.ntmps34
  go_wp2_with (go_at_call 24; refine (CP.out _ (by with_reducible exact bl_alloc (bl_refl _))).mono ?_; rintro e w1 ⟨rm, rfl, hpm⟩; have HP1 : Hid (PtK w w1 rm P (kc ks 0)) := ⟨hpm.k.1, bl_via (bl_alloc (bl_refl _)) hpm.2.1, Nat.le_trans (bl_alloc (bl_refl _)).size hpm.2.2⟩; clear hpm)
  go_loopg [16] n (fun gk s16 wx => ∃ i : Nat, i ≤ n ∧ gk = n - i ∧ s16 = .int .i64 (i : Int) ∧ PtK w wx rm P (kc ks i))
  case atStart => exact ⟨0, by omega, rfl, rfl, HP1.out⟩
  case round =>
    clear HP1 CP
    obtain ⟨i, hi, rfl, rfl, hP⟩ := hrel
    have HP : Hid (PtK w wr rm P (kc ks i)) := hP
    have hrm : rm < wr.heap.size := hP.lt
    clear hP
    by_cases h1 : i < n
    · have i1 : (i : Int) < (n : Int) := by omega
      have i0 : (0 : Int) ≤ (i : Int) := by omega
      obtain ⟨b7, bo, rfl, c0, c1, c2, c3, c4⟩ := (HC.out.kept HP.out.2.1) i h1
      have zb : b7 < wr.heap.size := World.block_lt_of_cell? _ _ c0
      have hge := HG.out i h1
      obtain ⟨a0, ha0⟩ : ∃ a, a = ck ks i 0 := ⟨_, rfl⟩
      obtain ⟨a1, ha1⟩ : ∃ a, a = ck ks i 1 := ⟨_, rfl⟩
      obtain ⟨a2, ha2⟩ : ∃ a, a = ck ks i 2 := ⟨_, rfl⟩
      obtain ⟨a3, ha3⟩ : ∃ a, a = ck ks i 3 := ⟨_, rfl⟩
      obtain ⟨a4, ha4⟩ : ∃ a, a = ck ks i 4 := ⟨_, rfl⟩
      rw [← ha0] at c0
      rw [← ha1] at c1
      rw [← ha2] at c2
      rw [← ha3] at c3
      rw [← ha4] at c4
      rw [← ha0, ← ha1, ← ha2, ← ha3] at hge
      have hlt : a0 < a2 ∨ (a0 = a2 ∧ a1 < a3) := by simpa [lessB] using hge.1
      have HNE1 : Hid (¬ (a0 = a2 ∧ a1 = a3)) := by
        have : ¬ (a0 = a2 ∧ a1 = a3) := by omega
        exact this
      have HNE2 : Hid (¬ (a2 = a0 ∧ a3 = a1)) := by
        have : ¬ (a2 = a0 ∧ a3 = a1) := by omega
        exact this
      have HA : Hid (a0 = ck ks i 0 ∧ a1 = ck ks i 1 ∧ a2 = ck ks i 2 ∧ a3 = ck ks i 3 ∧ a4 = ck ks i 4) := ⟨ha0, ha1, ha2, ha3, ha4⟩
      clear ha0 ha1 ha2 ha3 ha4 hge hlt
      obtain ⟨fi, hfi⟩ : ∃ f, f = kc ks i := ⟨_, rfl⟩
      rw [← hfi] at HP
      have HFI : Hid (fi = kc ks i) := hfi
      clear hfi
      go_wp2
      refine wp_named (fun W0 hW0 => ?_)
      have HP1 : Hid (PtK w W0 rm P fi) := by
        have : PtK w W0 rm P fi := by rw [hW0]; exact HP.out.kept (bl_alloc (bl_refl _))
        exact this
      obtain ⟨B7, hB7⟩ : ∃ b, b = wr.heap.size := ⟨_, rfl⟩
      have x0 : W0.cell? ⟨B7, 0, none⟩ = some (.int .i64 a0) := by rw [hW0, hB7]; simp [go_sem]
      have x1 : W0.cell? ⟨B7, 1, none⟩ = some (.int .i64 a1) := by rw [hW0, hB7]; simp [go_sem]
      have x2 : W0.cell? ⟨B7, 2, none⟩ = some (.int .i64 a2) := by rw [hW0, hB7]; simp [go_sem]
      have x3 : W0.cell? ⟨B7, 3, none⟩ = some (.int .i64 a3) := by rw [hW0, hB7]; simp [go_sem]
      have x4 : W0.cell? ⟨B7, 4, none⟩ = some (.int .i64 a4) := by rw [hW0, hB7]; simp [go_sem]
      have z7 : B7 < W0.heap.size := World.block_lt_of_cell? _ _ x0
      have hr7 : rm < B7 := by rw [hB7]; exact hrm
      rw [← hB7]
      clear hW0 hB7 c0 c1 c2 c3 c4 zb hrm HP
      obtain ⟨bb, hbb⟩ : ∃ g, g = bitsOf P (a0, a1) := ⟨_, rfl⟩
      obtain ⟨ff, hff⟩ : ∃ g, g = fi (a0, a1) := ⟨_, rfl⟩
      obtain ⟨D, hD⟩ : ∃ d, d = dnum a0 a1 a2 a3 := ⟨_, rfl⟩
      obtain ⟨gg, hgg⟩ : ∃ g, g = putK ff D a4 := ⟨_, rfl⟩
      have h8 : D < 8 := by rw [hD]; exact dnum_lt _ _ _ _
      have CD : Hid (∀ W' : World, Calls Tryd.prog 58 #[.agg #[.int .i64 a0, .int .i64 a1], .agg #[.int .i64 a2, .int .i64 a3]] W' fun e w' => e = .returned (.int .i64 (D : Int)) ∧ Below W'.heap.size W' w') := fun W' => by
        have hc := dnum_cmp (p := a0) (q := a1) (r := a2) (s := a3) HNE1.out
        rw [← hD] at hc
        exact direction_any _ _ _ _ D h8 W' hc.1 hc.2
      have CC : Hid (∀ W' : World, Calls Tryd.prog 63 #[.agg #[.bool (bb 0), .int .i64 (ff 0), .bool (bb 1), .int .i64 (ff 1), .bool (bb 2), .int .i64 (ff 2), .bool (bb 3), .int .i64 (ff 3), .bool (bb 4), .int .i64 (ff 4), .bool (bb 5), .int .i64 (ff 5), .bool (bb 6), .int .i64 (ff 6), .bool (bb 7), .int .i64 (ff 7)], .int .i64 (D : Int), .int .i64 a4] W' fun e w' => e = .returned (.agg #[.bool (bb 0), .int .i64 (gg 0), .bool (bb 1), .int .i64 (gg 1), .bool (bb 2), .int .i64 (gg 2), .bool (bb 3), .int .i64 (gg 3), .bool (bb 4), .int .i64 (gg 4), .bool (bb 5), .int .i64 (gg 5), .bool (bb 6), .int .i64 (gg 6), .bool (bb 7), .int .i64 (gg 7)]) ∧ Below W'.heap.size W' w') := fun W' => by
        rw [hgg]
        exact creased_any bb ff D h8 a4 W'
      have HFR : Hid (bb = bitsOf P (a0, a1) ∧ ff = fi (a0, a1) ∧ D = dnum a0 a1 a2 a3 ∧ gg = putK ff D a4) := ⟨hbb, hff, hD, hgg⟩
      clear hbb hff hD hgg h8
      have kc := Kin.cells W0
      have kn : Nonempty (Kin W0) := ⟨⟨W0, bl_refl _⟩⟩
      have klk : ∀ n : Kin W0, (Instr.lookup 68 (.map (some rm)) (.agg #[.int .i64 a0, .int .i64 a1]) false).run Tryd.prog n.w = .ok (.agg #[.bool (bb 0), .int .i64 (ff 0), .bool (bb 1), .int .i64 (ff 1), .bool (bb 2), .int .i64 (ff 2), .bool (bb 3), .int .i64 (ff 3), .bool (bb 4), .int .i64 (ff 4), .bool (bb 5), .int .i64 (ff 5), .bool (bb 6), .int .i64 (ff 6), .bool (bb 7), .int .i64 (ff 7)]) n.w := fun n => by
        have h9 := HP1.out.look a0 a1 n.w n.h
        rw [← HFR.out.1, ← HFR.out.2.1] at h9
        exact h9
      refine wp_region_kin_last 19 (by kernel_rfl) (by kernel_rfl) (by kernel_rfl) (by rfl) ?_
      simp only [List.take_succ_cons, List.take_zero]
      repeat (go_big_quiet_step ((first | (go_at_call 58; with_reducible exact kin_of (CD.out _)) | (go_at_call 63; exact kin_of (CC.out _)))))
      refine wpQuiet_nil ?_
      intro wq hw'
      obtain ⟨nq, hw''⟩ := hw'
      have hq : Below W0.heap.size W0 wq := hw'' ▸ nq.h
      obtain ⟨W4, hup, hgw, hP4⟩ := (HP1.out.kept hq).update a0 a1 gg
      rw [← HFR.out.1] at hup
      have hup' : (Instr.mapUpdate 68 (.map (some rm)) (.agg #[.int .i64 a0, .int .i64 a1]) (.agg #[.bool (bb 0), .int .i64 (gg 0), .bool (bb 1), .int .i64 (gg 1), .bool (bb 2), .int .i64 (gg 2), .bool (bb 3), .int .i64 (gg 3), .bool (bb 4), .int .i64 (gg 4), .bool (bb 5), .int .i64 (gg 5), .bool (bb 6), .int .i64 (gg 6), .bool (bb 7), .int .i64 (gg 7)])).run Tryd.prog wq = .ok () W4 := hup
      have HP4 : Hid (PtK w W4 rm P (putP (fi) (a0, a1) gg)) := hP4
      have hn7 : some B7 ≠ some rm := by simp; omega
      have X0 := hgw.cell (cl_kept hq x0) hn7
      have X1 := hgw.cell (cl_kept hq x1) hn7
      have X2 := hgw.cell (cl_kept hq x2) hn7
      have X3 := hgw.cell (cl_kept hq x3) hn7
      have X4 := hgw.cell (cl_kept hq x4) hn7
      have Z7 : B7 < W4.heap.size := World.block_lt_of_cell? _ _ X0
      clear hw'' nq hq kc kn klk hup hP4 x0 x1 x2 x3 x4 z7 hn7 CD CC
      simp only [List.drop_succ_cons, List.drop_zero]
      go_wp2
      obtain ⟨f2, hf2⟩ : ∃ f, f = putP (fi) (a0, a1) gg := ⟨_, rfl⟩
      rw [← hf2] at HP4
      have HF2 : Hid (f2 = putP fi (a0, a1) (putK (fi (a0, a1)) (dnum a0 a1 a2 a3) a4)) := by
        have : f2 = putP fi (a0, a1) (putK (fi (a0, a1)) (dnum a0 a1 a2 a3) a4) := by
          rw [hf2, HFR.out.2.2.2, HFR.out.2.2.1, HFR.out.2.1]
        exact this
      clear hf2 HFR hgw hup'
      have HP2 : Hid (PtK w W4 rm P f2) := HP4.out
      clear HP4 HP1
      have x0 := X0
      have x1 := X1
      have x2 := X2
      have x3 := X3
      have x4 := X4
      have z7 := Z7
      clear X0 X1 X2 X3 X4 Z7
      obtain ⟨bb, hbb⟩ : ∃ g, g = bitsOf P (a2, a3) := ⟨_, rfl⟩
      obtain ⟨ff, hff⟩ : ∃ g, g = f2 (a2, a3) := ⟨_, rfl⟩
      obtain ⟨D, hD⟩ : ∃ d, d = dnum a2 a3 a0 a1 := ⟨_, rfl⟩
      obtain ⟨gg, hgg⟩ : ∃ g, g = putK ff D a4 := ⟨_, rfl⟩
      have h8 : D < 8 := by rw [hD]; exact dnum_lt _ _ _ _
      have CD : Hid (∀ W' : World, Calls Tryd.prog 58 #[.agg #[.int .i64 a2, .int .i64 a3], .agg #[.int .i64 a0, .int .i64 a1]] W' fun e w' => e = .returned (.int .i64 (D : Int)) ∧ Below W'.heap.size W' w') := fun W' => by
        have hc := dnum_cmp (p := a2) (q := a3) (r := a0) (s := a1) HNE2.out
        rw [← hD] at hc
        exact direction_any _ _ _ _ D h8 W' hc.1 hc.2
      have CC : Hid (∀ W' : World, Calls Tryd.prog 63 #[.agg #[.bool (bb 0), .int .i64 (ff 0), .bool (bb 1), .int .i64 (ff 1), .bool (bb 2), .int .i64 (ff 2), .bool (bb 3), .int .i64 (ff 3), .bool (bb 4), .int .i64 (ff 4), .bool (bb 5), .int .i64 (ff 5), .bool (bb 6), .int .i64 (ff 6), .bool (bb 7), .int .i64 (ff 7)], .int .i64 (D : Int), .int .i64 a4] W' fun e w' => e = .returned (.agg #[.bool (bb 0), .int .i64 (gg 0), .bool (bb 1), .int .i64 (gg 1), .bool (bb 2), .int .i64 (gg 2), .bool (bb 3), .int .i64 (gg 3), .bool (bb 4), .int .i64 (gg 4), .bool (bb 5), .int .i64 (gg 5), .bool (bb 6), .int .i64 (gg 6), .bool (bb 7), .int .i64 (gg 7)]) ∧ Below W'.heap.size W' w') := fun W' => by
        rw [hgg]
        exact creased_any bb ff D h8 a4 W'
      have HFR : Hid (bb = bitsOf P (a2, a3) ∧ ff = f2 (a2, a3) ∧ D = dnum a2 a3 a0 a1 ∧ gg = putK ff D a4) := ⟨hbb, hff, hD, hgg⟩
      clear hbb hff hD hgg h8
      have kc := Kin.cells W4
      have kn : Nonempty (Kin W4) := ⟨⟨W4, bl_refl _⟩⟩
      have klk : ∀ n : Kin W4, (Instr.lookup 68 (.map (some rm)) (.agg #[.int .i64 a2, .int .i64 a3]) false).run Tryd.prog n.w = .ok (.agg #[.bool (bb 0), .int .i64 (ff 0), .bool (bb 1), .int .i64 (ff 1), .bool (bb 2), .int .i64 (ff 2), .bool (bb 3), .int .i64 (ff 3), .bool (bb 4), .int .i64 (ff 4), .bool (bb 5), .int .i64 (ff 5), .bool (bb 6), .int .i64 (ff 6), .bool (bb 7), .int .i64 (ff 7)]) n.w := fun n => by
        have h9 := HP2.out.look a2 a3 n.w n.h
        rw [← HFR.out.1, ← HFR.out.2.1] at h9
        exact h9
      refine wp_region_kin_last 19 (by kernel_rfl) (by kernel_rfl) (by kernel_rfl) (by rfl) ?_
      simp only [List.take_succ_cons, List.take_zero]
      repeat (go_big_quiet_step ((first | (go_at_call 58; with_reducible exact kin_of (CD.out _)) | (go_at_call 63; exact kin_of (CC.out _)))))
      refine wpQuiet_nil ?_
      intro wq hw'
      obtain ⟨nq, hw''⟩ := hw'
      have hq : Below W4.heap.size W4 wq := hw'' ▸ nq.h
      obtain ⟨W5, hup, hgw, hP4⟩ := (HP2.out.kept hq).update a2 a3 gg
      rw [← HFR.out.1] at hup
      have hup' : (Instr.mapUpdate 68 (.map (some rm)) (.agg #[.int .i64 a2, .int .i64 a3]) (.agg #[.bool (bb 0), .int .i64 (gg 0), .bool (bb 1), .int .i64 (gg 1), .bool (bb 2), .int .i64 (gg 2), .bool (bb 3), .int .i64 (gg 3), .bool (bb 4), .int .i64 (gg 4), .bool (bb 5), .int .i64 (gg 5), .bool (bb 6), .int .i64 (gg 6), .bool (bb 7), .int .i64 (gg 7)])).run Tryd.prog wq = .ok () W5 := hup
      have HP4 : Hid (PtK w W5 rm P (putP (f2) (a2, a3) gg)) := hP4
      have hn7 : some B7 ≠ some rm := by simp; omega
      have X0 := hgw.cell (cl_kept hq x0) hn7
      have X1 := hgw.cell (cl_kept hq x1) hn7
      have X2 := hgw.cell (cl_kept hq x2) hn7
      have X3 := hgw.cell (cl_kept hq x3) hn7
      have X4 := hgw.cell (cl_kept hq x4) hn7
      have Z7 : B7 < W5.heap.size := World.block_lt_of_cell? _ _ X0
      clear hw'' nq hq kc kn klk hup hP4 x0 x1 x2 x3 x4 z7 hn7 CD CC
      simp only [List.drop_succ_cons, List.drop_zero]
      go_wp2
      go_roundg (n - (i + 1))
      case measure => omega
      case rel =>
        refine ⟨i + 1, by omega, rfl, by go_num, ?_⟩
        have h9 := HP4.out
        have e9 : putP (f2) (a2, a3) gg = kc ks (i + 1) := by
          rw [HFR.out.2.2.2, HFR.out.2.2.1, HFR.out.2.1, HF2.out, HFI.out]
          obtain ⟨e0, e1, e2, e3, e4⟩ := HA.out
          rw [e0, e1, e2, e3, e4]
          exact kc_put ks i (fun e => by
            have := HNE1.out
            rw [e0, e1, e2, e3] at this
            simp only [Prod.mk.injEq] at e
            exact this e)
        rw [e9] at h9
        exact h9
    · have i1 : ¬ (i : Int) < (n : Int) := by omega
      obtain rfl : i = n := by omega
      obtain ⟨f, hf⟩ : ∃ f, f = kc ks i := ⟨_, rfl⟩
      rw [← hf] at HP
      have HF0 : Hid (f = kc ks i) := hf
      clear hf
      obtain ⟨⟨ls, c, hem, hgd, hlk⟩, hBw, hlo⟩ := HP.out
      have HL : Hid (Pm.Good ls c ∧ ∀ pt, (Pm.lk ls pt).getD (arv (fun _ => false) (fun _ => 0)) = arv (bitsOf P pt) (f pt)) := ⟨hgd, hlk⟩
      have hrange := run_range_pm hem
      have HST : Hid (ST w (wr.alloc (.mapIter (some rm) c #[] c)) rm wr.heap.size c ls [] (.slice none 0 0) f []) := ST.start hem hBw hlo
      obtain ⟨r, hr⟩ : ∃ r, r = wr.heap.size := ⟨_, rfl⟩
      obtain ⟨WR, hWR⟩ : ∃ W, W = wr.alloc (.mapIter (some rm) c #[] c) := ⟨_, rfl⟩
      rw [← hr, ← hWR] at HST hrange
      clear hr hWR hem hgd hlk hBw hlo HP hrm
      go_wp2
      go_loopg [8] (ls.length + 1) (fun gk s8 wx => ∃ (vis : List ((Int × Int) × Value × Nat)) (A : List SA), gk = ls.length + 1 - vis.length ∧ VisOK P f ls vis A ∧ ST w wx rm r c ls (stamps vis) s8 f A)
      case atStart => exact ⟨[], [], rfl, VisOK.nil P f ls, HST.out⟩
      case round =>
        clear HST hrange
        obtain ⟨vis, A, rfl, hV, hS⟩ := hrel
        have HV : Hid (VisOK P f ls vis A) := hV
        obtain ⟨a8, c8, rfl⟩ := own_slice hS.own
        have HS : Hid (ST w wr rm r c ls (stamps vis) (.slice a8 A.length c8) f A) := hS
        clear hV hS
        go_wp2_with (at_next; refine wpList_next_pm rfl _ rfl rm r c ls (stamps vis) rfl HS.out.em HS.out.it HL.out.1 (by have := HS.out.hr; omega) ?done ?more)
        case done =>
          intro hall
          have HD : Hid (AllCome ls (stamps vis)) := hall
          clear hall
          have CSRT : Hid (Calls Tryd.prog 66 #[.slice a8 A.length c8, .func (.func 67) #[] #[]] wr fun e w' => e = .returned (.tuple #[]) ∧ StarsR P f w w' (.returned (.slice a8 A.length c8))) := by
            have hA9 : A.length ≤ 900 := Nat.le_trans (HV.out.bound HL.out.1) HPL.out
            have hown := HS.out.own
            rw [← flat_of HS.out.ok] at hown
            have h1 := sortStars_any wr (r + 1) c8 a8 (A.map toSB) (by rw [List.length_map]; exact hown) (by rw [List.length_map]; omega)
            rw [List.length_map] at h1
            refine h1.mono ?_
            rintro e w9 ⟨rfl, Bs, hp, hs, hst, hg⟩
            exact ⟨rfl, StarsR.of HS.out HV.out HL.out.1 HL.out.2 HD.out hp hs hst hg⟩
          go_wp2_with (go_at_call 66; refine CSRT.out.mono ?_; rintro e w9 ⟨rfl, hR⟩; have HR9 : Hid (StarsR P f w w9 (.returned (.slice a8 A.length c8))) := hR; clear hR)
          go_ret
          rw [← HF0.out]
          exact HR9.out
        case more =>
          intro px py xv st W1 hone hstp hen
          have hxv : xv = arv (bitsOf P (px, py)) (f (px, py)) := by
            obtain ⟨j, hj⟩ := List.getElem?_of_mem hone.1
            have h1 := Pm.lk_at (k := (px, py)) HL.out.1.1 hj rfl
            have h2 := HL.out.2 (px, py)
            rw [h1] at h2
            exact h2
          subst hxv
          have HS1 : Hid (ST w W1 rm r c ls (stamps vis ++ [st]) (.slice a8 A.length c8) f A) := HS.out.next hstp.1 hstp.2.1 hstp.2.2
          have HX : Hid (OneCame ls (stamps vis) px py (arv (bitsOf P (px, py)) (f (px, py))) st) := hone
          obtain ⟨bb, hbb⟩ : ∃ g, g = bitsOf P (px, py) := ⟨_, rfl⟩
          obtain ⟨ff, hff⟩ : ∃ g, g = f (px, py) := ⟨_, rfl⟩
          have HFR : Hid (bb = bitsOf P (px, py) ∧ ff = f (px, py)) := ⟨hbb, hff⟩
          have hen' : (Instr.entry (.pointer (some ⟨r, 0, none⟩))).run Tryd.prog W1 = .ok (.tuple #[.agg #[.int .i64 px, .int .i64 py], .agg #[.bool (bb 0), .int .i64 (ff 0), .bool (bb 1), .int .i64 (ff 1), .bool (bb 2), .int .i64 (ff 2), .bool (bb 3), .int .i64 (ff 3), .bool (bb 4), .int .i64 (ff 4), .bool (bb 5), .int .i64 (ff 5), .bool (bb 6), .int .i64 (ff 6), .bool (bb 7), .int .i64 (ff 7)]]) W1 := by
            rw [← hbb, ← hff] at hen
            exact hen
          have CS : Hid (∀ W' : World, Calls Tryd.prog 64 #[.agg #[.bool (bb 0), .int .i64 (ff 0), .bool (bb 1), .int .i64 (ff 1), .bool (bb 2), .int .i64 (ff 2), .bool (bb 3), .int .i64 (ff 3), .bool (bb 4), .int .i64 (ff 4), .bool (bb 5), .int .i64 (ff 5), .bool (bb 6), .int .i64 (ff 6), .bool (bb 7), .int .i64 (ff 7)], .agg #[.int .i64 px, .int .i64 py]] W' fun e w' => StarR ff px py W' w' e) := fun W' => star_any bb ff px py W'
          have CW : Hid (∀ W' : World, Calls Tryd.prog 65 #[.agg #[.bool (bb 0), .int .i64 (ff 0), .bool (bb 1), .int .i64 (ff 1), .bool (bb 2), .int .i64 (ff 2), .bool (bb 3), .int .i64 (ff 3), .bool (bb 4), .int .i64 (ff 4), .bool (bb 5), .int .i64 (ff 5), .bool (bb 6), .int .i64 (ff 6), .bool (bb 7), .int .i64 (ff 7)]] W' fun e w' => e = .returned (.bool ((List.range 8).all bb)) ∧ Below W'.heap.size W' w') := fun W' => within_any bb ff W'
          have zr : r < W1.heap.size := HS1.out.lt
          clear hen hbb hff hone hstp
          go_upto_region 13 with (go_at_call 64; refine (CS.out _).mono ?_; rintro e w5 ⟨aD, cD, aK, cK, rfl, rD, rK, hb5, lD, lK⟩; have hab := (AB.new (W1.alloc (.cells #[.int .i64 px, .int .i64 py] 43)) bb ff).kept hb5; rw [World.size_alloc] at hab; have H5 : Hid (Row w5 aD (sdirs ff 8) ∧ Row w5 aK (skinds ff 8) ∧ Below W1.heap.size W1 w5 ∧ (∀ a : Addr, aD = some a → W1.heap.size ≤ a.block) ∧ (∀ a : Addr, aK = some a → W1.heap.size ≤ a.block) ∧ AB w5 (W1.heap.size + 1) bb ff) := ⟨rD, rK, bl_via (bl_alloc (bl_alloc (bl_refl _))) hb5, fun a e => Nat.le_trans (bl_alloc (bl_alloc (bl_refl _))).size (lD a e), fun a e => Nat.le_trans (bl_alloc (bl_alloc (bl_refl _))).size (lK a e), hab⟩; clear rD rK hb5 lD lK hab)
          refine wp_named (fun W6 hW6 => ?_)
          obtain ⟨B11, hB11⟩ : ∃ b, b = w5.heap.size := ⟨_, rfl⟩
          have HB6 : Hid (Below w5.heap.size w5 W6) := by
            have : Below w5.heap.size w5 W6 := by rw [hW6]; exact bl_alloc (bl_refl _)
            exact this
          have HS6 : Hid (ST w W6 rm r c ls (stamps vis ++ [st]) (.slice a8 A.length c8) f A) := HS1.out.kept (bl_via H5.out.2.2.1 HB6.out)
          have y0 : W6.cell? ⟨B11, 0, none⟩ = some (.int .i64 px) := by rw [hW6, hB11]; simp [go_sem]
          have y1 : W6.cell? ⟨B11, 1, none⟩ = some (.int .i64 py) := by rw [hW6, hB11]; simp [go_sem]
          have y2 : W6.cell? ⟨B11, 2, none⟩ = some (.slice aD (sdirs ff 8).length cD) := by rw [hW6, hB11]; simp [go_sem]
          have y3 : W6.cell? ⟨B11, 3, none⟩ = some (.slice aK (skinds ff 8).length cK) := by rw [hW6, hB11]; simp [go_sem]
          have z11 : B11 < W6.heap.size := World.block_lt_of_cell? _ _ y0
          have Y0 : Hid (W6.cell? ⟨B11, 0, none⟩ = some (.int .i64 px) ∧ W6.cell? ⟨B11, 1, none⟩ = some (.int .i64 py) ∧ W6.cell? ⟨B11, 2, none⟩ = some (.slice aD (sdirs ff 8).length cD) ∧ W6.cell? ⟨B11, 3, none⟩ = some (.slice aK (skinds ff 8).length cK)) := ⟨y0, y1, y2, y3⟩
          have HAB : Hid (AB W6 (W1.heap.size + 1) bb ff) := H5.out.2.2.2.2.2.kept HB6.out
          rw [← hB11]
          clear hW6 hB11
          by_cases ql : (0 : Int) < ((sdirs ff 8).length : Int)
          rotate_left
          · have HV8 : Hid (VisOK P f ls (vis ++ [((px, py), arv (bitsOf P (px, py)) (f (px, py)), st)]) A) := HV.out.no HX.out (by
              rw [gstar, ← HFR.out.2]
              have : ¬ 0 < (sdirs ff 8).length := by omega
              simp [this])
            go_wp2
            go_roundg (ls.length + 1 - (vis ++ [((px, py), arv (bitsOf P (px, py)) (f (px, py)), st)]).length)
            case measure =>
              have h8 := HV8.out.len
              rw [List.length_append, List.length_singleton] at h8 ⊢
              omega
            case rel =>
              refine ⟨vis ++ [((px, py), arv (bitsOf P (px, py)) (f (px, py)), st)], A, rfl, HV8.out, ?_⟩
              rw [stamps_add]
              exact HS6.out
          · have HLEN : Hid (0 < (sdirs ff 8).length) := by
              have : 0 < (sdirs ff 8).length := by omega
              exact this
            obtain ⟨q0, q1, _, _⟩ := HAB.out 0 (by omega)
            obtain ⟨q2, q3, _, _⟩ := HAB.out 1 (by omega)
            obtain ⟨q4, q5, _, _⟩ := HAB.out 2 (by omega)
            obtain ⟨q6, q7, _, _⟩ := HAB.out 3 (by omega)
            obtain ⟨q8, q9, _, _⟩ := HAB.out 4 (by omega)
            obtain ⟨q10, q11, _, _⟩ := HAB.out 5 (by omega)
            obtain ⟨q12, q13, _, _⟩ := HAB.out 6 (by omega)
            obtain ⟨q14, q15, _, _⟩ := HAB.out 7 (by omega)
            simp only [Nat.zero_mul, Nat.zero_add, Nat.one_mul, Nat.reduceMul, Nat.reduceAdd] at q0 q1 q2 q3 q4 q5 q6 q7 q8 q9 q10 q11 q12 q13 q14 q15
            have z10 : W1.heap.size + 1 < W6.heap.size := World.block_lt_of_cell? _ _ q0
            obtain ⟨wb, hwb⟩ : ∃ x, x = (List.range 8).all bb := ⟨_, rfl⟩
            have HWB : Hid (wb = (List.range 8).all bb) := hwb
            rw [← hwb] at CW
            clear hwb
            cases wb
            · have HV8 : Hid (VisOK P f ls (vis ++ [((px, py), arv (bitsOf P (px, py)) (f (px, py)), st)]) A) := HV.out.no HX.out (by
                rw [gstar, ← HFR.out.1, ← HWB.out]
                simp)
              go_wp2_with (go_at_call 65; refine (CW.out _).mono ?_; rintro e w7 ⟨rfl, hb7⟩; have H7 : Hid (Below W6.heap.size W6 w7) := hb7; have y0 := cl_kept hb7 Y0.out.1; have y1 := cl_kept hb7 Y0.out.2.1; have y2 := cl_kept hb7 Y0.out.2.2.1; have y3 := cl_kept hb7 Y0.out.2.2.2; have z11 : B11 < w7.heap.size := World.block_lt_of_cell? _ _ y0; clear hb7)
              go_roundg (ls.length + 1 - (vis ++ [((px, py), arv (bitsOf P (px, py)) (f (px, py)), st)]).length)
              case measure =>
                have h8 := HV8.out.len
                rw [List.length_append, List.length_singleton] at h8 ⊢
                omega
              case rel =>
                refine ⟨vis ++ [((px, py), arv (bitsOf P (px, py)) (f (px, py)), st)], A, rfl, HV8.out, ?_⟩
                rw [stamps_add]
                exact HS6.out.kept H7.out
            · have HG8 : Hid (gstar P f (px, py) = true) := by
                have : gstar P f (px, py) = true := by
                  rw [gstar, ← HFR.out.1, ← HFR.out.2, ← HWB.out]
                  simp [HLEN.out]
                exact this
              go_upto_region 14 with (go_at_call 65; refine (CW.out _).mono ?_; rintro e w7 ⟨rfl, hb7⟩; have H7 : Hid (Below W6.heap.size W6 w7) := hb7; have y0 := cl_kept hb7 Y0.out.1; have y1 := cl_kept hb7 Y0.out.2.1; have y2 := cl_kept hb7 Y0.out.2.2.1; have y3 := cl_kept hb7 Y0.out.2.2.2; have z11 : B11 < w7.heap.size := World.block_lt_of_cell? _ _ y0; clear hb7)
              have HB7 : Hid (Below w5.heap.size w5 (w7.alloc (.cells #[.int .i64 px, .int .i64 py, .slice aD (sdirs ff 8).length cD, .slice aK (skinds ff 8).length cK] 45))) := bl_via HB6.out (bl_via H7.out (bl_alloc (bl_refl _)))
              have HS8 : Hid (ST w (w7.alloc (.cells #[.int .i64 px, .int .i64 py, .slice aD (sdirs ff 8).length cD, .slice aK (skinds ff 8).length cK] 45)) rm r c ls (stamps vis ++ [st]) (.slice a8 A.length c8) f A) := HS6.out.kept (bl_via H7.out (bl_alloc (bl_refl _)))
              have hA9 : A.length ≤ 900 := Nat.le_trans (HV.out.bound HL.out.1) HPL.out
              go_wp2_with (at_builtin; refine wpList_append_own_at _ rfl (.tmp 77) (.tmp 79) 38 rfl (r + 1) 45 iS (.agg #[.int .i64 0, .int .i64 0, .slice none 0 0, .slice none 0 0]) 4 64 Tryd.underlying38 HIS.out.1 HIS.out.2.1 HIS.out.2.2.1 HIS.out.2.2.2 rfl (by decide) (.slice a8 A.length c8) A.length (A.flatMap encS) rfl HS8.out.own ⟨w7.heap.size, 0, none⟩ 1 1 [.int .i64 px, .int .i64 py, .slice aD (sdirs ff 8).length cD, .slice aK (skinds ff 8).length cK] rfl rfl (cell_four_new _ _ _ _ _ _) (four_cells _ _ _ _ rfl rfl) (by unfold maxLen; omega) (by omega) (by have := HS8.out.lt; omega) ?growS)
              case growS =>
                intro v' w8 hown hgrow _ hblk
                have HV8 : Hid (VisOK P f ls (vis ++ [((px, py), arv (bitsOf P (px, py)) (f (px, py)), st)]) (A ++ [((px, py), .slice aD (sdirs ff 8).length cD, .slice aK (skinds ff 8).length cK)])) := HV.out.yes HX.out HG8.out
                have HS9 : Hid (ST w w8 rm r c ls (stamps vis ++ [st]) v' f (A ++ [((px, py), .slice aD (sdirs ff 8).length cD, .slice aK (skinds ff 8).length cK)])) := by
                  refine HS8.out.more hgrow ?_ (hblk.imp id (fun e => e.trans (by simp))) ?_
                  · exact hown
                  · have hD := H5.out.1.kept HB7.out
                    have hK := H5.out.2.1.kept HB7.out
                    have h0 := HLEN.out
                    rw [HFR.out.2] at hD hK h0 ⊢
                    exact StarOK.of hD hK h0 H5.out.2.2.2.1 H5.out.2.2.2.2.1 zr (fun q hq => (HS1.out.own.lt q hq).2)
                clear hown hgrow hblk
                go_wp2
                go_roundg (ls.length + 1 - (vis ++ [((px, py), arv (bitsOf P (px, py)) (f (px, py)), st)]).length)
                case measure =>
                  have h8 := HV8.out.len
                  rw [List.length_append, List.length_singleton] at h8 ⊢
                  omega
                case rel =>
                  refine ⟨vis ++ [((px, py), arv (bitsOf P (px, py)) (f (px, py)), st)], _, rfl, HV8.out, ?_⟩
                  rw [stamps_add]
                  exact HS9.out
end Go.Proofs.YtmjneoaciopioaaDoor
