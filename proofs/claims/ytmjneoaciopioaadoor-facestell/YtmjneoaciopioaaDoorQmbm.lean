/- A part of the proof of a law on sheets. -/
import Derived.Test.YtmjneoaciopioaaDoorQmbf
import Derived.Test.YtmjneoaciopioaaDoorQmal
import Derived.Test.YtmjneoaciopioaaDoorQmbl
namespace Go.Proofs.YtmjneoaciopioaaDoor
open Go.RowKit Go.ChangeMaps

/-- No two of the first n creases are on one edge. -/
def CrOne (ks : List Int) (n : Nat) : Prop := ∀ i j, i < j → j < n → (ck ks i 0, ck ks i 1, ck ks i 2, ck ks i 3) ≠ (ck ks j 0, ck ks j 1, ck ks j 2, ck ks j 3)
theorem kdn_not {ks : List Int} {e : Int × Int × Int × Int} : ∀ {n : Nat}, (∀ i, i < n → e ≠ (ck ks i 0, ck ks i 1, ck ks i 2, ck ks i 3)) → kdn ks n e = 0
  | 0, _ => rfl
  | n + 1, h => by
    unfold kdn
    rw [if_neg (h n (by omega))]
    exact kdn_not (fun i hi => h i (by omega))
theorem kdn_at {ks : List Int} {e : Int × Int × Int × Int} {i : Nat} : ∀ {n : Nat}, CrOne ks n → i < n → e = (ck ks i 0, ck ks i 1, ck ks i 2, ck ks i 3) → kdn ks n e = ck ks i 4
  | 0, _, h, _ => by omega
  | n + 1, hc, h, he => by
    unfold kdn
    by_cases hi : i = n
    · subst hi
      rw [if_pos he]
    · rw [if_neg (fun e2 => hc i n (by omega) (by omega) (he.symm.trans e2))]
      exact kdn_at (fun a b hab hb => hc a b hab (by omega)) (by omega) he
theorem CRow.kept2 {w w' : World} {cb : Option Addr} {ks : List Int} {n : Nat} (h : CRow w cb ks n) (hb : Below w.heap.size w w') : CRow w' cb ks n := h.kept hb

set_option maxRecDepth 100000 in
set_option maxHeartbeats 3200000 in
theorem kindOf_any (w : World) (W H : Value) (mk : Value) (cb : Option Addr) (n ccap : Nat) (ks : List Int) (p q r s : Int) (hC : CRow w cb ks n) (h1 : CrOne ks n) (hn : n ≤ 3518437208883) :
    Calls Tryd.prog 36 #[.agg #[W, H, mk, .slice cb n ccap], .agg #[.int .i64 p, .int .i64 q, .int .i64 r, .int .i64 s]] w fun e w' => e = .returned (.int .i64 (kdn ks n (p, q, r, s))) ∧ Below w.heap.size w w' := by
  have HC : Hid (CRow w cb ks n) := hC
  have H1 : Hid (CrOne ks n) := h1
  have he := eql27
  clear hC h1
  go_enter Tryd.func36, Tryd.ntmps36
  go_wp2
  go_loopg [5] n (fun gk s5 wx => ∃ i : Nat, i ≤ n ∧ gk = n - i ∧ s5 = .int .i64 (i : Int) ∧ (∀ k, k < i → (p, q, r, s) ≠ (ck ks k 0, ck ks k 1, ck ks k 2, ck ks k 3)) ∧ Below w.heap.size w wx ∧ (wx.cell? ⟨w.heap.size, 3, none⟩ = some (.slice cb n ccap) ∧ wx.cell? ⟨w.heap.size + 1, 0, none⟩ = some (.int .i64 p) ∧ wx.cell? ⟨w.heap.size + 1, 1, none⟩ = some (.int .i64 q) ∧ wx.cell? ⟨w.heap.size + 1, 2, none⟩ = some (.int .i64 r) ∧ wx.cell? ⟨w.heap.size + 1, 3, none⟩ = some (.int .i64 s)))
  case atStart => exact ⟨0, by omega, rfl, rfl, fun k h => by omega, bl_alloc (bl_alloc (bl_refl _)), by simp [go_sem]⟩
  case round =>
    obtain ⟨i, hi, rfl, rfl, hno, hB, p3, d0, d1, d2, d3⟩ := hrel
    have HB : Hid (Below w.heap.size w wr ∧ ∀ k, k < i → (p, q, r, s) ≠ (ck ks k 0, ck ks k 1, ck ks k 2, ck ks k 3)) := ⟨hB, hno⟩
    clear hB hno
    have z0 : w.heap.size < wr.heap.size := World.block_lt_of_cell? _ _ p3
    have z1 : w.heap.size + 1 < wr.heap.size := World.block_lt_of_cell? _ _ d0
    by_cases h1 : i < n
    · have i1 : (i : Int) < (n : Int) := by omega
      have i0 : (0 : Int) ≤ (i : Int) := by omega
      obtain ⟨bb, bo, rfl, c0, c1, c2, c3, c4⟩ := (HC.out.kept HB.out.1) i h1
      have zb : bb < wr.heap.size := World.block_lt_of_cell? _ _ c0
      obtain ⟨a0, ha0⟩ : ∃ a, a = ck ks i 0 := ⟨_, rfl⟩
      obtain ⟨a1, ha1⟩ : ∃ a, a = ck ks i 1 := ⟨_, rfl⟩
      obtain ⟨a2, ha2⟩ : ∃ a, a = ck ks i 2 := ⟨_, rfl⟩
      obtain ⟨a3, ha3⟩ : ∃ a, a = ck ks i 3 := ⟨_, rfl⟩
      obtain ⟨a4, ha4⟩ : ∃ a, a = ck ks i 4 := ⟨_, rfl⟩
      rw [← ha0] at c0
      rw [← ha1] at c1
      rw [← ha2] at c2
      rw [← ha3] at c3
      rw [← ha4] at c4
      have HA : Hid ((a0, a1, a2, a3) = (ck ks i 0, ck ks i 1, ck ks i 2, ck ks i 3) ∧ a4 = ck ks i 4) := ⟨by rw [ha0, ha1, ha2, ha3], ha4⟩
      clear ha0 ha1 ha2 ha3 ha4
      cases hs : sameB a0 a1 a2 a3 p q r s
      · have hne : Hid ((p, q, r, s) ≠ (ck ks i 0, ck ks i 1, ck ks i 2, ck ks i 3)) := by
          have : (p, q, r, s) ≠ (ck ks i 0, ck ks i 1, ck ks i 2, ck ks i 3) := by
            rw [← HA.out.1]
            intro e
            simp only [Prod.mk.injEq] at e
            obtain ⟨rfl, rfl, rfl, rfl⟩ := e
            simp [sameB] at hs
          exact this
        go_wp2
        go_quiet (fail)
        go_wp2
        go_roundg (n - (i + 1))
        case measure => omega
        case rel =>
          refine ⟨i + 1, by omega, rfl, by go_num, fun k hk => ?_, bl_drewN HB.out.1, p3, d0, d1, d2, d3⟩
          by_cases e : k = i
          · subst e
            exact hne.out
          · exact HB.out.2 k (by omega)
      · have heq : Hid ((p, q, r, s) = (ck ks i 0, ck ks i 1, ck ks i 2, ck ks i 3)) := by
          have : (p, q, r, s) = (ck ks i 0, ck ks i 1, ck ks i 2, ck ks i 3) := by
            rw [← HA.out.1]
            simp only [sameB, decide_eq_true_eq] at hs
            obtain ⟨rfl, rfl, rfl, rfl⟩ := hs
            rfl
          exact this
        go_wp2
        go_quiet (fail)
        generalize hwd : World.drewN wr _ = wd
        have p3d : wd.cell? ⟨w.heap.size, 3, none⟩ = some (.slice (some ⟨bb, bo, none⟩) n ccap) := by rw [← hwd]; exact p3
        have c4d : wd.cell? ⟨bb, bo + i * 5 + 4, none⟩ = some (.int .i64 a4) := by rw [← hwd]; exact c4
        have HBd : Hid (Below w.heap.size w wd) := by rw [← hwd]; exact bl_drewN HB.out.1
        clear hwd p3 c0 c1 c2 c3 c4 d0 d1 d2 d3
        go_wp2
        go_ret
        refine ⟨?_, HBd.out⟩
        rw [kdn_at H1.out h1 heq.out, HA.out.2]
        rfl
    · have i1 : ¬ (i : Int) < (n : Int) := by omega
      obtain rfl : i = n := by omega
      go_wp2
      go_ret
      refine ⟨?_, HB.out.1⟩
      rw [kdn_not HB.out.2]
      rfl

/-- The line of an edge: the first way along which its ends are alike. -/
theorem line_along {t : Int × Int × Int} {p q r s : Int} (h : hasT t (p, q, r, s) = true) (hb : (0 ≤ t.1 ∧ t.1 ≤ 8) ∧ (0 ≤ t.2.1 ∧ t.2.1 ≤ 8) ∧ (0 ≤ t.2.2 ∧ t.2.2 ≤ 3)) :
    ∃ V : Nat, V ≤ 3 ∧ lnW (p, q, r, s) = (V : Int) ∧ lnC (p, q, r, s) = alongOf (V : Int) p q ∧ alongOf (V : Int) p q = alongOf (V : Int) r s ∧ ∀ v : Nat, v < V → alongOf (v : Int) p q ≠ alongOf (v : Int) r s := by
  obtain ⟨x, y, k⟩ := t
  simp only [hasT] at h hb
  rw [hasB_or] at h
  obtain ⟨hx, hy, hk⟩ := hb
  have hk4 : k = 0 ∨ k = 1 ∨ k = 2 ∨ k = 3 := by omega
  have key : p ≠ r → q ≠ s → (s < q → p + q = r + s) ∧ (¬ s < q → p - q = r - s ∧ p + q ≠ r + s) := by
    rcases hk4 with rfl | rfl | rfl | rfl <;> simp only [e0_0, e0_1, e0_2, e0_3, e1_0, e1_1, e1_2, e1_3, e2_0, e2_1, e2_2, e2_3] at h <;> omega
  clear h hk4 hx hy hk
  by_cases c1 : p = r
  · exact ⟨0, by omega, by simp [lnW, c1], by simp [lnC, c1, alongOf], by simp [alongOf, c1], fun v hv => by omega⟩
  · by_cases c2 : q = s
    · refine ⟨1, by omega, by simp [lnW, c1, c2], by simp [lnC, c1, c2, alongOf], by simp [alongOf, c2], fun v hv => ?_⟩
      obtain rfl : v = 0 := by omega
      simpa [alongOf] using c1
    · obtain ⟨k1, k2⟩ := key c1 c2
      by_cases c3 : s < q
      · refine ⟨2, by omega, by simp [lnW, c1, c2, c3], by simp [lnC, c1, c2, c3, alongOf], by simp [alongOf]; exact k1 c3, fun v hv => ?_⟩
        have : v = 0 ∨ v = 1 := by omega
        rcases this with rfl | rfl
        · simpa [alongOf] using c1
        · simpa [alongOf] using c2
      · obtain ⟨k3, k4⟩ := k2 c3
        refine ⟨3, by omega, by simp [lnW, c1, c2, c3], by simp [lnC, c1, c2, c3, alongOf], by simp [alongOf]; exact k3, fun v hv => ?_⟩
        have : v = 0 ∨ v = 1 ∨ v = 2 := by omega
        rcases this with rfl | rfl | rfl
        · simpa [alongOf] using c1
        · simpa [alongOf] using c2
        · simpa [alongOf] using k4

theorem valueOf_kin (y a b : Int) (w : World) (h1 : 0 ≤ a ∧ a ≤ 100) (h2 : 0 ≤ b ∧ b ≤ 100) :
    Calls Tryd.prog 72 #[.int .i64 y, .agg #[.int .i64 a, .int .i64 b]] w fun e w' => e = .returned (.int .i64 (alongOf y a b)) ∧ Below w.heap.size w w' := by
  refine (valueOf_any y a b w (by omega) (by omega) (by omega) (by omega)).mono ?_
  rintro e w' ⟨rfl, o, rfl⟩
  exact ⟨rfl, bl_alloc (bl_refl _)⟩

set_option maxRecDepth 100000 in
set_option maxHeartbeats 3200000 in
theorem refLine_any (p q r s : Int) (w : World) (V : Nat) (hV : V ≤ 3) (h1 : (0 ≤ p ∧ p ≤ 100) ∧ (0 ≤ q ∧ q ≤ 100)) (h2 : (0 ≤ r ∧ r ≤ 100) ∧ (0 ≤ s ∧ s ≤ 100)) (heq : alongOf (V : Int) p q = alongOf (V : Int) r s) (hne : ∀ v : Nat, v < V → alongOf (v : Int) p q ≠ alongOf (v : Int) r s) :
    Calls Tryd.prog 47 #[.agg #[.int .i64 p, .int .i64 q, .int .i64 r, .int .i64 s]] w fun e w' => e = .returned (.agg #[.int .i64 (V : Int), .int .i64 (alongOf (V : Int) p q)]) ∧ Below w.heap.size w w' := by
  have H1 : Hid (((0 ≤ p ∧ p ≤ 100) ∧ (0 ≤ q ∧ q ≤ 100)) ∧ ((0 ≤ r ∧ r ≤ 100) ∧ (0 ≤ s ∧ s ≤ 100))) := ⟨h1, h2⟩
  have HE : Hid (alongOf (V : Int) p q = alongOf (V : Int) r s ∧ ∀ v : Nat, v < V → alongOf (v : Int) p q ≠ alongOf (v : Int) r s) := ⟨heq, hne⟩
  clear h1 h2 heq hne
  go_enter Tryd.func47, Tryd.ntmps47
  go_wp2
  go_loopg [3] V (fun gk s3 wx => ∃ v : Nat, v ≤ V ∧ gk = V - v ∧ s3 = .int .i64 (v : Int) ∧ Below w.heap.size w wx ∧ (wx.cell? ⟨w.heap.size, 0, none⟩ = some (.int .i64 p) ∧ wx.cell? ⟨w.heap.size, 1, none⟩ = some (.int .i64 q) ∧ wx.cell? ⟨w.heap.size, 2, none⟩ = some (.int .i64 r) ∧ wx.cell? ⟨w.heap.size, 3, none⟩ = some (.int .i64 s)) ∧ (wx.cell? ⟨w.heap.size + 1, 0, none⟩ = some (.int .i64 0) ∧ wx.cell? ⟨w.heap.size + 1, 1, none⟩ = some (.int .i64 0) ∧ wx.frozen? ⟨w.heap.size + 1, 0, none⟩ = false ∧ wx.frozen? ⟨w.heap.size + 1, 1, none⟩ = false))
  case atStart => exact ⟨0, by omega, rfl, rfl, bl_alloc (bl_alloc (bl_refl _)), by simp [go_sem], by simp [go_sem]⟩
  case round =>
    obtain ⟨v, hv, rfl, rfl, hB, ⟨d0, d1, d2, d3⟩, e0, e1, g0, g1⟩ := hrel
    have HB : Hid (Below w.heap.size w wr) := hB
    have HD : Hid ((wr.cell? ⟨w.heap.size, 0, none⟩ = some (.int .i64 p) ∧ wr.cell? ⟨w.heap.size, 1, none⟩ = some (.int .i64 q) ∧ wr.cell? ⟨w.heap.size, 2, none⟩ = some (.int .i64 r) ∧ wr.cell? ⟨w.heap.size, 3, none⟩ = some (.int .i64 s)) ∧ (wr.cell? ⟨w.heap.size + 1, 0, none⟩ = some (.int .i64 0) ∧ wr.cell? ⟨w.heap.size + 1, 1, none⟩ = some (.int .i64 0) ∧ wr.frozen? ⟨w.heap.size + 1, 0, none⟩ = false ∧ wr.frozen? ⟨w.heap.size + 1, 1, none⟩ = false)) := ⟨⟨d0, d1, d2, d3⟩, e0, e1, g0, g1⟩
    clear hB
    have z0 : w.heap.size < wr.heap.size := World.block_lt_of_cell? _ _ d0
    have z1 : w.heap.size + 1 < wr.heap.size := World.block_lt_of_cell? _ _ e0
    have kc := Kin.cells wr
    have kn : Nonempty (Kin wr) := ⟨⟨wr, bl_refl _⟩⟩
    by_cases h1 : v < V
    · have hne : ¬ alongOf (v : Int) p q = alongOf (v : Int) r s := HE.out.2 v h1
      have CV : Hid (∀ (a b : Int) (W' : World), ((a = p ∧ b = q) ∨ (a = r ∧ b = s)) → Calls Tryd.prog 72 #[.int .i64 (v : Int), .agg #[.int .i64 a, .int .i64 b]] W' fun e w' => e = .returned (.int .i64 (alongOf (v : Int) a b)) ∧ Below W'.heap.size W' w') := fun a b W' h => by
        rcases h with ⟨rfl, rfl⟩ | ⟨rfl, rfl⟩
        · exact valueOf_kin _ _ _ W' H1.out.1.1 H1.out.1.2
        · exact valueOf_kin _ _ _ W' H1.out.2.1 H1.out.2.2
      go_wp2
      refine wp_region_kin (by kernel_rfl) (by kernel_rfl) ?_
      repeat (go_big_quiet_step ((go_at_call 72; exact kin_of (CV.out _ _ _ (by first | exact Or.inl ⟨rfl, rfl⟩ | exact Or.inr ⟨rfl, rfl⟩)))))
      refine wpQuiet_nil ?_
      intro wq hw'
      obtain ⟨nq, hw''⟩ := hw'
      have hq : Below wr.heap.size wr wq := hw'' ▸ nq.h
      have HQ : Hid (Below wr.heap.size wr wq) := hq
      clear hw'' nq hq kc kn d0 d1 d2 d3 e0 e1 g0 g1
      go_wp2
      go_roundg (V - (v + 1))
      case measure => omega
      case rel =>
        exact ⟨v + 1, by omega, rfl, by go_num, bl_via HB.out HQ.out, ⟨cl_kept HQ.out HD.out.1.1, cl_kept HQ.out HD.out.1.2.1, cl_kept HQ.out HD.out.1.2.2.1, cl_kept HQ.out HD.out.1.2.2.2⟩, cl_kept HQ.out HD.out.2.1, cl_kept HQ.out HD.out.2.2.1, (HQ.out.frozen (p := ⟨w.heap.size + 1, 0, none⟩) z1).trans HD.out.2.2.2.1, (HQ.out.frozen (p := ⟨w.heap.size + 1, 1, none⟩) z1).trans HD.out.2.2.2.2⟩
    · obtain rfl : v = V := by omega
      have heq : alongOf (v : Int) r s = alongOf (v : Int) p q := HE.out.1.symm
      have CV : Hid (∀ (a b : Int) (W' : World), ((a = p ∧ b = q) ∨ (a = r ∧ b = s)) → Calls Tryd.prog 72 #[.int .i64 (v : Int), .agg #[.int .i64 a, .int .i64 b]] W' fun e w' => e = .returned (.int .i64 (alongOf (v : Int) a b)) ∧ Below W'.heap.size W' w') := fun a b W' h => by
        rcases h with ⟨rfl, rfl⟩ | ⟨rfl, rfl⟩
        · exact valueOf_kin _ _ _ W' H1.out.1.1 H1.out.1.2
        · exact valueOf_kin _ _ _ W' H1.out.2.1 H1.out.2.2
      go_wp2
      refine wp_region_kin (by kernel_rfl) (by kernel_rfl) ?_
      repeat (go_big_quiet_step ((go_at_call 72; exact kin_of (CV.out _ _ _ (by first | exact Or.inl ⟨rfl, rfl⟩ | exact Or.inr ⟨rfl, rfl⟩)))))
      refine wpQuiet_nil ?_
      intro wq hw'
      obtain ⟨nq, hw''⟩ := hw'
      have hq : Below wr.heap.size wr wq := hw'' ▸ nq.h
      have HQ : Hid (Below wr.heap.size wr wq) := hq
      have D0 := cl_kept hq d0
      have D1 := cl_kept hq d1
      have zq : w.heap.size < wq.heap.size := World.block_lt_of_cell? _ _ D0
      clear hw'' nq hq kc kn d0 d1 d2 d3 e0 e1 g0 g1
      go_wp2_with (go_at_call 72; refine (CV.out _ _ _ (by exact Or.inl ⟨rfl, rfl⟩)).mono ?_; rintro e w9 ⟨rfl, hb⟩; have HB9 : Hid (Below wr.heap.size wr w9) := bl_via HQ.out hb; have r0 := cl_kept HB9.out HD.out.2.1; have r1 := cl_kept HB9.out HD.out.2.2.1; have t0 := (HB9.out.frozen (p := ⟨w.heap.size + 1, 0, none⟩) z1).trans HD.out.2.2.2.1; have t1 := (HB9.out.frozen (p := ⟨w.heap.size + 1, 1, none⟩) z1).trans HD.out.2.2.2.2; have z9 : w.heap.size + 1 < w9.heap.size := World.block_lt_of_cell? _ _ r0; clear hb)
      refine bodyPost_ret (v := .agg #[.int .i64 (v : Int), .int .i64 (alongOf (v : Int) p q)]) (by simp [results, Tryd.results47, go_sem, r0, r1]) rfl ⟨rfl, ?_⟩
      with_reducible repeat (first | exact bl_via HB.out HB9.out | refine bl_set ?_ ?_)
      all_goals (dsimp only; omega)

/-- What the search asks of an edge. -/
theorem facesCl_any (w : World) (pb n cc ra rk : Nat) (ad : Option Addr) (kd : Int × Int × Int × Int → Int) (nr q0 q1 q2 q3 qt : Int) (hK : KL w rk kd) (p0 : w.cell? ⟨pb, 0, none⟩ = some (.slice ad n cc)) (p1 : w.cell? ⟨pb, 1, none⟩ = some (.map (some ra))) (p2 : w.cell? ⟨pb, 2, none⟩ = some (.map (some rk))) :
    Calls Tryd.prog 54 #[.int .i64 nr, .agg #[.int .i64 q0, .int .i64 q1, .int .i64 q2, .int .i64 q3, .int .i64 qt], .pointer (some ⟨pb, 0, none⟩)] w fun e w' => e = .returned (.bool (decide (kd (q0, q1, q2, q3) = 0))) ∧ Below w.heap.size w w' := by
  have CK : Hid (∀ W' : World, Below w.heap.size w W' → Calls Tryd.prog 55 #[.agg #[.slice ad n cc, .map (some ra), .map (some rk)], .agg #[.int .i64 q0, .int .i64 q1, .int .i64 q2, .int .i64 q3]] W' fun e w' => e = .returned (.int .i64 (kd (q0, q1, q2, q3))) ∧ Below W'.heap.size W' w') := fun W' hW' => kind_any W' ad n cc ra rk kd q0 q1 q2 q3 (hK.kept hW')
  have zp : pb < w.heap.size := World.block_lt_of_cell? _ _ p0
  clear hK
  obtain ⟨z, hz⟩ : ∃ z, z = kd (q0, q1, q2, q3) := ⟨_, rfl⟩
  rw [← hz] at CK ⊢
  clear hz
  go_enter Tryd.func54, Tryd.ntmps54
  go_wp2_with (go_at_call 55; refine (CK.out _ (by with_reducible exact bl_alloc (bl_refl _))).mono ?_; rintro e w2 ⟨rfl, hb⟩; have HB : Hid (Below w.heap.size w w2) := bl_via (bl_alloc (bl_refl _)) hb; clear hb)
  exact bodyPost_ret (v := .bool (decide (z = 0))) (by simp [results, Tryd.results54, go_sem]; rw [Bool.eq_iff_iff]; simp) rfl ⟨rfl, HB.out⟩
set_option maxRecDepth 100000 in
set_option maxHeartbeats 3200000 in
theorem pfaces_any (w : World) (cc ra rk : Nat) (ad : Option Addr) (L : List (Int × Int × Int)) (kd : Int × Int × Int × Int → Int) (hs : Steps w) (hPA : PA w ad ra L) (hK : KL w rk kd) (hL : L.length ≤ 300) (hnd : L.Nodup) (hbd : ∀ t ∈ L, (0 ≤ t.1 ∧ t.1 ≤ 8) ∧ (0 ≤ t.2.1 ∧ t.2.1 ≤ 8) ∧ (0 ≤ t.2.2 ∧ t.2.2 ≤ 3)) :
    Calls Tryd.prog 23 #[.agg #[.slice ad L.length cc, .map (some ra), .map (some rk)]] w fun e w' => ∃ g part, e = .returned (.slice (some ⟨g, 0, none⟩) L.length L.length) ∧ ZRow w' g L.length part ∧ PartsOk (fun e => decide (kd e = 0)) L part ∧ w.heap.size ≤ g ∧ Below w.heap.size w w' := by
  have CP : Hid (∀ W' : World, Below w.heap.size w W' → W'.cell? ⟨w.heap.size, 0, none⟩ = some (.slice ad L.length cc) → W'.cell? ⟨w.heap.size, 1, none⟩ = some (.map (some ra)) → W'.cell? ⟨w.heap.size, 2, none⟩ = some (.map (some rk)) → Calls Tryd.prog 53 #[.agg #[.slice ad L.length cc, .map (some ra), .map (some rk)], .func (.func 54) #[] #[.pointer (some ⟨w.heap.size, 0, none⟩)]] W' fun e w' => ∃ g part, e = .returned (.slice (some ⟨g, 0, none⟩) L.length L.length) ∧ ZRow w' g L.length part ∧ PartsOk (fun e => decide (kd e = 0)) L part ∧ W'.heap.size ≤ g ∧ Below W'.heap.size W' w') := fun W' hW' p0 p1 p2 =>
    parts_faces W' cc ra rk ad L w.heap.size _ (hs.kept hW') (hPA.kept hW') hL hnd hbd (fun nr q0 q1 q2 q3 qt W2 h2 => facesCl_any W2 w.heap.size L.length cc ra rk ad kd nr q0 q1 q2 q3 qt (hK.kept (bl_via hW' h2)) (cl_kept h2 p0) (cl_kept h2 p1) (cl_kept h2 p2))
  clear hs hPA hK hnd hbd
  go_enter Tryd.func23, Tryd.ntmps23
  go_wp2_with (go_at_call 53; refine (CP.out _ (by with_reducible exact bl_alloc (bl_refl _)) (by simp [go_sem]) (by simp [go_sem]) (by simp [go_sem])).mono ?_; rintro e w1 ⟨g, part, rfl, hZ, hPO, hg, hb⟩; have HW : Hid (ZRow w1 g L.length part ∧ PartsOk (fun e => decide (kd e = 0)) L part ∧ w.heap.size ≤ g ∧ Below w.heap.size w w1) := ⟨hZ, hPO, Nat.le_trans (by simp) hg, bl_via (bl_alloc (bl_refl _)) hb⟩; clear hZ hPO hg hb)
  go_ret
  exact ⟨g, part, rfl, HW.out.1, HW.out.2.1, HW.out.2.2.1, HW.out.2.2.2⟩

end Go.Proofs.YtmjneoaciopioaaDoor
