/- A part of the proof of cutTells_holds. -/
import Derived.Test.YtmjhfdohcghhoaaGreatDoorQlau
import Derived.Test.YtmjhfdohcghhoaaGreatDoorQlbc
import Derived.Test.YtmjhfdohcghhoaaGreatDoorQlan
import Derived.Test.YtmjhfdohcghhoaaGreatDoorQlba
import Derived.Test.YtmjhfdohcghhoaaGreatDoorQlay
import Derived.Test.YtmjhfdohcghhoaaGreatDoorQlac
namespace Go.Proofs.YtmjhfdohcghhoaaGreatDoor
open Go.RowKit Go.ChangeMaps

/-- The kinds of the first n creases, by their edges; 0: none. -/
def kdn (ks : List Int) : Nat → Int × Int × Int × Int → Int
  | 0, _ => 0
  | i + 1, e => if e = (ck ks i 0, ck ks i 1, ck ks i 2, ck ks i 3) then ck ks i 4 else kdn ks i e
theorem kf_kdn (ks : List Int) (e : Int × Int × Int × Int) : ∀ n, (kf ks n e).getD (.int .i64 0) = .int .i64 (kdn ks n e)
  | 0 => rfl
  | i + 1 => by
    unfold kf kdn
    split
    · rfl
    · exact kf_kdn ks e i
/-- What is asked of the map of kinds. -/
def KL (w : World) (rk : Nat) (kd : Int × Int × Int × Int → Int) : Prop := ∀ (e : Int × Int × Int × Int) (wx : World), Below w.heap.size w wx → (Instr.lookup 65 (.map (some rk)) (ek e) false).run Tryz.prog wx = .ok (.int .i64 (kd e)) wx
theorem KL.kept {w w' : World} {rk : Nat} {kd : Int × Int × Int × Int → Int} (h : KL w rk kd) (hb : Below w.heap.size w w') : KL w' rk kd := fun e wx hx => h e wx (bl_via hb hx)
theorem zero3 (w : World) : (zeroValue 3).run Tryz.prog w = .ok (.int .i64 0) w := by kernel_rfl
theorem PK.kl {w0 w : World} {base ra rk n : Nat} {vt : Value} {L : List (Int × Int × Int)} {G : Int × Int × Int × Int → List Int} {ks : List Int} (h : PK w0 w base ra rk vt L G (kf ks n)) : KL w rk (kdn ks n) := fun e wx hx => by
  obtain ⟨ls, c, h4, h4g, h4k⟩ := h.2.2.1
  have := lookup27 Tryz.underlying65 zero3 (h4.grown (bl_grown hx) (by simp)) h4g e
  rw [h4k e, kf_kdn] at this
  exact this

theorem kind_any (w : World) (ad : Option Addr) (n cc ra rk : Nat) (kd : Int × Int × Int × Int → Int) (p q r s : Int) (hK : KL w rk kd) :
    Calls Tryz.prog 139 #[.agg #[.slice ad n cc, .map (some ra), .map (some rk)], .agg #[.int .i64 p, .int .i64 q, .int .i64 r, .int .i64 s]] w fun e w' => e = .returned (.int .i64 (kd (p, q, r, s))) ∧ Below w.heap.size w w' := by
  have hl := hK (p, q, r, s) ((w.alloc (.cells #[.slice ad n cc, .map (some ra), .map (some rk)] 67)).alloc (.cells #[.int .i64 p, .int .i64 q, .int .i64 r, .int .i64 s] 79)) (bl_alloc (bl_alloc (bl_refl _)))
  simp only [ek] at hl
  clear hK
  go_enter Tryz.func139, Tryz.ntmps139
  go_wp2
  go_ret
  exact ⟨rfl, bl_alloc (bl_alloc (bl_refl _))⟩

theorem ret_agg2 {a b a' b' : Int} (h1 : a = a') (h2 : b = b') : Ending.returned (.agg #[.int .i64 a, .int .i64 b]) = .returned (.agg #[.int .i64 a', .int .i64 b']) := by subst h1 h2; rfl
set_option maxHeartbeats 1600000 in
theorem paperLine_any (p q r s : Int) (w : World) (h1 : 0 ≤ p ∧ p ≤ 100) (h2 : 0 ≤ q ∧ q ≤ 100) :
    Calls Tryz.prog 141 #[.agg #[.int .i64 p, .int .i64 q, .int .i64 r, .int .i64 s]] w fun e w' => e = .returned (.agg #[.int .i64 (lnW (p, q, r, s)), .int .i64 (lnC (p, q, r, s))]) ∧ Below w.heap.size w w' := by
  obtain ⟨a1, a2⟩ := h1
  obtain ⟨b1, b2⟩ := h2
  by_cases c1 : p = r
  · subst c1
    go_enter Tryz.func141, Tryz.ntmps141
    go_wp2
    refine bodyPost_ret (v := .agg #[_, _]) (by simp [results, Tryz.results141, go_sem]; exact ⟨rfl, rfl⟩) rfl ⟨?_, ?_⟩
    · exact ret_agg2 (by simp [lnW]) (by simp [lnC])
    · with_reducible repeat (first | exact bl_refl _ | refine bl_alloc ?_ | refine bl_set ?_ ?_)
      all_goals (simp)
  · by_cases c2 : q = s
    · subst c2
      go_enter Tryz.func141, Tryz.ntmps141
      go_wp2
      refine bodyPost_ret (v := .agg #[_, _]) (by simp [results, Tryz.results141, go_sem]; exact ⟨rfl, rfl⟩) rfl ⟨?_, ?_⟩
      · exact ret_agg2 (by simp [lnW, c1]) (by simp [lnC, c1])
      · with_reducible repeat (first | exact bl_refl _ | refine bl_alloc ?_ | refine bl_set ?_ ?_)
        all_goals (simp)
    · by_cases c3 : s < q
      · go_enter Tryz.func141, Tryz.ntmps141
        go_wp2
        refine bodyPost_ret (v := .agg #[_, _]) (by simp [results, Tryz.results141, go_sem]; exact ⟨rfl, rfl⟩) rfl ⟨?_, ?_⟩
        · exact ret_agg2 (by simp [lnW, c1, c2, c3]) (by simp [lnC, c1, c2, c3])
        · with_reducible repeat (first | exact bl_refl _ | refine bl_alloc ?_ | refine bl_set ?_ ?_)
          all_goals (simp)
      · go_enter Tryz.func141, Tryz.ntmps141
        go_wp2
        refine bodyPost_ret (v := .agg #[_, _]) (by simp [results, Tryz.results141, go_sem]; exact ⟨rfl, rfl⟩) rfl ⟨?_, ?_⟩
        · exact ret_agg2 (by simp only [lnW, if_neg c1, if_neg c2, if_neg (show ¬ s < q by omega)]) (by simp only [lnC, if_neg c1, if_neg c2, if_neg (show ¬ s < q by omega)])
        · with_reducible repeat (first | exact bl_refl _ | refine bl_alloc ?_ | refine bl_set ?_ ?_)
          all_goals (simp)

/-- A map as the code has it. -/
def mv (m : M6) : Value := .agg #[.int .i64 m.1, .int .i64 m.2.1, .int .i64 m.2.2.1, .int .i64 m.2.2.2.1, .int .i64 m.2.2.2.2.1, .int .i64 m.2.2.2.2.2]
theorem six_cases {o : Nat} (h : o < 6) : o = 0 ∨ o = 1 ∨ o = 2 ∨ o = 3 ∨ o = 4 ∨ o = 5 := by omega

/-- No two of the first n creases are on one edge. -/
def CrOne (ks : List Int) (n : Nat) : Prop := ∀ i j, i < j → j < n → (ck ks i 0, ck ks i 1, ck ks i 2, ck ks i 3) ≠ (ck ks j 0, ck ks j 1, ck ks j 2, ck ks j 3)
theorem kdn_not {ks : List Int} {e : Int × Int × Int × Int} : ∀ {n : Nat}, (∀ i, i < n → e ≠ (ck ks i 0, ck ks i 1, ck ks i 2, ck ks i 3)) → kdn ks n e = 0
  | 0, _ => rfl
  | n + 1, h => by
    unfold kdn
    rw [if_neg (h n (by omega))]
    exact kdn_not (fun i hi => h i (by omega))
theorem kdn_at {ks : List Int} {e : Int × Int × Int × Int} {i : Nat} : ∀ {n : Nat}, CrOne ks n → i < n → e = (ck ks i 0, ck ks i 1, ck ks i 2, ck ks i 3) → kdn ks n e = ck ks i 4
  | 0, _, h, _ => by omega
  | n + 1, hc, h, he => by
    unfold kdn
    by_cases hi : i = n
    · subst hi
      rw [if_pos he]
    · rw [if_neg (fun e2 => hc i n (by omega) (by omega) (he.symm.trans e2))]
      exact kdn_at (fun a b hab hb => hc a b hab (by omega)) (by omega) he
set_option maxRecDepth 100000 in
set_option maxHeartbeats 3200000 in
theorem kindOf_any (w : World) (W H : Value) (mk : Value) (cb : Option Addr) (n ccap : Nat) (ks : List Int) (p q r s : Int) (hC : CRow w cb ks n) (h1 : CrOne ks n) (hn : n ≤ 3518437208883) :
    Calls Tryz.prog 59 #[.agg #[W, H, mk, .slice cb n ccap], .agg #[.int .i64 p, .int .i64 q, .int .i64 r, .int .i64 s]] w fun e w' => e = .returned (.int .i64 (kdn ks n (p, q, r, s))) ∧ Below w.heap.size w w' := by
  have HC : Hid (CRow w cb ks n) := hC
  have H1 : Hid (CrOne ks n) := h1
  have he := eql27
  clear hC h1
  go_enter Tryz.func59, Tryz.ntmps59
  go_wp2
  go_loopg [5] n (fun gk s5 wx => ∃ i : Nat, i ≤ n ∧ gk = n - i ∧ s5 = .int .i64 (i : Int) ∧ (∀ k, k < i → (p, q, r, s) ≠ (ck ks k 0, ck ks k 1, ck ks k 2, ck ks k 3)) ∧ Below w.heap.size w wx ∧ (wx.cell? ⟨w.heap.size, 3, none⟩ = some (.slice cb n ccap) ∧ wx.cell? ⟨w.heap.size + 1, 0, none⟩ = some (.int .i64 p) ∧ wx.cell? ⟨w.heap.size + 1, 1, none⟩ = some (.int .i64 q) ∧ wx.cell? ⟨w.heap.size + 1, 2, none⟩ = some (.int .i64 r) ∧ wx.cell? ⟨w.heap.size + 1, 3, none⟩ = some (.int .i64 s)))
  case atStart => exact ⟨0, by omega, rfl, rfl, fun k h => by omega, bl_alloc (bl_alloc (bl_refl _)), by simp [go_sem]⟩
  case round =>
    obtain ⟨i, hi, rfl, rfl, hno, hB, p3, d0, d1, d2, d3⟩ := hrel
    have HB : Hid (Below w.heap.size w wr ∧ ∀ k, k < i → (p, q, r, s) ≠ (ck ks k 0, ck ks k 1, ck ks k 2, ck ks k 3)) := ⟨hB, hno⟩
    clear hB hno
    have z0 : w.heap.size < wr.heap.size := World.block_lt_of_cell? _ _ p3
    have z1 : w.heap.size + 1 < wr.heap.size := World.block_lt_of_cell? _ _ d0
    by_cases h1 : i < n
    · have i1 : (i : Int) < (n : Int) := by omega
      have i0 : (0 : Int) ≤ (i : Int) := by omega
      obtain ⟨bb, bo, rfl, c0, c1, c2, c3, c4⟩ := (HC.out.kept HB.out.1) i h1
      have zb : bb < wr.heap.size := World.block_lt_of_cell? _ _ c0
      obtain ⟨a0, ha0⟩ : ∃ a, a = ck ks i 0 := ⟨_, rfl⟩
      obtain ⟨a1, ha1⟩ : ∃ a, a = ck ks i 1 := ⟨_, rfl⟩
      obtain ⟨a2, ha2⟩ : ∃ a, a = ck ks i 2 := ⟨_, rfl⟩
      obtain ⟨a3, ha3⟩ : ∃ a, a = ck ks i 3 := ⟨_, rfl⟩
      obtain ⟨a4, ha4⟩ : ∃ a, a = ck ks i 4 := ⟨_, rfl⟩
      rw [← ha0] at c0
      rw [← ha1] at c1
      rw [← ha2] at c2
      rw [← ha3] at c3
      rw [← ha4] at c4
      have HA : Hid ((a0, a1, a2, a3) = (ck ks i 0, ck ks i 1, ck ks i 2, ck ks i 3) ∧ a4 = ck ks i 4) := ⟨by rw [ha0, ha1, ha2, ha3], ha4⟩
      clear ha0 ha1 ha2 ha3 ha4
      cases hs : sameB a0 a1 a2 a3 p q r s
      · have hne : Hid ((p, q, r, s) ≠ (ck ks i 0, ck ks i 1, ck ks i 2, ck ks i 3)) := by
          have : (p, q, r, s) ≠ (ck ks i 0, ck ks i 1, ck ks i 2, ck ks i 3) := by
            rw [← HA.out.1]
            intro e
            simp only [Prod.mk.injEq] at e
            obtain ⟨rfl, rfl, rfl, rfl⟩ := e
            simp [sameB] at hs
          exact this
        go_wp2
        go_quiet (fail)
        go_wp2
        go_roundg (n - (i + 1))
        case measure => omega
        case rel =>
          refine ⟨i + 1, by omega, rfl, by go_num, fun k hk => ?_, bl_drewN HB.out.1, p3, d0, d1, d2, d3⟩
          by_cases e : k = i
          · subst e
            exact hne.out
          · exact HB.out.2 k (by omega)
      · have heq : Hid ((p, q, r, s) = (ck ks i 0, ck ks i 1, ck ks i 2, ck ks i 3)) := by
          have : (p, q, r, s) = (ck ks i 0, ck ks i 1, ck ks i 2, ck ks i 3) := by
            rw [← HA.out.1]
            simp only [sameB, decide_eq_true_eq] at hs
            obtain ⟨rfl, rfl, rfl, rfl⟩ := hs
            rfl
          exact this
        go_wp2
        go_quiet (fail)
        generalize hwd : World.drewN wr _ = wd
        have p3d : wd.cell? ⟨w.heap.size, 3, none⟩ = some (.slice (some ⟨bb, bo, none⟩) n ccap) := by rw [← hwd]; exact p3
        have c4d : wd.cell? ⟨bb, bo + i * 5 + 4, none⟩ = some (.int .i64 a4) := by rw [← hwd]; exact c4
        have HBd : Hid (Below w.heap.size w wd) := by rw [← hwd]; exact bl_drewN HB.out.1
        clear hwd p3 c0 c1 c2 c3 c4 d0 d1 d2 d3
        go_wp2
        go_ret
        refine ⟨?_, HBd.out⟩
        rw [kdn_at H1.out h1 heq.out, HA.out.2]
        rfl
    · have i1 : ¬ (i : Int) < (n : Int) := by omega
      obtain rfl : i = n := by omega
      go_wp2
      go_ret
      refine ⟨?_, HB.out.1⟩
      rw [kdn_not HB.out.2]
      rfl

/-- The line of an edge: the first way along which its ends are alike. -/
theorem line_along {t : Int × Int × Int} {p q r s : Int} (h : hasT t (p, q, r, s) = true) (hb : (0 ≤ t.1 ∧ t.1 ≤ 8) ∧ (0 ≤ t.2.1 ∧ t.2.1 ≤ 8) ∧ (0 ≤ t.2.2 ∧ t.2.2 ≤ 3)) :
    ∃ V : Nat, V ≤ 3 ∧ lnW (p, q, r, s) = (V : Int) ∧ lnC (p, q, r, s) = alongOf (V : Int) p q ∧ alongOf (V : Int) p q = alongOf (V : Int) r s ∧ ∀ v : Nat, v < V → alongOf (v : Int) p q ≠ alongOf (v : Int) r s := by
  obtain ⟨x, y, k⟩ := t
  simp only [hasT] at h hb
  rw [hasB_or] at h
  obtain ⟨hx, hy, hk⟩ := hb
  have hk4 : k = 0 ∨ k = 1 ∨ k = 2 ∨ k = 3 := by omega
  have key : p ≠ r → q ≠ s → (s < q → p + q = r + s) ∧ (¬ s < q → p - q = r - s ∧ p + q ≠ r + s) := by
    rcases hk4 with rfl | rfl | rfl | rfl <;> simp only [e0_0, e0_1, e0_2, e0_3, e1_0, e1_1, e1_2, e1_3, e2_0, e2_1, e2_2, e2_3] at h <;> omega
  clear h hk4 hx hy hk
  by_cases c1 : p = r
  · exact ⟨0, by omega, by simp [lnW, c1], by simp [lnC, c1, alongOf], by simp [alongOf, c1], fun v hv => by omega⟩
  · by_cases c2 : q = s
    · refine ⟨1, by omega, by simp [lnW, c1, c2], by simp [lnC, c1, c2, alongOf], by simp [alongOf, c2], fun v hv => ?_⟩
      obtain rfl : v = 0 := by omega
      simpa [alongOf] using c1
    · obtain ⟨k1, k2⟩ := key c1 c2
      by_cases c3 : s < q
      · refine ⟨2, by omega, by simp [lnW, c1, c2, c3], by simp [lnC, c1, c2, c3, alongOf], by simp [alongOf]; exact k1 c3, fun v hv => ?_⟩
        have : v = 0 ∨ v = 1 := by omega
        rcases this with rfl | rfl
        · simpa [alongOf] using c1
        · simpa [alongOf] using c2
      · obtain ⟨k3, k4⟩ := k2 c3
        refine ⟨3, by omega, by simp [lnW, c1, c2, c3], by simp [lnC, c1, c2, c3, alongOf], by simp [alongOf]; exact k3, fun v hv => ?_⟩
        have : v = 0 ∨ v = 1 ∨ v = 2 := by omega
        rcases this with rfl | rfl | rfl
        · simpa [alongOf] using c1
        · simpa [alongOf] using c2
        · simpa [alongOf] using k4

theorem valueOf_kin (y a b : Int) (w : World) (h1 : 0 ≤ a ∧ a ≤ 100) (h2 : 0 ≤ b ∧ b ≤ 100) :
    Calls Tryz.prog 66 #[.int .i64 y, .agg #[.int .i64 a, .int .i64 b]] w fun e w' => e = .returned (.int .i64 (alongOf y a b)) ∧ Below w.heap.size w w' := by
  refine (valueOf_any y a b w (by omega) (by omega) (by omega) (by omega)).mono ?_
  rintro e w' ⟨rfl, o, rfl⟩
  exact ⟨rfl, bl_alloc (bl_refl _)⟩

set_option maxRecDepth 100000 in
set_option maxHeartbeats 3200000 in
theorem refLine_any (p q r s : Int) (w : World) (V : Nat) (hV : V ≤ 3) (h1 : (0 ≤ p ∧ p ≤ 100) ∧ (0 ≤ q ∧ q ≤ 100)) (h2 : (0 ≤ r ∧ r ≤ 100) ∧ (0 ≤ s ∧ s ≤ 100)) (heq : alongOf (V : Int) p q = alongOf (V : Int) r s) (hne : ∀ v : Nat, v < V → alongOf (v : Int) p q ≠ alongOf (v : Int) r s) :
    Calls Tryz.prog 62 #[.agg #[.int .i64 p, .int .i64 q, .int .i64 r, .int .i64 s]] w fun e w' => e = .returned (.agg #[.int .i64 (V : Int), .int .i64 (alongOf (V : Int) p q)]) ∧ Below w.heap.size w w' := by
  have H1 : Hid (((0 ≤ p ∧ p ≤ 100) ∧ (0 ≤ q ∧ q ≤ 100)) ∧ ((0 ≤ r ∧ r ≤ 100) ∧ (0 ≤ s ∧ s ≤ 100))) := ⟨h1, h2⟩
  have HE : Hid (alongOf (V : Int) p q = alongOf (V : Int) r s ∧ ∀ v : Nat, v < V → alongOf (v : Int) p q ≠ alongOf (v : Int) r s) := ⟨heq, hne⟩
  clear h1 h2 heq hne
  go_enter Tryz.func62, Tryz.ntmps62
  go_wp2
  go_loopg [3] V (fun gk s3 wx => ∃ v : Nat, v ≤ V ∧ gk = V - v ∧ s3 = .int .i64 (v : Int) ∧ Below w.heap.size w wx ∧ (wx.cell? ⟨w.heap.size, 0, none⟩ = some (.int .i64 p) ∧ wx.cell? ⟨w.heap.size, 1, none⟩ = some (.int .i64 q) ∧ wx.cell? ⟨w.heap.size, 2, none⟩ = some (.int .i64 r) ∧ wx.cell? ⟨w.heap.size, 3, none⟩ = some (.int .i64 s)) ∧ (wx.cell? ⟨w.heap.size + 1, 0, none⟩ = some (.int .i64 0) ∧ wx.cell? ⟨w.heap.size + 1, 1, none⟩ = some (.int .i64 0) ∧ wx.frozen? ⟨w.heap.size + 1, 0, none⟩ = false ∧ wx.frozen? ⟨w.heap.size + 1, 1, none⟩ = false))
  case atStart => exact ⟨0, by omega, rfl, rfl, bl_alloc (bl_alloc (bl_refl _)), by simp [go_sem], by simp [go_sem]⟩
  case round =>
    obtain ⟨v, hv, rfl, rfl, hB, ⟨d0, d1, d2, d3⟩, e0, e1, g0, g1⟩ := hrel
    have HB : Hid (Below w.heap.size w wr) := hB
    have HD : Hid ((wr.cell? ⟨w.heap.size, 0, none⟩ = some (.int .i64 p) ∧ wr.cell? ⟨w.heap.size, 1, none⟩ = some (.int .i64 q) ∧ wr.cell? ⟨w.heap.size, 2, none⟩ = some (.int .i64 r) ∧ wr.cell? ⟨w.heap.size, 3, none⟩ = some (.int .i64 s)) ∧ (wr.cell? ⟨w.heap.size + 1, 0, none⟩ = some (.int .i64 0) ∧ wr.cell? ⟨w.heap.size + 1, 1, none⟩ = some (.int .i64 0) ∧ wr.frozen? ⟨w.heap.size + 1, 0, none⟩ = false ∧ wr.frozen? ⟨w.heap.size + 1, 1, none⟩ = false)) := ⟨⟨d0, d1, d2, d3⟩, e0, e1, g0, g1⟩
    clear hB
    have z0 : w.heap.size < wr.heap.size := World.block_lt_of_cell? _ _ d0
    have z1 : w.heap.size + 1 < wr.heap.size := World.block_lt_of_cell? _ _ e0
    have kc := Kin.cells wr
    have kn : Nonempty (Kin wr) := ⟨⟨wr, bl_refl _⟩⟩
    by_cases h1 : v < V
    · have hne : ¬ alongOf (v : Int) p q = alongOf (v : Int) r s := HE.out.2 v h1
      have CV : Hid (∀ (a b : Int) (W' : World), ((a = p ∧ b = q) ∨ (a = r ∧ b = s)) → Calls Tryz.prog 66 #[.int .i64 (v : Int), .agg #[.int .i64 a, .int .i64 b]] W' fun e w' => e = .returned (.int .i64 (alongOf (v : Int) a b)) ∧ Below W'.heap.size W' w') := fun a b W' h => by
        rcases h with ⟨rfl, rfl⟩ | ⟨rfl, rfl⟩
        · exact valueOf_kin _ _ _ W' H1.out.1.1 H1.out.1.2
        · exact valueOf_kin _ _ _ W' H1.out.2.1 H1.out.2.2
      go_wp2
      refine wp_region_kin (by kernel_rfl) (by kernel_rfl) ?_
      repeat (go_big_quiet_step ((go_at_call 66; exact kin_of (CV.out _ _ _ (by first | exact Or.inl ⟨rfl, rfl⟩ | exact Or.inr ⟨rfl, rfl⟩)))))
      refine wpQuiet_nil ?_
      intro wq hw'
      obtain ⟨nq, hw''⟩ := hw'
      have hq : Below wr.heap.size wr wq := hw'' ▸ nq.h
      have HQ : Hid (Below wr.heap.size wr wq) := hq
      clear hw'' nq hq kc kn d0 d1 d2 d3 e0 e1 g0 g1
      go_wp2
      go_roundg (V - (v + 1))
      case measure => omega
      case rel =>
        exact ⟨v + 1, by omega, rfl, by go_num, bl_via HB.out HQ.out, ⟨cl_kept HQ.out HD.out.1.1, cl_kept HQ.out HD.out.1.2.1, cl_kept HQ.out HD.out.1.2.2.1, cl_kept HQ.out HD.out.1.2.2.2⟩, cl_kept HQ.out HD.out.2.1, cl_kept HQ.out HD.out.2.2.1, (HQ.out.frozen (p := ⟨w.heap.size + 1, 0, none⟩) z1).trans HD.out.2.2.2.1, (HQ.out.frozen (p := ⟨w.heap.size + 1, 1, none⟩) z1).trans HD.out.2.2.2.2⟩
    · obtain rfl : v = V := by omega
      have heq : alongOf (v : Int) r s = alongOf (v : Int) p q := HE.out.1.symm
      have CV : Hid (∀ (a b : Int) (W' : World), ((a = p ∧ b = q) ∨ (a = r ∧ b = s)) → Calls Tryz.prog 66 #[.int .i64 (v : Int), .agg #[.int .i64 a, .int .i64 b]] W' fun e w' => e = .returned (.int .i64 (alongOf (v : Int) a b)) ∧ Below W'.heap.size W' w') := fun a b W' h => by
        rcases h with ⟨rfl, rfl⟩ | ⟨rfl, rfl⟩
        · exact valueOf_kin _ _ _ W' H1.out.1.1 H1.out.1.2
        · exact valueOf_kin _ _ _ W' H1.out.2.1 H1.out.2.2
      go_wp2
      refine wp_region_kin (by kernel_rfl) (by kernel_rfl) ?_
      repeat (go_big_quiet_step ((go_at_call 66; exact kin_of (CV.out _ _ _ (by first | exact Or.inl ⟨rfl, rfl⟩ | exact Or.inr ⟨rfl, rfl⟩)))))
      refine wpQuiet_nil ?_
      intro wq hw'
      obtain ⟨nq, hw''⟩ := hw'
      have hq : Below wr.heap.size wr wq := hw'' ▸ nq.h
      have HQ : Hid (Below wr.heap.size wr wq) := hq
      have D0 := cl_kept hq d0
      have D1 := cl_kept hq d1
      have zq : w.heap.size < wq.heap.size := World.block_lt_of_cell? _ _ D0
      clear hw'' nq hq kc kn d0 d1 d2 d3 e0 e1 g0 g1
      go_wp2_with (go_at_call 66; refine (CV.out _ _ _ (by exact Or.inl ⟨rfl, rfl⟩)).mono ?_; rintro e w9 ⟨rfl, hb⟩; have HB9 : Hid (Below wr.heap.size wr w9) := bl_via HQ.out hb; have r0 := cl_kept HB9.out HD.out.2.1; have r1 := cl_kept HB9.out HD.out.2.2.1; have t0 := (HB9.out.frozen (p := ⟨w.heap.size + 1, 0, none⟩) z1).trans HD.out.2.2.2.1; have t1 := (HB9.out.frozen (p := ⟨w.heap.size + 1, 1, none⟩) z1).trans HD.out.2.2.2.2; have z9 : w.heap.size + 1 < w9.heap.size := World.block_lt_of_cell? _ _ r0; clear hb)
      refine bodyPost_ret (v := .agg #[.int .i64 (v : Int), .int .i64 (alongOf (v : Int) p q)]) (by simp [results, Tryz.results62, go_sem, r0, r1]) rfl ⟨rfl, ?_⟩
      with_reducible repeat (first | exact bl_via HB.out HB9.out | refine bl_set ?_ ?_)
      all_goals (dsimp only; omega)

/-- Are two maps one? -/
def sameM (a b c d e f A B C D E F : Int) : Bool := decide (a = A ∧ b = B ∧ c = C ∧ d = D ∧ e = E ∧ f = F)
theorem neqM (a b c d e f A B C D E F : Int) (w : World) :
    (binOp .neq 95 (.agg #[.int .i64 a, .int .i64 b, .int .i64 c, .int .i64 d, .int .i64 e, .int .i64 f]) (.agg #[.int .i64 A, .int .i64 B, .int .i64 C, .int .i64 D, .int .i64 E, .int .i64 F])).run Tryz.prog w = .ok (.bool (!sameM a b c d e f A B C D E F)) w := by
  by_cases h1 : a = A
  · subst h1
    by_cases h2 : b = B
    · subst h2
      by_cases h3 : c = C
      · subst h3
        by_cases h4 : d = D
        · subst h4
          by_cases h5 : e = E
          · subst h5
            by_cases h6 : f = F
            · subst h6
              simp [go_sem, sameM]
            · have e' : (f == F) = false := by simpa using h6
              simp [go_sem, sameM, e', h6]
          · have e' : (e == E) = false := by simpa using h5
            simp [go_sem, sameM, e', h5]
        · have e' : (d == D) = false := by simpa using h4
          simp [go_sem, sameM, e', h4]
      · have e' : (c == C) = false := by simpa using h3
        simp [go_sem, sameM, e', h3]
    · have e' : (b == B) = false := by simpa using h2
      simp [go_sem, sameM, e', h2]
  · have e' : (a == A) = false := by simpa using h1
    simp [go_sem, sameM, e', h1]

/-- Maps in a row of memory that may be written. -/
def MCell (w : World) (g i : Nat) (m : M6) : Prop := w.cell? ⟨g, i * 6, none⟩ = some (.int .i64 m.1) ∧ w.cell? ⟨g, i * 6 + 1, none⟩ = some (.int .i64 m.2.1) ∧ w.cell? ⟨g, i * 6 + 2, none⟩ = some (.int .i64 m.2.2.1) ∧ w.cell? ⟨g, i * 6 + 3, none⟩ = some (.int .i64 m.2.2.2.1) ∧ w.cell? ⟨g, i * 6 + 4, none⟩ = some (.int .i64 m.2.2.2.2.1) ∧ w.cell? ⟨g, i * 6 + 5, none⟩ = some (.int .i64 m.2.2.2.2.2)
def MFree (w : World) (g i : Nat) : Prop := w.frozen? ⟨g, i * 6, none⟩ = false ∧ w.frozen? ⟨g, i * 6 + 1, none⟩ = false ∧ w.frozen? ⟨g, i * 6 + 2, none⟩ = false ∧ w.frozen? ⟨g, i * 6 + 3, none⟩ = false ∧ w.frozen? ⟨g, i * 6 + 4, none⟩ = false ∧ w.frozen? ⟨g, i * 6 + 5, none⟩ = false
def MRow (w : World) (g n : Nat) (M : Nat → M6) : Prop := ∀ i, i < n → MCell w g i (M i) ∧ MFree w g i
theorem MRow.grown {w w' : World} {g n : Nat} {M : Nat → M6} {row : Option Nat} (h : MRow w g n M) (hg : w.grownBy w' row) (hne : some g ≠ row) : MRow w' g n M := fun i hi => by
  obtain ⟨⟨a0, a1, a2, a3, a4, a5⟩, f0, f1, f2, f3, f4, f5⟩ := h i hi
  have q : ∀ o, w'.frozen? ⟨g, o, none⟩ = w.frozen? ⟨g, o, none⟩ := fun o => World.frozen?_of_block (a := ⟨g, o, none⟩) (hg.block g (World.block_lt_of_cell? _ _ a0) hne)
  exact ⟨⟨hg.cell a0 hne, hg.cell a1 hne, hg.cell a2 hne, hg.cell a3 hne, hg.cell a4 hne, hg.cell a5 hne⟩, (q _).trans f0, (q _).trans f1, (q _).trans f2, (q _).trans f3, (q _).trans f4, (q _).trans f5⟩
theorem MRow.kept {w w' : World} {g n : Nat} {M : Nat → M6} (h : MRow w g n M) (hb : Below w.heap.size w w') : MRow w' g n M := h.grown (bl_grown hb) (by simp)
theorem st_same {w : World} {g k : Nat} {u v : Value} (h : w.cell? ⟨g, k, none⟩ = some u) : (w.setCell ⟨g, k, none⟩ v).cell? ⟨g, k, none⟩ = some v := World.cell?_setCell_same _ _ _ h
theorem st_else {w : World} {g k k' : Nat} {u v : Value} (h : w.cell? ⟨g, k, none⟩ = some u) (hne : k ≠ k') : (w.setCell ⟨g, k', none⟩ v).cell? ⟨g, k, none⟩ = some u := by
  rw [World.cell?_setCell_other _ _ _ _ (by simp <;> omega)]
  exact h
theorem inf59 : (Tryz.prog.info? 95).map (fun i => (i.zero, i.size, i.bytes)) = some (some (.agg #[.int .i64 0, .int .i64 0, .int .i64 0, .int .i64 0, .int .i64 0, .int .i64 0]), 6, 48) := by kernel_rfl
end Go.Proofs.YtmjhfdohcghhoaaGreatDoor
namespace Go.Proofs.YtmjhfdohcghhoaaGreatDoor
open Go.RowKit

/-- A pile, boxed. -/
def pbox (w : World) (ad : Option Addr) (n cc ra rk : Nat) (vm vp : Value) : World := w.alloc (.cells #[.slice ad n cc, .map (some ra), .map (some rk), vm, vp] 69)
end Go.Proofs.YtmjhfdohcghhoaaGreatDoor
namespace Go.Proofs.YtmjhfdohcghhoaaGreatDoor
open Go.RowKit Go.ChangeMaps

/-- What paper.Beyond answers: none, where numbers would be too great. -/
def bynd (kd : Int × Int × Int × Int → Int) (e : Int × Int × Int × Int) (m : M6) : M6 := if kd e = 0 then m else bif mapM (aft (mir (lnW e) (lnC e)) m) then aft (mir (lnW e) (lnC e)) m else noM
/-- A map that may be is the one beyond, just if it is the one that it should be. -/
theorem bynd_iff {kd : Int × Int × Int × Int → Int} {e : Int × Int × Int × Int} {m n : M6} (hn : mapM n = true) : n = bynd kd e m ↔ n = farM kd e m := by
  unfold bynd farM
  split
  · exact Iff.rfl
  · cases h : mapM (aft (mir (lnW e) (lnC e)) m)
    · constructor
      · intro q
        rw [q] at hn
        simp [noM_not] at hn
      · intro q
        rw [q, h] at hn
        exact absurd hn (by decide)
    · exact Iff.rfl
set_option maxRecDepth 100000 in
set_option maxHeartbeats 3200000 in
theorem beyond_gen (w : World) (ad : Option Addr) (n cc ra rk : Nat) (kd : Int × Int × Int × Int → Int) (p q r s A B C D E F : Int) (hK : KL w rk kd) (h1 : 0 ≤ p ∧ p ≤ 100) (h2 : 0 ≤ q ∧ q ≤ 100) (hl : lineB (lnW (p, q, r, s)) (lnC (p, q, r, s)) = true ∧ -40 ≤ lnC (p, q, r, s) ∧ lnC (p, q, r, s) ≤ 40) (hm : mapM (A, B, C, D, E, F) = true) :
    Calls Tryz.prog 123 #[.agg #[.slice ad n cc, .map (some ra), .map (some rk)], .agg #[.int .i64 p, .int .i64 q, .int .i64 r, .int .i64 s], .agg #[.int .i64 A, .int .i64 B, .int .i64 C, .int .i64 D, .int .i64 E, .int .i64 F]] w fun e w' => e = .returned (mv (bynd kd (p, q, r, s) (A, B, C, D, E, F))) ∧ Below w.heap.size w w' := by
  have hmir := mir_may hl.1 hl.2
  by_cases hz : kd (p, q, r, s) = 0
  · have CK : Hid (∀ W' : World, Below w.heap.size w W' → Calls Tryz.prog 139 #[.agg #[.slice ad n cc, .map (some ra), .map (some rk)], .agg #[.int .i64 p, .int .i64 q, .int .i64 r, .int .i64 s]] W' fun e w' => e = .returned (.int .i64 0) ∧ Below W'.heap.size W' w') := fun W' hW' => hz ▸ kind_any W' ad n cc ra rk kd p q r s (hK.kept hW')
    have HF : Hid (bynd kd (p, q, r, s) (A, B, C, D, E, F) = (A, B, C, D, E, F)) := by
      have : bynd kd (p, q, r, s) (A, B, C, D, E, F) = (A, B, C, D, E, F) := by simp [bynd, hz]
      exact this
    clear hK hl hm hmir h1 h2 hz
    go_enter Tryz.func123, Tryz.ntmps123
    go_wp2_with (go_at_call 139; refine (CK.out _ (by with_reducible exact bl_alloc (bl_alloc (bl_alloc (bl_alloc (bl_refl _)))))).mono ?_; rintro e w2 ⟨rfl, hb⟩; have HB : Hid (Below w.heap.size w w2) := bl_via (bl_alloc (bl_alloc (bl_alloc (bl_alloc (bl_refl _))))) hb; have m0 : w2.cell? ⟨w.heap.size + 1 + 1, 0, none⟩ = some (.int .i64 A) := cl_kept hb (by simp [go_sem]); have m1 : w2.cell? ⟨w.heap.size + 1 + 1, 1, none⟩ = some (.int .i64 B) := cl_kept hb (by simp [go_sem]); have m2 : w2.cell? ⟨w.heap.size + 1 + 1, 2, none⟩ = some (.int .i64 C) := cl_kept hb (by simp [go_sem]); have m3 : w2.cell? ⟨w.heap.size + 1 + 1, 3, none⟩ = some (.int .i64 D) := cl_kept hb (by simp [go_sem]); have m4 : w2.cell? ⟨w.heap.size + 1 + 1, 4, none⟩ = some (.int .i64 E) := cl_kept hb (by simp [go_sem]); have m5 : w2.cell? ⟨w.heap.size + 1 + 1, 5, none⟩ = some (.int .i64 F) := cl_kept hb (by simp [go_sem]); have r0 : w2.cell? ⟨w.heap.size + 1 + 1 + 1, 0, none⟩ = some (.int .i64 0) := cl_kept hb (by simp [go_sem]); have r1 : w2.cell? ⟨w.heap.size + 1 + 1 + 1, 1, none⟩ = some (.int .i64 0) := cl_kept hb (by simp [go_sem]); have r2 : w2.cell? ⟨w.heap.size + 1 + 1 + 1, 2, none⟩ = some (.int .i64 0) := cl_kept hb (by simp [go_sem]); have r3 : w2.cell? ⟨w.heap.size + 1 + 1 + 1, 3, none⟩ = some (.int .i64 0) := cl_kept hb (by simp [go_sem]); have r4 : w2.cell? ⟨w.heap.size + 1 + 1 + 1, 4, none⟩ = some (.int .i64 0) := cl_kept hb (by simp [go_sem]); have r5 : w2.cell? ⟨w.heap.size + 1 + 1 + 1, 5, none⟩ = some (.int .i64 0) := cl_kept hb (by simp [go_sem]); have fz : ∀ o, o < 6 → w2.frozen? ⟨w.heap.size + 1 + 1 + 1, o, none⟩ = false := fun o ho => (hb.frozen (p := ⟨w.heap.size + 1 + 1 + 1, o, none⟩) (by simp)).trans (by simp [go_sem]); have f0 := fz 0 (by omega); have f1 := fz 1 (by omega); have f2 := fz 2 (by omega); have f3 := fz 3 (by omega); have f4 := fz 4 (by omega); have f5 := fz 5 (by omega); have zw : w.heap.size + 1 + 1 + 1 < w2.heap.size := World.block_lt_of_cell? _ _ r0; clear fz hb)
    refine bodyPost_ret (v := .agg #[.int .i64 A, .int .i64 B, .int .i64 C, .int .i64 D, .int .i64 E, .int .i64 F]) (by simp [results, Tryz.results123, go_sem, r0, r1, r2, r3, r4, r5]) rfl ⟨by rw [HF.out]; rfl, ?_⟩
    with_reducible repeat (first | exact HB.out | refine bl_set ?_ ?_)
    all_goals (dsimp only; omega)
  · obtain ⟨z, hzz⟩ : ∃ z, z = kd (p, q, r, s) := ⟨_, rfl⟩
    have CK : Hid (∀ W' : World, Below w.heap.size w W' → Calls Tryz.prog 139 #[.agg #[.slice ad n cc, .map (some ra), .map (some rk)], .agg #[.int .i64 p, .int .i64 q, .int .i64 r, .int .i64 s]] W' fun e w' => e = .returned (.int .i64 z) ∧ Below W'.heap.size W' w') := fun W' hW' => hzz ▸ kind_any W' ad n cc ra rk kd p q r s (hK.kept hW')
    rw [← hzz] at hz
    obtain ⟨v, hv⟩ : ∃ v, v = lnW (p, q, r, s) := ⟨_, rfl⟩
    obtain ⟨c, hc⟩ : ∃ c, c = lnC (p, q, r, s) := ⟨_, rfl⟩
    have CL : Hid (∀ W' : World, Calls Tryz.prog 141 #[.agg #[.int .i64 p, .int .i64 q, .int .i64 r, .int .i64 s]] W' fun e w' => e = .returned (.agg #[.int .i64 v, .int .i64 c]) ∧ Below W'.heap.size W' w') := fun W' => by
      rw [hv, hc]
      exact paperLine_any p q r s W' h1 h2
    rw [← hv, ← hc] at hl hmir
    obtain ⟨a, b, c', d, e, f, hmv⟩ : ∃ a b c' d e f, mir v c = (a, b, c', d, e, f) := ⟨_, _, _, _, _, _, rfl⟩
    have CM : Hid (∀ W' : World, Calls Tryz.prog 140 #[.agg #[.int .i64 v, .int .i64 c]] W' fun e' w' => e' = .returned (.tuple #[.agg #[.int .i64 a, .int .i64 b, .int .i64 c', .int .i64 d, .int .i64 e, .int .i64 f], .int .i64 0]) ∧ Below W'.heap.size W' w') := fun W' => by
      have h := Mirror_yes v c W' hl.1 hmir.1
      simp only [mir, Prod.mk.injEq] at hmv
      obtain ⟨rfl, rfl, rfl, rfl, rfl, rfl⟩ := hmv
      exact h
    rw [hmv] at hmir
    obtain ⟨u0, u1, u2, u3, u4, u5, cd, HF, CA⟩ : ∃ u0 u1 u2 u3 u4 u5 cd : Int, Hid (bynd kd (p, q, r, s) (A, B, C, D, E, F) = (u0, u1, u2, u3, u4, u5)) ∧ Hid (∀ W' : World, Calls Tryz.prog 142 #[.agg #[.int .i64 a, .int .i64 b, .int .i64 c', .int .i64 d, .int .i64 e, .int .i64 f], .agg #[.int .i64 A, .int .i64 B, .int .i64 C, .int .i64 D, .int .i64 E, .int .i64 F]] W' fun r w' => r = .returned (.tuple #[.agg #[.int .i64 u0, .int .i64 u1, .int .i64 u2, .int .i64 u3, .int .i64 u4, .int .i64 u5], .int .i64 cd]) ∧ Below W'.heap.size W' w') := by
      have hz' : kd (p, q, r, s) ≠ 0 := by rw [← hzz]; exact hz
      have hav : aft (mir (lnW (p, q, r, s)) (lnC (p, q, r, s))) (A, B, C, D, E, F) = (dot A B a c', dot A B b d, dot C D a c', dot C D b d, dot A B e f + E, dot C D e f + F) := by
        rw [← hv, ← hc, hmv]
        rfl
      cases hma : mapM (aft (mir (lnW (p, q, r, s)) (lnC (p, q, r, s))) (A, B, C, D, E, F))
      · refine ⟨0, 0, 0, 0, 0, 0, 2, ?_, fun W' => After_no a b c' d e f A B C D E F W' hmir.1 hm ?_⟩
        · exact by
            have : bynd kd (p, q, r, s) (A, B, C, D, E, F) = (0, 0, 0, 0, 0, 0) := by
              unfold bynd
              rw [if_neg hz', hma]
              rfl
            exact this
        · rw [hav] at hma
          exact hma
      · refine ⟨dot A B a c', dot A B b d, dot C D a c', dot C D b d, dot A B e f + E, dot C D e f + F, 0, ?_, fun W' => After_yes a b c' d e f A B C D E F W' hmir.1 hm ?_⟩
        · exact by
            have : bynd kd (p, q, r, s) (A, B, C, D, E, F) = (dot A B a c', dot A B b d, dot C D a c', dot C D b d, dot A B e f + E, dot C D e f + F) := by
              unfold bynd
              rw [if_neg hz', hma, hav]
              rfl
            exact this
        · rw [hav] at hma
          exact hma
    clear hK hl hm hmir h1 h2 hzz hv hc hmv
    go_enter Tryz.func123, Tryz.ntmps123
    go_wp2_with (first
      | (go_at_call 139; refine (CK.out _ (by with_reducible exact bl_alloc (bl_alloc (bl_alloc (bl_alloc (bl_refl _)))))).mono ?_; rintro e w2 ⟨rfl, hb⟩; have HB : Hid (Below w.heap.size w w2) := bl_via (bl_alloc (bl_alloc (bl_alloc (bl_alloc (bl_refl _))))) hb; have e0 : w2.cell? ⟨w.heap.size + 1, 0, none⟩ = some (.int .i64 p) := cl_kept hb (by simp [go_sem]); have e1 : w2.cell? ⟨w.heap.size + 1, 1, none⟩ = some (.int .i64 q) := cl_kept hb (by simp [go_sem]); have e2 : w2.cell? ⟨w.heap.size + 1, 2, none⟩ = some (.int .i64 r) := cl_kept hb (by simp [go_sem]); have e3 : w2.cell? ⟨w.heap.size + 1, 3, none⟩ = some (.int .i64 s) := cl_kept hb (by simp [go_sem]); have m0 : w2.cell? ⟨w.heap.size + 1 + 1, 0, none⟩ = some (.int .i64 A) := cl_kept hb (by simp [go_sem]); have m1 : w2.cell? ⟨w.heap.size + 1 + 1, 1, none⟩ = some (.int .i64 B) := cl_kept hb (by simp [go_sem]); have m2 : w2.cell? ⟨w.heap.size + 1 + 1, 2, none⟩ = some (.int .i64 C) := cl_kept hb (by simp [go_sem]); have m3 : w2.cell? ⟨w.heap.size + 1 + 1, 3, none⟩ = some (.int .i64 D) := cl_kept hb (by simp [go_sem]); have m4 : w2.cell? ⟨w.heap.size + 1 + 1, 4, none⟩ = some (.int .i64 E) := cl_kept hb (by simp [go_sem]); have m5 : w2.cell? ⟨w.heap.size + 1 + 1, 5, none⟩ = some (.int .i64 F) := cl_kept hb (by simp [go_sem]); have r0 : w2.cell? ⟨w.heap.size + 1 + 1 + 1, 0, none⟩ = some (.int .i64 0) := cl_kept hb (by simp [go_sem]); have HZ : Hid (∀ o, o < 6 → w2.cell? ⟨w.heap.size + 1 + 1 + 1, o, none⟩ = some (.int .i64 0) ∧ w2.frozen? ⟨w.heap.size + 1 + 1 + 1, o, none⟩ = false) := fun o ho => ⟨cl_kept hb (by rcases six_cases ho with rfl | rfl | rfl | rfl | rfl | rfl <;> simp [go_sem]), (hb.frozen (p := ⟨w.heap.size + 1 + 1 + 1, o, none⟩) (by simp)).trans (by simp [go_sem])⟩; have zw : w.heap.size + 1 + 1 + 1 < w2.heap.size := World.block_lt_of_cell? _ _ r0; clear hb)
      | (go_at_call 141; refine (CL.out _).mono ?_; rintro e w3 ⟨rfl, hb⟩; have HB3 : Hid (Below w2.heap.size w2 w3) := hb; clear hb)
      | (go_at_call 140; refine (CM.out _).mono ?_; rintro e w4 ⟨rfl, hb⟩; have HB4 : Hid (Below w2.heap.size w2 w4) := bl_via HB3.out hb; have n0 := cl_kept HB4.out m0; have n1 := cl_kept HB4.out m1; have n2 := cl_kept HB4.out m2; have n3 := cl_kept HB4.out m3; have n4 := cl_kept HB4.out m4; have n5 := cl_kept HB4.out m5; have z4 : w.heap.size + 1 + 1 < w4.heap.size := World.block_lt_of_cell? _ _ n0; clear hb)
      | (go_at_call 142; refine (CA.out _).mono ?_; rintro e w5 ⟨rfl, hb⟩; have HB5 : Hid (Below w2.heap.size w2 w5) := bl_via (bl_alloc HB4.out) hb; have s0 := cl_kept HB5.out (HZ.out 0 (by omega)).1; have f0 := (HB5.out.frozen (p := ⟨w.heap.size + 1 + 1 + 1, 0, none⟩) zw).trans (HZ.out 0 (by omega)).2; have s1 := cl_kept HB5.out (HZ.out 1 (by omega)).1; have f1 := (HB5.out.frozen (p := ⟨w.heap.size + 1 + 1 + 1, 1, none⟩) zw).trans (HZ.out 1 (by omega)).2; have s2 := cl_kept HB5.out (HZ.out 2 (by omega)).1; have f2 := (HB5.out.frozen (p := ⟨w.heap.size + 1 + 1 + 1, 2, none⟩) zw).trans (HZ.out 2 (by omega)).2; have s3 := cl_kept HB5.out (HZ.out 3 (by omega)).1; have f3 := (HB5.out.frozen (p := ⟨w.heap.size + 1 + 1 + 1, 3, none⟩) zw).trans (HZ.out 3 (by omega)).2; have s4 := cl_kept HB5.out (HZ.out 4 (by omega)).1; have f4 := (HB5.out.frozen (p := ⟨w.heap.size + 1 + 1 + 1, 4, none⟩) zw).trans (HZ.out 4 (by omega)).2; have s5 := cl_kept HB5.out (HZ.out 5 (by omega)).1; have f5 := (HB5.out.frozen (p := ⟨w.heap.size + 1 + 1 + 1, 5, none⟩) zw).trans (HZ.out 5 (by omega)).2; have z5 : w.heap.size + 1 + 1 + 1 < w5.heap.size := World.block_lt_of_cell? _ _ s0; clear hb))
    refine bodyPost_ret (v := .agg #[.int .i64 u0, .int .i64 u1, .int .i64 u2, .int .i64 u3, .int .i64 u4, .int .i64 u5]) ?_ rfl ⟨by rw [HF.out]; rfl, ?_⟩
    · simp [results, Tryz.results123, go_sem, s0, s1, s2, s3, s4, s5, World.cell?_alloc_past, z5]
    · with_reducible repeat (first | exact bl_via HB.out HB5.out | refine bl_set ?_ ?_ | refine bl_alloc ?_)
      all_goals (dsimp only; omega)

/-- A map in a block of its own. -/
def M1 (w : World) (g : Nat) (a b c d e f : Int) : Prop := w.cell? ⟨g, 0, none⟩ = some (.int .i64 a) ∧ w.cell? ⟨g, 1, none⟩ = some (.int .i64 b) ∧ w.cell? ⟨g, 2, none⟩ = some (.int .i64 c) ∧ w.cell? ⟨g, 3, none⟩ = some (.int .i64 d) ∧ w.cell? ⟨g, 4, none⟩ = some (.int .i64 e) ∧ w.cell? ⟨g, 5, none⟩ = some (.int .i64 f)
end Go.Proofs.YtmjhfdohcghhoaaGreatDoor
