/- A part of the proof of cutTells_holds. -/
import Derived.Test.YtmjhfdohcghhoaaGreatDoorQlbe
import Derived.Test.YtmjhfdohcghhoaaGreatDoorQlba
import Derived.Test.YtmjhfdohcghhoaaGreatDoorQlac
import Derived.Test.YtmjhfdohcghhoaaGreatDoorQlbk
namespace Go.Proofs.YtmjhfdohcghhoaaGreatDoor
open Go.RowKit

theorem out_one {K K' : Int} (h : 0 ≤ K ∧ K ≤ 3) (h' : 0 ≤ K' ∧ K' ≤ 3) (hx : outX K = outX K') (hy : outY K = outY K') : K = K' := by
  rcases k_four h with rfl | rfl | rfl | rfl <;> rcases k_four h' with rfl | rfl | rfl | rfl <;> simp [outX, outY] at hx hy ⊢
/-- ref.LessTri. -/
theorem lessTri_any (a b c p q r : Int) (w : World) : Calls Tryz.prog 31 #[.agg #[.int .i64 a, .int .i64 b, .int .i64 c], .agg #[.int .i64 p, .int .i64 q, .int .i64 r]] w fun e w' => e = .returned (.bool (ltB (a, b, c) (p, q, r))) ∧ Below w.heap.size w w' := by
  by_cases h1 : b = q
  · subst h1
    have q1 : (b != b) = false := by simp
    by_cases h2 : a = p
    · subst h2
      have q2 : (a != a) = false := by simp
      go_enter Tryz.func31, Tryz.ntmps31
      go_wp2
      go_ret
      exact ⟨ret_bool (by simp [ltB]), bl_alloc (bl_alloc (bl_refl _))⟩
    · have q2 : (a != p) = true := by simpa using h2
      have HE : Hid (ltB (a, b, c) (p, b, r) = decide (a < p)) := by
        have : ltB (a, b, c) (p, b, r) = decide (a < p) := by
          rw [Bool.eq_iff_iff]
          simp [ltB, h2]
        exact this
      clear h2
      go_enter Tryz.func31, Tryz.ntmps31
      go_wp2
      go_ret
      exact ⟨ret_bool HE.out.symm, bl_alloc (bl_alloc (bl_refl _))⟩
  · have q1 : (b != q) = true := by simpa using h1
    have HE : Hid (ltB (a, b, c) (p, q, r) = decide (b < q)) := by
      have : ltB (a, b, c) (p, q, r) = decide (b < q) := by
        rw [Bool.eq_iff_iff]
        simp [ltB, h1]
      exact this
    clear h1
    go_enter Tryz.func31, Tryz.ntmps31
    go_wp2
    go_ret
    exact ⟨ret_bool HE.out.symm, bl_alloc (bl_alloc (bl_refl _))⟩

theorem mvt_gen {a b c d e f x y k : Int} (h1 : mapB a b c d e f = true) (hx : 0 ≤ x ∧ x ≤ 8) (hy : 0 ≤ y ∧ y ≤ 8) (hk : 0 ≤ k ∧ k ≤ 3) {X Y K : Int} (hX : (X, Y, K) = mvt (a, b, c, d, e, f) (x, y, k)) :
    dot a b (2 * x + 1) (2 * y + 1) + e = 2 * X + 1 ∧ dot c d (2 * x + 1) (2 * y + 1) + f = 2 * Y + 1 ∧ (0 ≤ K ∧ K ≤ 3) ∧ dot a b (outX k) (outY k) = outX K ∧ dot c d (outX k) (outY k) = outY K ∧ triB x y k = true := by
  have he := map_even h1
  simp only [mvt, Prod.mk.injEq] at hX
  obtain ⟨eX, eY, eK⟩ := hX
  rcases map_lin h1 with ⟨ha, rfl, rfl, hd⟩ | ⟨rfl, hb, hc, rfl⟩
  · rcases ha with rfl | rfl <;> rcases hd with rfl | rfl <;> rcases k_four hk with rfl | rfl | rfl | rfl <;> simp [outX, outY, kdT, dot, triB] at * <;> (subst eK; simp; omega)
  · rcases hb with rfl | rfl <;> rcases hc with rfl | rfl <;> rcases k_four hk with rfl | rfl | rfl | rfl <;> simp [outX, outY, kdT, dot, triB] at * <;> (subst eK; simp; omega)
/-- May the place of a triangle be? -/
def triT (t : Int × Int × Int) : Bool := triB t.1 t.2.1 t.2.2
/-- grid.Move, of a map that may be, to a place that may be. -/
theorem Move_in (m : M6) (t : Int × Int × Int) (w : World) (hm : mapM m = true) (hb : (0 ≤ t.1 ∧ t.1 ≤ 8) ∧ (0 ≤ t.2.1 ∧ t.2.1 ≤ 8) ∧ (0 ≤ t.2.2 ∧ t.2.2 ≤ 3)) (hs : Steps w) (ht : triT (mvt m t) = true) :
    Calls Tryz.prog 89 #[.agg #[.int .i64 m.1, .int .i64 m.2.1, .int .i64 m.2.2.1, .int .i64 m.2.2.2.1, .int .i64 m.2.2.2.2.1, .int .i64 m.2.2.2.2.2], .agg #[.int .i64 t.1, .int .i64 t.2.1, .int .i64 t.2.2]] w fun r w' => r = .returned (.tuple #[.agg #[.int .i64 (mvt m t).1, .int .i64 (mvt m t).2.1, .int .i64 (mvt m t).2.2], .int .i64 0]) ∧ Below w.heap.size w w' := by
  obtain ⟨a, b, c, d, e, f⟩ := m
  obtain ⟨x, y, k⟩ := t
  obtain ⟨h1, h2, h3, h4, h5, h7⟩ := mvt_gen hm hb.1 hb.2.1 hb.2.2 (X := (mvt (a, b, c, d, e, f) (x, y, k)).1) (Y := (mvt (a, b, c, d, e, f) (x, y, k)).2.1) (K := (mvt (a, b, c, d, e, f) (x, y, k)).2.2) rfl
  exact Move_yes a b c d e f x y k _ _ _ w hm h7 h1 h2 h3 h4 h5 ht hs
/-- ref.MoveOf, of a map that may be. -/
theorem MoveOf_gen (m : M6) (t : Int × Int × Int) (w : World) (hm : mapM m = true) (hb : (0 ≤ t.1 ∧ t.1 ≤ 8) ∧ (0 ≤ t.2.1 ∧ t.2.1 ≤ 8) ∧ (0 ≤ t.2.2 ∧ t.2.2 ≤ 3)) :
    Calls Tryz.prog 33 #[.agg #[.int .i64 m.1, .int .i64 m.2.1, .int .i64 m.2.2.1, .int .i64 m.2.2.2.1, .int .i64 m.2.2.2.2.1, .int .i64 m.2.2.2.2.2], .agg #[.int .i64 t.1, .int .i64 t.2.1, .int .i64 t.2.2]] w fun r w' => r = .returned (.agg #[.int .i64 (mvt m t).1, .int .i64 (mvt m t).2.1, .int .i64 (mvt m t).2.2]) ∧ Below w.heap.size w w' := by
  obtain ⟨a, b, c, d, e, f⟩ := m
  obtain ⟨x, y, k⟩ := t
  obtain ⟨h1, h2, h3, h4, h5, h7⟩ := mvt_gen hm hb.1 hb.2.1 hb.2.2 (X := (mvt (a, b, c, d, e, f) (x, y, k)).1) (Y := (mvt (a, b, c, d, e, f) (x, y, k)).2.1) (K := (mvt (a, b, c, d, e, f) (x, y, k)).2.2) rfl
  obtain ⟨X, Y, K, q1, q2, r1, r2, g1, g2, g3, g4, g5, g6, g7, g8, g9, g10⟩ := move_data a b c d e f x y k hm h7
  have e1 : (mvt (a, b, c, d, e, f) (x, y, k)).1 = X := by have := h1.symm.trans g1; omega
  have e2 : (mvt (a, b, c, d, e, f) (x, y, k)).2.1 = Y := by have := h2.symm.trans g2; omega
  have e3 : (mvt (a, b, c, d, e, f) (x, y, k)).2.2 = K := out_one h3 g3 (h4.symm.trans g4) (h5.symm.trans g5)
  obtain ⟨hsm, hef, _⟩ := map_bd hm
  have := moveOf_any a b c d e f x y k X Y K q1 q2 r1 r2 w hsm hef h7 ⟨⟨g1, g2⟩, by have := hb.1; dsimp only at this; omega, by have := hb.2.1; dsimp only at this; omega⟩ g6 g7 g8 g9 g10
  rw [e1, e2, e3]
  exact this

def IdxTo (n : Nat) (f : Nat → Int) (v : Int) (w w' : World) (e : Ending) : Prop := ∃ i : Int, e = .returned (.int .i64 i) ∧ (0 ≤ i ↔ ∃ j, j < n ∧ f j = v) ∧ Below w.heap.size w w'
set_option maxHeartbeats 1600000 in
theorem index_any (w : World) (g n cap : Nat) (f : Nat → Int) (v : Int) (hZ : ZRow w g n f) (hn : n ≤ 300) :
    Calls Tryz.prog 124 #[.slice (some ⟨g, 0, none⟩) n cap, .int .i64 v] w fun e w' => IdxTo n f v w w' e := by
  have HZ : Hid (ZRow w g n f) := hZ
  clear hZ
  go_enter Tryz.func124, Tryz.ntmps124
  go_wp2
  go_loopg [8] n (fun gk s8 wx => ∃ i : Nat, i ≤ n ∧ gk = n - i ∧ s8 = .int .i64 (i : Int) ∧ (∀ j, j < i → f j ≠ v) ∧ wx = w)
  case atStart => exact ⟨0, by omega, rfl, rfl, fun j h => by omega, rfl⟩
  case round =>
    obtain ⟨i, hi, rfl, rfl, hF, rfl⟩ := hrel
    have HF : Hid (∀ j, j < i → f j ≠ v) := hF
    clear hF
    by_cases h1 : i < n
    · have i1 : (i : Int) < (n : Int) := by omega
      have i0 : (0 : Int) ≤ (i : Int) := by omega
      obtain ⟨z0, _⟩ := HZ.out i h1
      obtain ⟨u, hu⟩ : ∃ u, u = f i := ⟨_, rfl⟩
      rw [← hu] at z0
      have HU : Hid (u = f i) := hu
      clear hu
      by_cases hv : v = u
      · have qv : (v == u) = true := by simpa using hv
        clear hv
        go_wp2
        go_ret
        refine ⟨(i : Int), rfl, ⟨fun _ => ⟨i, h1, ?_⟩, fun _ => by omega⟩, bl_refl _⟩
        rw [← HU.out]
        exact (beq_iff_eq.1 qv).symm
      · have qv : (v == u) = false := by simpa using hv
        go_wp2
        go_roundg (n - (i + 1))
        case measure => omega
        case rel =>
          refine ⟨i + 1, by omega, rfl, by go_num, fun j hj => ?_, rfl⟩
          by_cases e : j = i
          · subst e
            rw [← HU.out]
            exact fun e => hv e.symm
          · exact HF.out j (by omega)
    · have i1 : ¬ (i : Int) < (n : Int) := by omega
      go_wp2
      go_ret
      exact ⟨-1, rfl, ⟨fun h => by omega, fun ⟨j, hj, e⟩ => absurd e (HF.out j (by omega))⟩, bl_refl _⟩
def ConTo (n : Nat) (f : Nat → Int) (v : Int) (w w' : World) (e : Ending) : Prop := ∃ b : Bool, e = .returned (.bool b) ∧ (b = true ↔ ∃ j, j < n ∧ f j = v) ∧ Below w.heap.size w w'
theorem contains_any (w : World) (g n cap : Nat) (f : Nat → Int) (v : Int) (hZ : ZRow w g n f) (hn : n ≤ 300) :
    Calls Tryz.prog 91 #[.slice (some ⟨g, 0, none⟩) n cap, .int .i64 v] w fun e w' => ConTo n f v w w' e := by
  have CI : Hid (Calls Tryz.prog 124 #[.slice (some ⟨g, 0, none⟩) n cap, .int .i64 v] w fun e w' => IdxTo n f v w w' e) := index_any w g n cap f v hZ hn
  clear hZ
  go_enter Tryz.func91, Tryz.ntmps91
  go_wp2_with (go_at_call 124; refine CI.out.mono ?_; rintro e w2 ⟨i, rfl, h1, hb⟩; have HR : Hid ((0 ≤ i ↔ ∃ j, j < n ∧ f j = v) ∧ Below w.heap.size w w2) := ⟨h1, hb⟩; clear h1 hb)
  go_ret
  exact ⟨_, rfl, by rw [decide_eq_true_eq]; exact HR.out.1, HR.out.2⟩
end Go.Proofs.YtmjhfdohcghhoaaGreatDoor
namespace Go.Proofs.YtmjhfdohcghhoaaGreatDoor
open Go.RowKit Go.ChangeMaps

set_option maxRecDepth 100000 in
set_option maxHeartbeats 3200000 in
theorem parts_c (w : World) (cc ra rk : Nat) (ad : Option Addr) (L : List (Int × Int × Int)) (pb : Nat) (cr : Int × Int × Int × Int → Bool) (hs : Steps w) (hPA : PA w ad ra L) (hL : L.length ≤ 300) (hnd : L.Nodup) (hbd : ∀ t ∈ L, (0 ≤ t.1 ∧ t.1 ≤ 8) ∧ (0 ≤ t.2.1 ∧ t.2.1 ≤ 8) ∧ (0 ≤ t.2.2 ∧ t.2.2 ≤ 3))
    (hCL : ∀ (i j : Nat) (hi : i < L.length) (hj : j < L.length) (q0 q1 q2 q3 : Int) (W' : World), j ≠ i → hasT L[i] (q0, q1, q2, q3) = true → hasT L[j] (q0, q1, q2, q3) = true → Below w.heap.size w W' → Calls Tryz.prog 24 #[.int .i64 (i : Int), .agg #[.int .i64 q0, .int .i64 q1, .int .i64 q2, .int .i64 q3, .int .i64 (j : Int)], .pointer (some ⟨pb, 0, none⟩)] W' fun e w' => e = .returned (.bool (cr (q0, q1, q2, q3))) ∧ Below W'.heap.size W' w') :
    Calls Tryz.prog 26 #[.agg #[.slice ad L.length cc, .map (some ra), .map (some rk)], .func (.func 24) #[] #[.pointer (some ⟨pb, 0, none⟩)]] w fun e w' => ∃ g part, e = .returned (.slice (some ⟨g, 0, none⟩) L.length L.length) ∧ ZRow w' g L.length part ∧ PartsOk cr L part ∧ w.heap.size ≤ g ∧ Below w.heap.size w w' := by
  have hbE : Below w.heap.size w ((w.alloc (.cells #[.slice ad L.length cc, .map (some ra), .map (some rk)] 67)).alloc (.cells #[.int .i64 (-1)] 3)) := bl_alloc (bl_alloc (bl_refl _))
  have CSP : Hid (∀ (g f : Nat) (part : Nat → Int) (num : Int) (wx : World), Below ((w.alloc (.cells #[.slice ad L.length cc, .map (some ra), .map (some rk)] 67)).alloc (.cells #[.int .i64 (-1)] 3)).heap.size ((w.alloc (.cells #[.slice ad L.length cc, .map (some ra), .map (some rk)] 67)).alloc (.cells #[.int .i64 (-1)] 3)) wx → ((w.alloc (.cells #[.slice ad L.length cc, .map (some ra), .map (some rk)] 67)).alloc (.cells #[.int .i64 (-1)] 3)).heap.size ≤ g → ZRow wx g L.length part → f < L.length → part f < 0 → (0 ≤ num ∧ num ≤ 1000) → Calls Tryz.prog 51 #[.agg #[.slice ad L.length cc, .map (some ra), .map (some rk)], .slice (some ⟨g, 0, none⟩) L.length L.length, .int .i64 (f : Int), .int .i64 num, .func (.func 24) #[] #[.pointer (some ⟨pb, 0, none⟩)]] wx fun e w' => e = .returned (.tuple #[]) ∧ ∃ R, Sp cr L part f R ∧ ZRow w' g L.length (lab part num R) ∧ (∀ i ∈ R, ∀ h : i < L.length, DoneT cr L part R L[i] 3) ∧ Below ((w.alloc (.cells #[.slice ad L.length cc, .map (some ra), .map (some rk)] 67)).alloc (.cells #[.int .i64 (-1)] 3)).heap.size ((w.alloc (.cells #[.slice ad L.length cc, .map (some ra), .map (some rk)] 67)).alloc (.cells #[.int .i64 (-1)] 3)) w') := fun g f part num wx h1 h2 h3 h4 h5 h6 =>
    spread_c ((w.alloc (.cells #[.slice ad L.length cc, .map (some ra), .map (some rk)] 67)).alloc (.cells #[.int .i64 (-1)] 3)) wx g cc ra rk f ad L part num pb cr (hs.kept hbE) (hPA.kept hbE) h1 h2 h3 h4 h5 h6 hL hnd hbd (fun i j hi hj q0 q1 q2 q3 W' e1 e2 e3 hW' => hCL i j hi hj q0 q1 q2 q3 W' e1 e2 e3 (bl_via hbE hW'))
  have HPB : Hid (∀ t ∈ L, Kd t) := fun t ht => (hbd t ht).2.2
  have HND : Hid (L.Nodup) := hnd
  clear hs hPA hbE hnd hbd hCL
  go_enter Tryz.func26, Tryz.ntmps26
  go_wp2_with (go_at_call 50; refine (repeat_any (-1) (w.heap.size + 1) L.length _ (by omega) (by simp [go_sem])).mono ?_; rintro e w1 ⟨rfl, hrow, hb⟩; have HW1 : Hid (ZRow w1 ((w.alloc (.cells #[.slice ad L.length cc, .map (some ra), .map (some rk)] 67)).alloc (.cells #[.int .i64 (-1)] 3)).heap.size L.length (fun _ => -1) ∧ Below ((w.alloc (.cells #[.slice ad L.length cc, .map (some ra), .map (some rk)] 67)).alloc (.cells #[.int .i64 (-1)] 3)).heap.size ((w.alloc (.cells #[.slice ad L.length cc, .map (some ra), .map (some rk)] 67)).alloc (.cells #[.int .i64 (-1)] 3)) w1) := ⟨rp_zrow hrow, hb⟩; have p0 : w1.cell? ⟨w.heap.size, 0, none⟩ = some (.slice ad L.length cc) := cl_kept hb (by simp [go_sem]); clear hrow hb)
  obtain ⟨WE, hWE⟩ : ∃ W, W = ((w.alloc (.cells #[.slice ad L.length cc, .map (some ra), .map (some rk)] 67)).alloc (.cells #[.int .i64 (-1)] 3)) := ⟨_, rfl⟩
  have q0 : WE.cell? ⟨w.heap.size, 0, none⟩ = some (.slice ad L.length cc) := by rw [hWE]; simp [go_sem]
  have q1 : WE.cell? ⟨w.heap.size, 1, none⟩ = some (.map (some ra)) := by rw [hWE]; simp [go_sem]
  have q2 : WE.cell? ⟨w.heap.size, 2, none⟩ = some (.map (some rk)) := by rw [hWE]; simp [go_sem]
  have hz : WE.heap.size = w.heap.size + 2 := by rw [hWE]; simp
  have HBW : Hid (Below w.heap.size w WE) := by rw [hWE]; exact bl_alloc (bl_alloc (bl_refl _))
  rw [← hWE] at CSP HW1
  have HQ : Hid (WE.cell? ⟨w.heap.size, 0, none⟩ = some (.slice ad L.length cc) ∧ WE.cell? ⟨w.heap.size, 1, none⟩ = some (.map (some ra)) ∧ WE.cell? ⟨w.heap.size, 2, none⟩ = some (.map (some rk))) := ⟨q0, q1, q2⟩
  obtain ⟨g, hg⟩ : ∃ g, g = w.heap.size + 1 + 1 := ⟨_, rfl⟩
  rw [show WE.heap.size = g by omega] at HW1
  have HG : Hid (g = w.heap.size + 1 + 1 ∧ WE.heap.size = g) := ⟨hg, by omega⟩
  rw [← hg]
  clear hWE q0 q1 q2 hg hz
  go_wp2
  go_loopg [6, 16] L.length (fun gk s6 s16 wx => ∃ (i : Nat) (c : Nat) (part : Nat → Int), i ≤ L.length ∧ gk = L.length - i ∧ s16 = .int .i64 (i : Int) ∧ s6 = .int .i64 (c : Int) ∧ c ≤ i ∧ PInv cr L part i c ∧ ZRow wx g L.length part ∧ Below WE.heap.size WE wx)
  case atStart => exact ⟨0, 0, _, by omega, rfl, rfl, rfl, by omega, pinv_start _ _, HW1.out.1, by rw [HG.out.2]; exact HW1.out.2⟩
  case round =>
    clear HW1 p0
    obtain ⟨i, c, part, hi, rfl, rfl, rfl, hci, hI, hZ, hB⟩ := hrel
    have HI : Hid (PInv cr L part i c ∧ ZRow wr g L.length part ∧ Below WE.heap.size WE wr) := ⟨hI, hZ, hB⟩
    clear hI hZ hB
    have p0 : wr.cell? ⟨w.heap.size, 0, none⟩ = some (.slice ad L.length cc) := cl_kept HI.out.2.2 HQ.out.1
    have p1 : wr.cell? ⟨w.heap.size, 1, none⟩ = some (.map (some ra)) := cl_kept HI.out.2.2 HQ.out.2.1
    have p2 : wr.cell? ⟨w.heap.size, 2, none⟩ = some (.map (some rk)) := cl_kept HI.out.2.2 HQ.out.2.2
    by_cases h1 : i < L.length
    · have i1 : (i : Int) < (L.length : Int) := by omega
      have i0 : (0 : Int) ≤ (i : Int) := by omega
      obtain ⟨zc, _⟩ := HI.out.2.1 i h1
      obtain ⟨lv, hlv⟩ : ∃ lv, lv = part i := ⟨_, rfl⟩
      rw [← hlv] at zc
      have HLV : Hid (lv = part i) := hlv
      clear hlv
      by_cases hneg : lv < 0
      · go_wp2_with (go_at_call 51; refine (CSP.out g i part (c : Int) _ HI.out.2.2 (by rw [HG.out.2]; exact Nat.le_refl _) HI.out.2.1 h1 (by rw [← HLV.out]; exact hneg) (by omega)).mono ?_; rintro e w2 ⟨rfl, R, hSp, hZ2, hD, hb2⟩; have HN : Hid (PInv cr L (lab part (c : Int) R) (i + 1) (c + 1) ∧ ZRow w2 g L.length (lab part (c : Int) R) ∧ Below WE.heap.size WE w2) := ⟨HI.out.1.next HPB.out HND.out h1 (by rw [← HLV.out]; exact hneg) hSp hD, hZ2, hb2⟩; clear hSp hZ2 hD hb2)
        go_roundg (L.length - (i + 1))
        case measure => omega
        case rel => exact ⟨i + 1, c + 1, _, by omega, rfl, by go_num, by go_num, by omega, HN.out⟩
      · go_wp2
        go_roundg (L.length - (i + 1))
        case measure => omega
        case rel => exact ⟨i + 1, c, part, by omega, rfl, by go_num, rfl, by omega, HI.out.1.skip (by rw [← HLV.out]; omega), HI.out.2⟩
    · have i1 : ¬ (i : Int) < (L.length : Int) := by omega
      obtain rfl : i = L.length := by omega
      go_wp2
      go_ret
      exact ⟨g, rfl, part, HI.out.2.1, HI.out.1.done, by have := HG.out.1; omega, bl_via HBW.out HI.out.2.2⟩

end Go.Proofs.YtmjhfdohcghhoaaGreatDoor
