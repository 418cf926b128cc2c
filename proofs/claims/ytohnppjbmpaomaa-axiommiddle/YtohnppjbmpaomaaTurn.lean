/- Turns. -/
import Derived.Test.YtohnppjbmpaomaaTurl
namespace Go.Proofs.Ytohnppjbmpaomaa
open Go.RowKit

theorem cells4 {w : World} {g : Nat} {x y X Y : Int} (h0 : w.cell? ⟨g, 0, none⟩ = some (.int .i64 x)) (h1 : w.cell? ⟨g, 1, none⟩ = some (.int .i64 y)) (h2 : w.cell? ⟨g, 2, none⟩ = some (.int .i64 X)) (h3 : w.cell? ⟨g, 3, none⟩ = some (.int .i64 Y)) : ∀ i, i < 4 → w.cell? ⟨g, i, none⟩ = some (.int .i64 (gt [x, y, X, Y] i)) := fun i hi => by
  have : i = 0 ∨ i = 1 ∨ i = 2 ∨ i = 3 := by omega
  rcases this with rfl | rfl | rfl | rfl <;> assumption
theorem cells2 {w : World} {g : Nat} {x y : Int} (h0 : w.cell? ⟨g, 0, none⟩ = some (.int .i64 x)) (h1 : w.cell? ⟨g, 1, none⟩ = some (.int .i64 y)) : ∀ i, i < 2 → w.cell? ⟨g, i, none⟩ = some (.int .i64 (gt [x, y] i)) := fun i hi => by
  have : i = 0 ∨ i = 1 := by omega
  rcases this with rfl | rfl <;> assumption
theorem cells1 {w : World} {g : Nat} {x : Int} (h0 : w.cell? ⟨g, 0, none⟩ = some (.int .i64 x)) : ∀ i, i < 1 → w.cell? ⟨g, i, none⟩ = some (.int .i64 (gt [x] i)) := fun i hi => by
  have : i = 0 := by omega
  subst this
  exact h0
theorem built_sn {w : World} {g : Nat} {a b c : Int} (h : w.cell? ⟨g, 0, none⟩ = some (.int .i64 a) ∧ w.cell? ⟨g, 1, none⟩ = some (.int .i64 b) ∧ w.cell? ⟨g, 2, none⟩ = some (.int .i64 c)) : Sn w (.slice (some ⟨g, 0, none⟩) 1 1) [⟨a, b, c⟩] :=
  ⟨_, 1, rfl, fun i hi => by
    have : i = 0 := by simp at hi; omega
    subst this
    exact ⟨g, rfl, h⟩⟩
set_option maxRecDepth 100000 in
set_option maxHeartbeats 1600000 in
theorem turns18_no (x y a b c X Y k : Int) (w : World) (hk : wrg [⟨a, b, c⟩] [x, y, X, Y] = k) (h0 : k ≠ 0) :
    Calls Try.prog 18 #[pt x y, st a b c, pt X Y] w fun e w' => e = .returned (.tuple #[.int .i64 0, .int .i64 k]) ∧ Below w.heap.size w w' := by
  have C26 : Hid (∀ (g1 g2 : Nat) (W : World), (W.cell? ⟨g1, 0, none⟩ = some (.int .i64 a) ∧ W.cell? ⟨g1, 1, none⟩ = some (.int .i64 b) ∧ W.cell? ⟨g1, 2, none⟩ = some (.int .i64 c)) → (∀ i, i < 4 → W.cell? ⟨g2, i, none⟩ = some (.int .i64 (gt [x, y, X, Y] i))) → Calls Try.prog 26 #[.slice (some ⟨g1, 0, none⟩) 1 1, .slice (some ⟨g2, 0, none⟩) 4 4] W fun e w' => e = .returned (.int .i64 (wrg [⟨a, b, c⟩] [x, y, X, Y])) ∧ Below W.heap.size W w') := fun g1 g2 W h1 h2 => wrong26 _ _ [⟨a, b, c⟩] [x, y, X, Y] W (built_sn h1) (built_sg (l := [x, y, X, Y]) h2 4) (by simp) (by simp)
  rw [hk] at C26
  clear hk
  have q : (k != 0) = true := by simpa using h0
  unfold pt st
  go_enter Try.func18, Try.ntmps18
  go_wp2_with (go_at_call 26; refine (C26.out _ _ _ ⟨by simp [go_sem], by simp [go_sem], by simp [go_sem]⟩ (cells4 (by simp [go_sem]) (by simp [go_sem]) (by simp [go_sem]) (by simp [go_sem]))).mono ?_; rintro e w1 ⟨rfl, hb⟩; have p0 : w1.cell? ⟨w.heap.size, 0, none⟩ = some (.int .i64 x) := cl_kept hb (by simp [go_sem]); have p1 : w1.cell? ⟨w.heap.size, 1, none⟩ = some (.int .i64 y) := cl_kept hb (by simp [go_sem]); have l0 : w1.cell? ⟨w.heap.size + 1, 0, none⟩ = some (.int .i64 a) := cl_kept hb (by simp [go_sem]); have l1 : w1.cell? ⟨w.heap.size + 1, 1, none⟩ = some (.int .i64 b) := cl_kept hb (by simp [go_sem]); have l2 : w1.cell? ⟨w.heap.size + 1, 2, none⟩ = some (.int .i64 c) := cl_kept hb (by simp [go_sem]); have q0 : w1.cell? ⟨w.heap.size + 2, 0, none⟩ = some (.int .i64 X) := cl_kept hb (by simp [go_sem]); have q1 : w1.cell? ⟨w.heap.size + 2, 1, none⟩ = some (.int .i64 Y) := cl_kept hb (by simp [go_sem]); replace hb := bl_via (bl_alloc (bl_alloc (bl_alloc (bl_alloc (bl_alloc (bl_refl w)))))) hb; have HB : Hid (Below w.heap.size w w1) := hb; clear hb)
  refine bodyPost_ret (v := .tuple #[_, _]) (by simp [results, Try.results18, go_sem]) rfl ⟨rfl, ?_⟩
  exact HB.out
set_option maxRecDepth 100000 in
set_option maxHeartbeats 1600000 in
theorem turns18_twice (x y a b c X Y : Int) (w : World) (hk : wrg [⟨a, b, c⟩] [x, y, X, Y] = 0) (hs : same2 x y X Y = true) :
    Calls Try.prog 18 #[pt x y, st a b c, pt X Y] w fun e w' => e = .returned (.tuple #[.int .i64 0, .int .i64 6]) ∧ Below w.heap.size w w' := by
  have C26 : Hid (∀ (g1 g2 : Nat) (W : World), (W.cell? ⟨g1, 0, none⟩ = some (.int .i64 a) ∧ W.cell? ⟨g1, 1, none⟩ = some (.int .i64 b) ∧ W.cell? ⟨g1, 2, none⟩ = some (.int .i64 c)) → (∀ i, i < 4 → W.cell? ⟨g2, i, none⟩ = some (.int .i64 (gt [x, y, X, Y] i))) → Calls Try.prog 26 #[.slice (some ⟨g1, 0, none⟩) 1 1, .slice (some ⟨g2, 0, none⟩) 4 4] W fun e w' => e = .returned (.int .i64 (wrg [⟨a, b, c⟩] [x, y, X, Y])) ∧ Below W.heap.size W w') := fun g1 g2 W h1 h2 => wrong26 _ _ [⟨a, b, c⟩] [x, y, X, Y] W (built_sn h1) (built_sg (l := [x, y, X, Y]) h2 4) (by simp) (by simp)
  rw [hk] at C26
  have E := eql23 x y X Y
  rw [hs] at E
  clear hk hs
  unfold pt st
  go_enter Try.func18, Try.ntmps18
  go_wp2_with (go_at_call 26; refine (C26.out _ _ _ ⟨by simp [go_sem], by simp [go_sem], by simp [go_sem]⟩ (cells4 (by simp [go_sem]) (by simp [go_sem]) (by simp [go_sem]) (by simp [go_sem]))).mono ?_; rintro e w1 ⟨rfl, hb⟩; have p0 : w1.cell? ⟨w.heap.size, 0, none⟩ = some (.int .i64 x) := cl_kept hb (by simp [go_sem]); have p1 : w1.cell? ⟨w.heap.size, 1, none⟩ = some (.int .i64 y) := cl_kept hb (by simp [go_sem]); have l0 : w1.cell? ⟨w.heap.size + 1, 0, none⟩ = some (.int .i64 a) := cl_kept hb (by simp [go_sem]); have l1 : w1.cell? ⟨w.heap.size + 1, 1, none⟩ = some (.int .i64 b) := cl_kept hb (by simp [go_sem]); have l2 : w1.cell? ⟨w.heap.size + 1, 2, none⟩ = some (.int .i64 c) := cl_kept hb (by simp [go_sem]); have q0 : w1.cell? ⟨w.heap.size + 2, 0, none⟩ = some (.int .i64 X) := cl_kept hb (by simp [go_sem]); have q1 : w1.cell? ⟨w.heap.size + 2, 1, none⟩ = some (.int .i64 Y) := cl_kept hb (by simp [go_sem]); replace hb := bl_via (bl_alloc (bl_alloc (bl_alloc (bl_alloc (bl_alloc (bl_refl w)))))) hb; have HB : Hid (Below w.heap.size w w1) := hb; clear hb)
  refine bodyPost_ret (v := .tuple #[_, _]) (by simp [results, Try.results18, go_sem]) rfl ⟨rfl, ?_⟩
  exact HB.out
/-- How many folds through a point bring another one to a line. -/
def trn (x y a b c X Y : Int) : Int := 1 + cmpI (((x - X) * (x - X) + (y - Y) * (y - Y)) * (a * a + b * b)) (ofs a b c X Y * ofs a b c X Y)
set_option maxRecDepth 100000 in
set_option maxHeartbeats 6400000 in
theorem turns18_ok (x y a b c X Y : Int) (w : World) (hk : wrg [⟨a, b, c⟩] [x, y, X, Y] = 0) (hs : same2 x y X Y = false)
    (hx : bd 1000 x) (hy : bd 1000 y) (ha : bd 1000 a) (hb : bd 1000 b) (hc : bd 1000 c) (hX : bd 1000 X) (hY : bd 1000 Y) :
    Calls Try.prog 18 #[pt x y, st a b c, pt X Y] w fun e w' => e = .returned (.tuple #[.int .i64 (trn x y a b c X Y), .int .i64 0]) ∧ Below w.heap.size w w' := by
  have C26 : Hid (∀ (g1 g2 : Nat) (W : World), (W.cell? ⟨g1, 0, none⟩ = some (.int .i64 a) ∧ W.cell? ⟨g1, 1, none⟩ = some (.int .i64 b) ∧ W.cell? ⟨g1, 2, none⟩ = some (.int .i64 c)) → (∀ i, i < 4 → W.cell? ⟨g2, i, none⟩ = some (.int .i64 (gt [x, y, X, Y] i))) → Calls Try.prog 26 #[.slice (some ⟨g1, 0, none⟩) 1 1, .slice (some ⟨g2, 0, none⟩) 4 4] W fun e w' => e = .returned (.int .i64 (wrg [⟨a, b, c⟩] [x, y, X, Y])) ∧ Below W.heap.size W w') := fun g1 g2 W h1 h2 => wrong26 _ _ [⟨a, b, c⟩] [x, y, X, Y] W (built_sn h1) (built_sg (l := [x, y, X, Y]) h2 4) (by simp) (by simp)
  rw [hk] at C26
  have E := eql23 x y X Y
  rw [hs] at E
  clear hk hs
  have d1 := bd_sub hx hX
  have d2 := bd_sub hy hY
  have bD := bd_add (bd_mul d1 d1) (bd_mul d2 d2)
  have bE := bd_add (bd_mul ha ha) (bd_mul hb hb)
  have bM := bd_mul bD bE
  have bO := ofs_bd ha hb hc hX hY
  have CA : Hid (∀ (g : Nat) (W : World), (∀ i, i < 2 → W.cell? ⟨g, i, none⟩ = some (.int .i64 (gt [x - X, y - Y] i))) → Calls Try.prog 25 #[.slice (some ⟨g, 0, none⟩) 2 2] W fun e w' => e = .returned (.int .i64 ((x - X) * (x - X) + (y - Y) * (y - Y))) ∧ Below W.heap.size W w') := fun g W h => sq_two _ _ g W (bd_up d1 (by omega)) (bd_up d2 (by omega)) h
  have CB : Hid (∀ (g : Nat) (W : World), (∀ i, i < 2 → W.cell? ⟨g, i, none⟩ = some (.int .i64 (gt [a, b] i))) → Calls Try.prog 25 #[.slice (some ⟨g, 0, none⟩) 2 2] W fun e w' => e = .returned (.int .i64 (a * a + b * b)) ∧ Below W.heap.size W w') := fun g W h => sq_two _ _ g W (bd_up ha (by omega)) (bd_up hb (by omega)) h
  have CC : Hid (∀ (g : Nat) (W : World), (∀ i, i < 1 → W.cell? ⟨g, i, none⟩ = some (.int .i64 (gt [ofs a b c X Y] i))) → Calls Try.prog 25 #[.slice (some ⟨g, 0, none⟩) 1 1] W fun e w' => e = .returned (.int .i64 (ofs a b c X Y * ofs a b c X Y)) ∧ Below W.heap.size W w') := fun g W h => sq_one _ g W (bd_up bO (by omega)) h
  have CO : Hid (∀ (W : World), Calls Try.prog 34 #[.agg #[.int .i64 a, .int .i64 b, .int .i64 c], .agg #[.int .i64 X, .int .i64 Y]] W fun e w' => e = .returned (.int .i64 (ofs a b c X Y)) ∧ Below W.heap.size W w') := fun W => off34 a b c X Y W ha hb hc hX hY
  have CM : Hid (∀ (u v : Int) (W : World), Calls Try.prog 37 #[.int .i64 u, .int .i64 v] W fun e w' => e = .returned (.int .i64 (cmpI u v)) ∧ Below W.heap.size W w') := fun u v W => cmp37 u v W
  unfold trn
  generalize ofs a b c X Y = o at *
  generalize (x - X) * (x - X) + (y - Y) * (y - Y) = D at *
  generalize a * a + b * b = M at *
  generalize o * o = F at *
  have HK : Hid (∀ u v, -1 ≤ cmpI u v ∧ cmpI u v ≤ 1) := fun u v => by unfold cmpI; split <;> (try split) <;> omega
  unfold bd at *
  obtain ⟨m1, m2⟩ := bM
  obtain ⟨x1, x2⟩ := hx
  obtain ⟨y1, y2⟩ := hy
  obtain ⟨X1, X2⟩ := hX
  obtain ⟨Y1, Y2⟩ := hY
  clear ha hb hc bD bE bO d1 d2
  unfold pt st
  go_enter Try.func18, Try.ntmps18
  go_wp2_with (go_at_call 26; refine (C26.out _ _ _ ⟨by simp [go_sem], by simp [go_sem], by simp [go_sem]⟩ (cells4 (by simp [go_sem]) (by simp [go_sem]) (by simp [go_sem]) (by simp [go_sem]))).mono ?_; rintro e w1 ⟨rfl, hb⟩; have p0 : w1.cell? ⟨w.heap.size, 0, none⟩ = some (.int .i64 x) := cl_kept hb (by simp [go_sem]); have p1 : w1.cell? ⟨w.heap.size, 1, none⟩ = some (.int .i64 y) := cl_kept hb (by simp [go_sem]); have l0 : w1.cell? ⟨w.heap.size + 1, 0, none⟩ = some (.int .i64 a) := cl_kept hb (by simp [go_sem]); have l1 : w1.cell? ⟨w.heap.size + 1, 1, none⟩ = some (.int .i64 b) := cl_kept hb (by simp [go_sem]); have l2 : w1.cell? ⟨w.heap.size + 1, 2, none⟩ = some (.int .i64 c) := cl_kept hb (by simp [go_sem]); have q0 : w1.cell? ⟨w.heap.size + 2, 0, none⟩ = some (.int .i64 X) := cl_kept hb (by simp [go_sem]); have q1 : w1.cell? ⟨w.heap.size + 2, 1, none⟩ = some (.int .i64 Y) := cl_kept hb (by simp [go_sem]); replace hb := bl_via (bl_alloc (bl_alloc (bl_alloc (bl_alloc (bl_alloc (bl_refl w)))))) hb; have HB : Hid (Below w.heap.size w w1) := hb; clear hb)
  have HSX : Hid (∀ w', Below w1.heap.size w1 w' → w'.cell? ⟨w.heap.size, 0, none⟩ = some (.int .i64 x) ∧ w'.cell? ⟨w.heap.size, 1, none⟩ = some (.int .i64 y) ∧ w'.cell? ⟨w.heap.size + 1, 0, none⟩ = some (.int .i64 a) ∧ w'.cell? ⟨w.heap.size + 1, 1, none⟩ = some (.int .i64 b) ∧ w'.cell? ⟨w.heap.size + 1, 2, none⟩ = some (.int .i64 c) ∧ w'.cell? ⟨w.heap.size + 2, 0, none⟩ = some (.int .i64 X) ∧ w'.cell? ⟨w.heap.size + 2, 1, none⟩ = some (.int .i64 Y)) := fun w' hw => ⟨cl_kept hw p0, cl_kept hw p1, cl_kept hw l0, cl_kept hw l1, cl_kept hw l2, cl_kept hw q0, cl_kept hw q1⟩
  have e1 : IntKind.i64.wrap (x - X) = x - X := by rw [IntKind.wrap_i64]; omega
  have e2 : IntKind.i64.wrap (y - Y) = y - Y := by rw [IntKind.wrap_i64]; omega
  have e3 : IntKind.i64.wrap (D * M) = D * M := by rw [IntKind.wrap_i64]; omega
  go_cut [9] (fun s9 wx => s9 = .int .i64 (D * M) ∧ Below w1.heap.size w1 wx)
  case first =>
    go_region_held3 (fun w' => w'.cell? ⟨w.heap.size, 0, none⟩ = some (.int .i64 x) ∧ w'.cell? ⟨w.heap.size, 1, none⟩ = some (.int .i64 y) ∧ w'.cell? ⟨w.heap.size + 1, 0, none⟩ = some (.int .i64 a) ∧ w'.cell? ⟨w.heap.size + 1, 1, none⟩ = some (.int .i64 b) ∧ w'.cell? ⟨w.heap.size + 1, 2, none⟩ = some (.int .i64 c) ∧ w'.cell? ⟨w.heap.size + 2, 0, none⟩ = some (.int .i64 X) ∧ w'.cell? ⟨w.heap.size + 2, 1, none⟩ = some (.int .i64 Y)) ((refine HSX.out _ ?_; (repeat first | exact bl_refl _ | apply bl_drew | apply bl_alloc | (refine bl_via ?_ (by assumption))); done)) (first | (go_at_call 25; refine Calls.mono (CA.out _ _ (cells2 ?_ ?_)) ?_; (focus (first | (simp [go_sem]; done) | (refine cl_kept (by assumption) ?_; simp [go_sem]; done) | fail)); (focus (first | (simp [go_sem]; done) | (refine cl_kept (by assumption) ?_; simp [go_sem]; done) | fail)); rintro e w2 ⟨rfl, hb2⟩) | (go_at_call 25; refine Calls.mono (CB.out _ _ (cells2 ?_ ?_)) ?_; (focus (first | (simp [go_sem]; done) | (refine cl_kept (by assumption) ?_; simp [go_sem]; done) | fail)); (focus (first | (simp [go_sem]; done) | (refine cl_kept (by assumption) ?_; simp [go_sem]; done) | fail)); rintro e w2 ⟨rfl, hb2⟩) | fail)
    all_goals
      go_wp2_with fail
      go_meet
      case rel => exact ⟨rfl, by (repeat first | exact bl_refl _ | apply bl_drew | apply bl_alloc | (refine bl_via ?_ (by assumption)))⟩
  case rest =>
    obtain ⟨rfl, hbc⟩ := hcut
    have hbw := bl_via HB.out hbc
    replace p0 := cl_kept hbc p0
    replace p1 := cl_kept hbc p1
    replace l0 := cl_kept hbc l0
    replace l1 := cl_kept hbc l1
    replace l2 := cl_kept hbc l2
    replace q0 := cl_kept hbc q0
    replace q1 := cl_kept hbc q1
    clear HB hbc HSX
    have HB : Hid (Below w.heap.size w wc) := hbw
    clear hbw
    go_wp2_with (first | (go_at_call 34; refine (CO.out _).mono ?_; rintro e w2 ⟨rfl, hb2⟩) | (go_at_call 25; refine Calls.mono (CC.out _ _ (cells1 ?_)) ?_; (focus (simp [go_sem]; done)); rintro e w3 ⟨rfl, hb3⟩) | (go_at_call 37; refine (CM.out _ _ _).mono ?_; rintro e w4 ⟨rfl, hb4⟩; obtain ⟨k1, k2⟩ := HK.out (D * M) F) | fail)
    refine bodyPost_ret (v := .tuple #[_, _]) (by simp [results, Try.results18, go_sem]) rfl ⟨rfl, ?_⟩
    exact bl_via HB.out (bl_via (bl_via (bl_alloc hb2) hb3) hb4)
end Go.Proofs.Ytohnppjbmpaomaa
