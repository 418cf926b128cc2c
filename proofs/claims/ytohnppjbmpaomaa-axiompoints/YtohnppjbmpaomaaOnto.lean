/- Onto. -/
import Derived.Test.YtohnppjbmpaomaaThro
namespace Go.Proofs.Ytohnppjbmpaomaa
open Go.RowKit

set_option maxRecDepth 100000 in
set_option maxHeartbeats 6400000 in
theorem onto8_ok (x y X Y : Int) (w : World) (hk : alk x y X Y = 0) :
    Calls Try.prog 8 #[pt x y, pt X Y] w fun e w' => e = .returned (.tuple #[ont x y X Y, .int .i64 0]) ∧ Below w.heap.size w w' := by
  have CA : Hid (∀ W, Calls Try.prog 22 #[.agg #[.int .i64 x, .int .i64 y], .agg #[.int .i64 X, .int .i64 Y]] W fun e w' => e = .returned (.int .i64 (alk x y X Y)) ∧ Below W.heap.size W w') := fun W => alike22 x y X Y W
  rw [hk] at CA
  obtain ⟨⟨hx, hy, hX, hY⟩, hs⟩ := alk_ok hk
  have b1 := bd_add (bd_mul hX hX) (bd_mul hY hY)
  have b2 := bd_add (bd_mul hx hx) (bd_mul hy hy)
  have CF : Hid (∀ W, Calls Try.prog 24 #[.int .i64 (2 * (X - x)), .int .i64 (2 * (Y - y)), .int .i64 (X * X + Y * Y - (x * x + y * y))] W fun e w' => e = .returned (ont x y X Y) ∧ Below W.heap.size W w') := fun W => inForm24 _ _ _ W (by have := same_no hs; omega) (by unfold sm; unfold bd at *; omega) (by unfold sm; unfold bd at *; omega) (by unfold sm; unfold bd at *; omega)
  have CP : Hid (∀ (g : Nat) (W : World), (∀ i, i < 2 → W.cell? ⟨g, i, none⟩ = some (.int .i64 (gt [X, Y] i))) → Calls Try.prog 25 #[.slice (some ⟨g, 0, none⟩) 2 2] W fun e w' => e = .returned (.int .i64 (X * X + Y * Y)) ∧ Below W.heap.size W w') := fun g W h => sq_two _ _ g W (bd_up hX (by omega)) (bd_up hY (by omega)) h
  have CQ : Hid (∀ (g : Nat) (W : World), (∀ i, i < 2 → W.cell? ⟨g, i, none⟩ = some (.int .i64 (gt [x, y] i))) → Calls Try.prog 25 #[.slice (some ⟨g, 0, none⟩) 2 2] W fun e w' => e = .returned (.int .i64 (x * x + y * y)) ∧ Below W.heap.size W w') := fun g W h => sq_two _ _ g W (bd_up hx (by omega)) (bd_up hy (by omega)) h
  clear hk hs
  obtain ⟨A, B, C, hABC⟩ : ∃ A B C, ont x y X Y = .agg #[.int .i64 A, .int .i64 B, .int .i64 C] := ⟨_, _, _, rfl⟩
  rw [hABC] at CF ⊢
  clear hABC
  generalize X * X + Y * Y = D at *
  generalize x * x + y * y = M at *
  unfold bd at *
  unfold pt
  obtain ⟨x1, x2⟩ := hx
  obtain ⟨y1, y2⟩ := hy
  obtain ⟨X1, X2⟩ := hX
  obtain ⟨Y1, Y2⟩ := hY
  obtain ⟨_, _⟩ := b1
  obtain ⟨_, _⟩ := b2
  have e1 : IntKind.i64.wrap (X - x) = X - x := by rw [IntKind.wrap_i64]; omega
  have e2 : IntKind.i64.wrap (Y - y) = Y - y := by rw [IntKind.wrap_i64]; omega
  have e3 : IntKind.i64.wrap (2 * (X - x)) = 2 * (X - x) := by rw [IntKind.wrap_i64]; omega
  have e4 : IntKind.i64.wrap (2 * (Y - y)) = 2 * (Y - y) := by rw [IntKind.wrap_i64]; omega
  have e5 : IntKind.i64.wrap (D - M) = D - M := by rw [IntKind.wrap_i64]; omega
  clear x1 x2 y1 y2 X1 X2 Y1 Y2
  go_enter Try.func8, Try.ntmps8
  go_wp2_with (go_at_call 22; refine (CA.out _).mono ?_; rintro e w1 ⟨rfl, hb⟩; have hx : Bx w1 (w.heap.size + 1 + 1) 0 0 0 := (by have := (bx_new _ 25).kept hb; simpa using this); have p0 : w1.cell? ⟨w.heap.size, 0, none⟩ = some (.int .i64 x) := cl_kept hb (by simp [go_sem]); have p1 : w1.cell? ⟨w.heap.size, 1, none⟩ = some (.int .i64 y) := cl_kept hb (by simp [go_sem]); have q0 : w1.cell? ⟨w.heap.size + 1, 0, none⟩ = some (.int .i64 X) := cl_kept hb (by simp [go_sem]); have q1 : w1.cell? ⟨w.heap.size + 1, 1, none⟩ = some (.int .i64 Y) := cl_kept hb (by simp [go_sem]); replace hb := bl_via (bl_alloc (bl_alloc (bl_alloc (bl_refl w)))) hb; have HB : Hid (Below w.heap.size w w1) := hb; clear hb)
  have HSX : Hid (∀ w', Below w1.heap.size w1 w' → w'.cell? ⟨w.heap.size, 0, none⟩ = some (.int .i64 x) ∧ w'.cell? ⟨w.heap.size, 1, none⟩ = some (.int .i64 y) ∧ w'.cell? ⟨w.heap.size + 1, 0, none⟩ = some (.int .i64 X) ∧ w'.cell? ⟨w.heap.size + 1, 1, none⟩ = some (.int .i64 Y)) := fun w' hw => ⟨cl_kept hw p0, cl_kept hw p1, cl_kept hw q0, cl_kept hw q1⟩
  have HX : Hid (∀ w', Below w1.heap.size w1 w' → Bx w' (w.heap.size + 1 + 1) 0 0 0) := fun w' hw => hx.kept hw
  clear hx
  go_region_held3 (fun w' => w'.cell? ⟨w.heap.size, 0, none⟩ = some (.int .i64 x) ∧ w'.cell? ⟨w.heap.size, 1, none⟩ = some (.int .i64 y) ∧ w'.cell? ⟨w.heap.size + 1, 0, none⟩ = some (.int .i64 X) ∧ w'.cell? ⟨w.heap.size + 1, 1, none⟩ = some (.int .i64 Y)) (first | (refine HSX.out _ ?_; (repeat first | exact bl_refl _ | apply bl_drew | apply bl_alloc | (refine bl_via ?_ (by assumption))); done) | (refine ⟨?_, ?_, ?_, ?_⟩ <;> (simp [go_sem, *]; done)) | fail) (first | (go_at_call 25; refine Calls.mono (CP.out _ _ (cells2 ?_ ?_)) ?_; (focus (first | (simp [go_sem]; done) | (refine cl_kept (by assumption) ?_; simp [go_sem]; done) | fail)); (focus (first | (simp [go_sem]; done) | (refine cl_kept (by assumption) ?_; simp [go_sem]; done) | fail)); rintro e w2 ⟨rfl, hb2⟩) | (go_at_call 25; refine Calls.mono (CQ.out _ _ (cells2 ?_ ?_)) ?_; (focus (first | (simp [go_sem]; done) | (refine cl_kept (by assumption) ?_; simp [go_sem]; done) | fail)); (focus (first | (simp [go_sem]; done) | (refine cl_kept (by assumption) ?_; simp [go_sem]; done) | fail)); rintro e w2 ⟨rfl, hb2⟩) | (go_at_call 24; refine Calls.mono (CF.out _) ?_; rintro e w4 ⟨rfl, hb4⟩; have hbb : Below w1.heap.size w1 w4 := (by (repeat first | exact bl_refl _ | apply bl_drew | apply bl_alloc | (refine bl_via ?_ (by assumption)))); have hx := HX.out _ hbb; obtain ⟨t0, t1, t2, t3⟩ := HSX.out _ hbb; have HB4 : Hid (Below w1.heap.size w1 w4) := hbb; clear hbb; have RD : Hid (Rd w4 (w.heap.size + 1 + 1)) := hx.rd; obtain ⟨⟨r0, r1, r2⟩, hf⟩ := hx; have f0 := hf 0; have f1 := hf 1; have f2 := hf 2; have zg := World.block_lt_of_cell? _ _ r0; clear hf) | fail)
  all_goals
    go_wp2
    refine bodyPost_ret (v := .tuple #[.agg #[_, _, _], _]) (by simp [results, Try.results8, go_sem, RD.out.1, RD.out.2.1, RD.out.2.2]) rfl ⟨rfl, ?_⟩
    exact bl_set (bl_set (bl_set (bl_via HB.out HB4.out) (by simp <;> omega)) (by simp <;> omega)) (by simp <;> omega)
end Go.Proofs.Ytohnppjbmpaomaa
