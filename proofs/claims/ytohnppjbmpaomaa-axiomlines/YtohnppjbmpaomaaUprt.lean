/- Upright. -/
import Derived.Test.YtohnppjbmpaomaaThof
namespace Go.Proofs.Ytohnppjbmpaomaa
open Go.RowKit

theorem wrg_ok1 {a b c : Int} {l : List Int} (h : wrg [⟨a, b, c⟩] l = 0) : (bd 1000 a ∧ bd 1000 b ∧ bd 1000 c) ∧ (∀ n ∈ l, bd 1000 n) ∧ ¬ (a = 0 ∧ b = 0) := by
  unfold wrg at h
  split at h
  · omega
  · rename_i h1
    split at h
    · omega
    · rename_i h2
      split at h
      · omega
      · rename_i h3
        simp [Ln.far] at h2
        simp [Ln.wl, wl] at h3
        refine ⟨⟨bd_of_far h2.1, bd_of_far h2.2.1, bd_of_far h2.2.2⟩, fun n hn => ?_, fun e => h3 e.1 e.2⟩
        have h4 : l.any far = false := by simpa using h1
        rw [List.any_eq_false] at h4
        exact bd_of_far (by simpa using h4 n hn)
set_option maxRecDepth 100000 in
set_option maxHeartbeats 1600000 in
theorem upright9_no (a b c x y k : Int) (w : World) (hk : wrg [⟨a, b, c⟩] [x, y] = k) (h0 : k ≠ 0) :
    Calls Try.prog 9 #[st a b c, pt x y] w fun e w' => e = .returned (.tuple #[st 0 0 0, .int .i64 k]) ∧ Below w.heap.size w w' := by
  have C26 : Hid (∀ (g1 g2 : Nat) (W : World), (W.cell? ⟨g1, 0, none⟩ = some (.int .i64 a) ∧ W.cell? ⟨g1, 1, none⟩ = some (.int .i64 b) ∧ W.cell? ⟨g1, 2, none⟩ = some (.int .i64 c)) → (∀ i, i < 2 → W.cell? ⟨g2, i, none⟩ = some (.int .i64 (gt [x, y] i))) → Calls Try.prog 26 #[.slice (some ⟨g1, 0, none⟩) 1 1, .slice (some ⟨g2, 0, none⟩) 2 2] W fun e w' => e = .returned (.int .i64 (wrg [⟨a, b, c⟩] [x, y])) ∧ Below W.heap.size W w') := fun g1 g2 W h1 h2 => wrong26 _ _ [⟨a, b, c⟩] [x, y] W (built_sn h1) (built_sg (l := [x, y]) h2 2) (by simp) (by simp)
  rw [hk] at C26
  have q : (k != 0) = true := by simpa using h0
  clear hk
  unfold pt st
  go_enter Try.func9, Try.ntmps9
  go_wp2_with (go_at_call 26; refine (C26.out _ _ _ ⟨by simp [go_sem], by simp [go_sem], by simp [go_sem]⟩ (cells2 (by simp [go_sem]) (by simp [go_sem]))).mono ?_; rintro e w1 ⟨rfl, hb⟩; have hx : Bx w1 (w.heap.size + 1 + 1) 0 0 0 := (by have := ((bx_new _ 25).kept (bl_alloc (bl_alloc (bl_refl _)))).kept hb; simpa using this); have l0 : w1.cell? ⟨w.heap.size, 0, none⟩ = some (.int .i64 a) := cl_kept hb (by simp [go_sem]); have l1 : w1.cell? ⟨w.heap.size, 1, none⟩ = some (.int .i64 b) := cl_kept hb (by simp [go_sem]); have l2 : w1.cell? ⟨w.heap.size, 2, none⟩ = some (.int .i64 c) := cl_kept hb (by simp [go_sem]); have p0 : w1.cell? ⟨w.heap.size + 1, 0, none⟩ = some (.int .i64 x) := cl_kept hb (by simp [go_sem]); have p1 : w1.cell? ⟨w.heap.size + 1, 1, none⟩ = some (.int .i64 y) := cl_kept hb (by simp [go_sem]); replace hb := bl_via (bl_alloc (bl_alloc (bl_alloc (bl_alloc (bl_alloc (bl_refl w)))))) hb; have HB : Hid (Below w.heap.size w w1) := hb; clear hb; have RD : Hid (Rd w1 (w.heap.size + 1 + 1)) := hx.rd; obtain ⟨⟨r0, r1, r2⟩, hf⟩ := hx; have f0 := hf 0; have f1 := hf 1; have f2 := hf 2; have zg := World.block_lt_of_cell? _ _ r0; clear hf)
  refine bodyPost_ret (v := .tuple #[.agg #[_, _, _], _]) (by simp [results, Try.results9, go_sem, RD.out.1, RD.out.2.1, RD.out.2.2]) rfl ⟨rfl, ?_⟩
  exact (bl_set (bl_set (bl_set HB.out (by simp <;> omega)) (by simp <;> omega)) (by simp <;> omega))
set_option maxRecDepth 100000 in
set_option maxHeartbeats 1600000 in
theorem upright9_ok (a b c x y : Int) (w : World) (hk : wrg [⟨a, b, c⟩] [x, y] = 0) :
    Calls Try.prog 9 #[st a b c, pt x y] w fun e w' => e = .returned (.tuple #[upr a b x y, .int .i64 0]) ∧ Below w.heap.size w w' := by
  have C26 : Hid (∀ (g1 g2 : Nat) (W : World), (W.cell? ⟨g1, 0, none⟩ = some (.int .i64 a) ∧ W.cell? ⟨g1, 1, none⟩ = some (.int .i64 b) ∧ W.cell? ⟨g1, 2, none⟩ = some (.int .i64 c)) → (∀ i, i < 2 → W.cell? ⟨g2, i, none⟩ = some (.int .i64 (gt [x, y] i))) → Calls Try.prog 26 #[.slice (some ⟨g1, 0, none⟩) 1 1, .slice (some ⟨g2, 0, none⟩) 2 2] W fun e w' => e = .returned (.int .i64 (wrg [⟨a, b, c⟩] [x, y])) ∧ Below W.heap.size W w') := fun g1 g2 W h1 h2 => wrong26 _ _ [⟨a, b, c⟩] [x, y] W (built_sn h1) (built_sg (l := [x, y]) h2 2) (by simp) (by simp)
  rw [hk] at C26
  obtain ⟨⟨ha, hb, hc⟩, hn, hs⟩ := wrg_ok1 hk
  have hx := hn x (by simp)
  have hy := hn y (by simp)
  have CL : Hid (∀ W, Calls Try.prog 23 #[.agg #[.int .i64 x, .int .i64 y], .int .i64 a, .int .i64 b] W fun e w' => e = .returned (upr a b x y) ∧ Below W.heap.size W w') := fun W => along23 x y a b W hs (bd_up hx (by omega)) (bd_up hy (by omega)) (bd_up ha (by omega)) (bd_up hb (by omega))
  clear hk hs hn ha hb hc hx hy
  obtain ⟨A, B, C, hABC⟩ : ∃ A B C, upr a b x y = .agg #[.int .i64 A, .int .i64 B, .int .i64 C] := ⟨_, _, _, rfl⟩
  rw [hABC] at CL ⊢
  clear hABC
  unfold pt st
  go_enter Try.func9, Try.ntmps9
  go_wp2_with (go_at_call 26; refine (C26.out _ _ _ ⟨by simp [go_sem], by simp [go_sem], by simp [go_sem]⟩ (cells2 (by simp [go_sem]) (by simp [go_sem]))).mono ?_; rintro e w1 ⟨rfl, hb⟩; have hx : Bx w1 (w.heap.size + 1 + 1) 0 0 0 := (by have := ((bx_new _ 25).kept (bl_alloc (bl_alloc (bl_refl _)))).kept hb; simpa using this); have l0 : w1.cell? ⟨w.heap.size, 0, none⟩ = some (.int .i64 a) := cl_kept hb (by simp [go_sem]); have l1 : w1.cell? ⟨w.heap.size, 1, none⟩ = some (.int .i64 b) := cl_kept hb (by simp [go_sem]); have l2 : w1.cell? ⟨w.heap.size, 2, none⟩ = some (.int .i64 c) := cl_kept hb (by simp [go_sem]); have p0 : w1.cell? ⟨w.heap.size + 1, 0, none⟩ = some (.int .i64 x) := cl_kept hb (by simp [go_sem]); have p1 : w1.cell? ⟨w.heap.size + 1, 1, none⟩ = some (.int .i64 y) := cl_kept hb (by simp [go_sem]); replace hb := bl_via (bl_alloc (bl_alloc (bl_alloc (bl_alloc (bl_alloc (bl_refl w)))))) hb; have HB : Hid (Below w.heap.size w w1) := hb; clear hb)
  go_wp2_with (go_at_call 23; refine (CL.out _).mono ?_; rintro e w2 ⟨rfl, hb2⟩; replace hx := hx.kept hb2; replace HB : Hid (Below w.heap.size w w2) := bl_via HB.out hb2; clear hb2; have RD : Hid (Rd w2 (w.heap.size + 1 + 1)) := hx.rd; obtain ⟨⟨r0, r1, r2⟩, hf⟩ := hx; have f0 := hf 0; have f1 := hf 1; have f2 := hf 2; have zg := World.block_lt_of_cell? _ _ r0; clear hf)
  refine bodyPost_ret (v := .tuple #[.agg #[_, _, _], _]) (by simp [results, Try.results9, go_sem, RD.out.1, RD.out.2.1, RD.out.2.2]) rfl ⟨rfl, ?_⟩
  exact (bl_set (bl_set (bl_set HB.out (by simp <;> omega)) (by simp <;> omega)) (by simp <;> omega))
end Go.Proofs.Ytohnppjbmpaomaa
