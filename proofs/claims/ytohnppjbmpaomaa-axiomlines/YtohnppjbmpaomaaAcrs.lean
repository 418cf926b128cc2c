/- Across. -/
import Derived.Test.YtohnppjbmpaomaaCmps
import Derived.Test.YtohnppjbmpaomaaUprt
import Derived.Test.YtohnppjbmpaomaaAcof
namespace Go.Proofs.Ytohnppjbmpaomaa
open Go.RowKit

theorem built_sn2 {w : World} {g : Nat} {a b c d e f : Int} (h : w.cell? ⟨g, 0, none⟩ = some (.int .i64 a) ∧ w.cell? ⟨g, 1, none⟩ = some (.int .i64 b) ∧ w.cell? ⟨g, 2, none⟩ = some (.int .i64 c) ∧ w.cell? ⟨g, 3, none⟩ = some (.int .i64 d) ∧ w.cell? ⟨g, 4, none⟩ = some (.int .i64 e) ∧ w.cell? ⟨g, 5, none⟩ = some (.int .i64 f)) : Sn w (.slice (some ⟨g, 0, none⟩) 2 2) [⟨a, b, c⟩, ⟨d, e, f⟩] :=
  ⟨_, 2, rfl, fun i hi => by
    have : i = 0 ∨ i = 1 := by simp at hi; omega
    rcases this with rfl | rfl
    · exact ⟨g, rfl, h.1, h.2.1, h.2.2.1⟩
    · exact ⟨g, rfl, h.2.2.2.1, h.2.2.2.2.1, h.2.2.2.2.2⟩⟩
theorem wrg_ok2 {a b c d e f : Int} {l : List Int} (h : wrg [⟨a, b, c⟩, ⟨d, e, f⟩] l = 0) : (bd 1000 a ∧ bd 1000 b ∧ bd 1000 c) ∧ (bd 1000 d ∧ bd 1000 e ∧ bd 1000 f) ∧ (∀ n ∈ l, bd 1000 n) ∧ ¬ (a = 0 ∧ b = 0) ∧ ¬ (d = 0 ∧ e = 0) := by
  unfold wrg at h
  split at h
  · omega
  · rename_i h1
    split at h
    · omega
    · rename_i h2
      split at h
      · omega
      · rename_i h3
        simp [Ln.far] at h2
        simp [Ln.wl, wl] at h3
        refine ⟨⟨bd_of_far h2.1.1, bd_of_far h2.1.2.1, bd_of_far h2.1.2.2⟩, ⟨bd_of_far h2.2.1, bd_of_far h2.2.2.1, bd_of_far h2.2.2.2⟩, fun n hn => ?_, fun k => h3.1 k.1 k.2, fun k => h3.2 k.1 k.2⟩
        have h4 : l.any far = false := by simpa using h1
        rw [List.any_eq_false] at h4
        exact bd_of_far (by simpa using h4 n hn)
set_option maxRecDepth 100000 in
set_option maxHeartbeats 1600000 in
theorem across15_no (x y a b c d e f k : Int) (w : World) (hk : wrg [⟨a, b, c⟩, ⟨d, e, f⟩] [x, y] = k) (h0 : k ≠ 0) :
    Calls Try.prog 15 #[pt x y, st a b c, st d e f] w fun e w' => e = .returned (.tuple #[st 0 0 0, .int .i64 k]) ∧ Below w.heap.size w w' := by
  have C26 : Hid (∀ (g1 g2 : Nat) (W : World), (W.cell? ⟨g1, 0, none⟩ = some (.int .i64 a) ∧ W.cell? ⟨g1, 1, none⟩ = some (.int .i64 b) ∧ W.cell? ⟨g1, 2, none⟩ = some (.int .i64 c) ∧ W.cell? ⟨g1, 3, none⟩ = some (.int .i64 d) ∧ W.cell? ⟨g1, 4, none⟩ = some (.int .i64 e) ∧ W.cell? ⟨g1, 5, none⟩ = some (.int .i64 f)) → (∀ i, i < 2 → W.cell? ⟨g2, i, none⟩ = some (.int .i64 (gt [x, y] i))) → Calls Try.prog 26 #[.slice (some ⟨g1, 0, none⟩) 2 2, .slice (some ⟨g2, 0, none⟩) 2 2] W fun z w' => z = .returned (.int .i64 (wrg [⟨a, b, c⟩, ⟨d, e, f⟩] [x, y])) ∧ Below W.heap.size W w') := fun g1 g2 W h1 h2 => wrong26 _ _ [⟨a, b, c⟩, ⟨d, e, f⟩] [x, y] W (built_sn2 h1) (built_sg (l := [x, y]) h2 2) (by simp) (by simp)
  rw [hk] at C26
  have q : (k != 0) = true := by simpa using h0
  clear hk
  unfold pt st
  go_enter Try.func15, Try.ntmps15
  go_wp2_with (go_at_call 26; refine (C26.out _ _ _ ⟨by simp [go_sem], by simp [go_sem], by simp [go_sem], by simp [go_sem], by simp [go_sem], by simp [go_sem]⟩ (cells2 (by simp [go_sem]) (by simp [go_sem]))).mono ?_; rintro e1 w1 ⟨rfl, hb⟩; have hx : Bx w1 (w.heap.size + 1 + 1 + 1) 0 0 0 := (by have := ((bx_new _ 25).kept (bl_alloc (bl_alloc (bl_refl _)))).kept hb; simpa using this); have p0 : w1.cell? ⟨w.heap.size, 0, none⟩ = some (.int .i64 x) := cl_kept hb (by simp [go_sem]); have p1 : w1.cell? ⟨w.heap.size, 1, none⟩ = some (.int .i64 y) := cl_kept hb (by simp [go_sem]); have l0 : w1.cell? ⟨w.heap.size + 1, 0, none⟩ = some (.int .i64 a) := cl_kept hb (by simp [go_sem]); have l1 : w1.cell? ⟨w.heap.size + 1, 1, none⟩ = some (.int .i64 b) := cl_kept hb (by simp [go_sem]); have l2 : w1.cell? ⟨w.heap.size + 1, 2, none⟩ = some (.int .i64 c) := cl_kept hb (by simp [go_sem]); have m0 : w1.cell? ⟨w.heap.size + 1 + 1, 0, none⟩ = some (.int .i64 d) := cl_kept hb (by simp [go_sem]); have m1 : w1.cell? ⟨w.heap.size + 1 + 1, 1, none⟩ = some (.int .i64 e) := cl_kept hb (by simp [go_sem]); have m2 : w1.cell? ⟨w.heap.size + 1 + 1, 2, none⟩ = some (.int .i64 f) := cl_kept hb (by simp [go_sem]); replace hb := bl_via (bl_alloc (bl_alloc (bl_alloc (bl_alloc (bl_alloc (bl_alloc (bl_refl w))))))) hb; have HB : Hid (Below w.heap.size w w1) := hb; clear hb; have gp := World.block_lt_of_cell? _ _ p0; have gl := World.block_lt_of_cell? _ _ l0; have gm := World.block_lt_of_cell? _ _ m0; have RD : Hid (Rd w1 (w.heap.size + 1 + 1 + 1)) := hx.rd; obtain ⟨⟨r0, r1, r2⟩, hf⟩ := hx; have f0 := hf 0; have f1 := hf 1; have f2 := hf 2; have zg := World.block_lt_of_cell? _ _ r0; clear hf)
  refine bodyPost_ret (v := .tuple #[.agg #[_, _, _], _]) (by simp [results, Try.results15, go_sem, RD.out.1, RD.out.2.1, RD.out.2.2]) rfl ⟨rfl, ?_⟩
  exact bl_set3 HB.out (by omega)
set_option maxRecDepth 100000 in
set_option maxHeartbeats 1600000 in
theorem across15_none (x y a b c d e f : Int) (w : World) (hk : wrg [⟨a, b, c⟩, ⟨d, e, f⟩] [x, y] = 0) (ht : trd a b d e = 0) :
    Calls Try.prog 15 #[pt x y, st a b c, st d e f] w fun e w' => e = .returned (.tuple #[st 0 0 0, .int .i64 9]) ∧ Below w.heap.size w w' := by
  have C26 : Hid (∀ (g1 g2 : Nat) (W : World), (W.cell? ⟨g1, 0, none⟩ = some (.int .i64 a) ∧ W.cell? ⟨g1, 1, none⟩ = some (.int .i64 b) ∧ W.cell? ⟨g1, 2, none⟩ = some (.int .i64 c) ∧ W.cell? ⟨g1, 3, none⟩ = some (.int .i64 d) ∧ W.cell? ⟨g1, 4, none⟩ = some (.int .i64 e) ∧ W.cell? ⟨g1, 5, none⟩ = some (.int .i64 f)) → (∀ i, i < 2 → W.cell? ⟨g2, i, none⟩ = some (.int .i64 (gt [x, y] i))) → Calls Try.prog 26 #[.slice (some ⟨g1, 0, none⟩) 2 2, .slice (some ⟨g2, 0, none⟩) 2 2] W fun z w' => z = .returned (.int .i64 (wrg [⟨a, b, c⟩, ⟨d, e, f⟩] [x, y])) ∧ Below W.heap.size W w') := fun g1 g2 W h1 h2 => wrong26 _ _ [⟨a, b, c⟩, ⟨d, e, f⟩] [x, y] W (built_sn2 h1) (built_sg (l := [x, y]) h2 2) (by simp) (by simp)
  rw [hk] at C26
  obtain ⟨⟨ba, bb, bc⟩, ⟨bd', be, bf⟩, _, _, _⟩ := wrg_ok2 hk
  have CT : Hid (∀ W, Calls Try.prog 33 #[.agg #[.int .i64 a, .int .i64 b, .int .i64 c], .agg #[.int .i64 d, .int .i64 e, .int .i64 f]] W fun e w' => e = .returned (.int .i64 0) ∧ Below W.heap.size W w') := fun W => by
    have := turned33 a b c d e f W ba bb bd' be
    rwa [ht] at this
  clear hk ht ba bb bc bd' be bf
  unfold pt st
  go_enter Try.func15, Try.ntmps15
  go_wp2_with (first | (go_at_call 26; refine (C26.out _ _ _ ⟨by simp [go_sem], by simp [go_sem], by simp [go_sem], by simp [go_sem], by simp [go_sem], by simp [go_sem]⟩ (cells2 (by simp [go_sem]) (by simp [go_sem]))).mono ?_; rintro e1 w1 ⟨rfl, hb⟩; have hx : Bx w1 (w.heap.size + 1 + 1 + 1) 0 0 0 := (by have := ((bx_new _ 25).kept (bl_alloc (bl_alloc (bl_refl _)))).kept hb; simpa using this); have p0 : w1.cell? ⟨w.heap.size, 0, none⟩ = some (.int .i64 x) := cl_kept hb (by simp [go_sem]); have p1 : w1.cell? ⟨w.heap.size, 1, none⟩ = some (.int .i64 y) := cl_kept hb (by simp [go_sem]); have l0 : w1.cell? ⟨w.heap.size + 1, 0, none⟩ = some (.int .i64 a) := cl_kept hb (by simp [go_sem]); have l1 : w1.cell? ⟨w.heap.size + 1, 1, none⟩ = some (.int .i64 b) := cl_kept hb (by simp [go_sem]); have l2 : w1.cell? ⟨w.heap.size + 1, 2, none⟩ = some (.int .i64 c) := cl_kept hb (by simp [go_sem]); have m0 : w1.cell? ⟨w.heap.size + 1 + 1, 0, none⟩ = some (.int .i64 d) := cl_kept hb (by simp [go_sem]); have m1 : w1.cell? ⟨w.heap.size + 1 + 1, 1, none⟩ = some (.int .i64 e) := cl_kept hb (by simp [go_sem]); have m2 : w1.cell? ⟨w.heap.size + 1 + 1, 2, none⟩ = some (.int .i64 f) := cl_kept hb (by simp [go_sem]); replace hb := bl_via (bl_alloc (bl_alloc (bl_alloc (bl_alloc (bl_alloc (bl_alloc (bl_refl w))))))) hb; have HB : Hid (Below w.heap.size w w1) := hb; clear hb; have gp := World.block_lt_of_cell? _ _ p0; have gl := World.block_lt_of_cell? _ _ l0; have gm := World.block_lt_of_cell? _ _ m0) | (go_at_call 33; (with_reducible refine (CT.out _).mono ?_); rintro e2 w2 ⟨rfl, hb2⟩; replace hx := hx.kept hb2; replace HB : Hid (Below w.heap.size w w2) := bl_via HB.out hb2; clear hb2; have RD : Hid (Rd w2 (w.heap.size + 1 + 1 + 1)) := hx.rd; obtain ⟨⟨r0, r1, r2⟩, hf⟩ := hx; have f0 := hf 0; have f1 := hf 1; have f2 := hf 2; have zg := World.block_lt_of_cell? _ _ r0; clear hf) | fail)
  refine bodyPost_ret (v := .tuple #[.agg #[_, _, _], _]) (by simp [results, Try.results15, go_sem, RD.out.1, RD.out.2.1, RD.out.2.2]) rfl ⟨rfl, ?_⟩
  exact bl_set3 HB.out (by omega)
set_option maxRecDepth 100000 in
set_option maxHeartbeats 6400000 in
theorem across15_ok (x y a b c d e f T V M g1 g2 g3 g4 g5 g6 cc k1 g7 k2 : Int) (w : World) (hk : wrg [⟨a, b, c⟩, ⟨d, e, f⟩] [x, y] = 0) (hT : T = trd a b d e) (hV : V = ofs a b c x y) (hM : M = d * d + e * e) (hg1 : g1 = 2 * T) (hg2 : g2 = e * x) (hg3 : g3 = d * y) (hg4 : g4 = g2 - g3) (hg5 : g5 = g1 * g4) (hg6 : g6 = V * M) (hcc : cc = g5 - g6) (hk1 : k1 = g1 * e) (hg7 : g7 = (-2) * T) (hk2 : k2 = g7 * d) (hz : T ≠ 0) :
    Calls Try.prog 15 #[pt x y, st a b c, st d e f] w fun e w' => e = .returned (.tuple #[frm k1 k2 cc, .int .i64 0]) ∧ Below w.heap.size w w' := by
  have C26 : Hid (∀ (g1 g2 : Nat) (W : World), (W.cell? ⟨g1, 0, none⟩ = some (.int .i64 a) ∧ W.cell? ⟨g1, 1, none⟩ = some (.int .i64 b) ∧ W.cell? ⟨g1, 2, none⟩ = some (.int .i64 c) ∧ W.cell? ⟨g1, 3, none⟩ = some (.int .i64 d) ∧ W.cell? ⟨g1, 4, none⟩ = some (.int .i64 e) ∧ W.cell? ⟨g1, 5, none⟩ = some (.int .i64 f)) → (∀ i, i < 2 → W.cell? ⟨g2, i, none⟩ = some (.int .i64 (gt [x, y] i))) → Calls Try.prog 26 #[.slice (some ⟨g1, 0, none⟩) 2 2, .slice (some ⟨g2, 0, none⟩) 2 2] W fun z w' => z = .returned (.int .i64 (wrg [⟨a, b, c⟩, ⟨d, e, f⟩] [x, y])) ∧ Below W.heap.size W w') := fun g1 g2 W h1 h2 => wrong26 _ _ [⟨a, b, c⟩, ⟨d, e, f⟩] [x, y] W (built_sn2 h1) (built_sg (l := [x, y]) h2 2) (by simp) (by simp)
  rw [hk] at C26
  obtain ⟨⟨ba, bb, bc⟩, ⟨bd', be, bf⟩, hn, _, hne⟩ := wrg_ok2 hk
  have bx := hn x (by simp)
  have by_ := hn y (by simp)
  have bT : bd 2000000 T := by rw [hT]; exact bd_up (bd_sub (bd_mul ba be) (bd_mul bb bd')) (by omega)
  have bV : bd 2001000 V := by rw [hV]; exact ofs_bd ba bb bc bx by_
  have bM : bd 2000000 M := by rw [hM]; exact bd_up (bd_add (bd_mul bd' bd') (bd_mul be be)) (by omega)
  have CT : Hid (∀ W, Calls Try.prog 33 #[.agg #[.int .i64 a, .int .i64 b, .int .i64 c], .agg #[.int .i64 d, .int .i64 e, .int .i64 f]] W fun e w' => e = .returned (.int .i64 T) ∧ Below W.heap.size W w') := fun W => by
    rw [hT]
    exact turned33 a b c d e f W ba bb bd' be
  have CO : Hid (∀ W, Calls Try.prog 34 #[.agg #[.int .i64 a, .int .i64 b, .int .i64 c], .agg #[.int .i64 x, .int .i64 y]] W fun e w' => e = .returned (.int .i64 V) ∧ Below W.heap.size W w') := fun W => by
    rw [hV]
    exact off34 a b c x y W ba bb bc bx by_
  have CQ : Hid (∀ (g : Nat) (W : World), (∀ i, i < 2 → W.cell? ⟨g, i, none⟩ = some (.int .i64 (gt [d, e] i))) → Calls Try.prog 25 #[.slice (some ⟨g, 0, none⟩) 2 2] W fun e w' => e = .returned (.int .i64 M) ∧ Below W.heap.size W w') := fun g W h => by
    rw [hM]
    exact sq_two _ _ g W (bd_up bd' (by omega)) (bd_up be (by omega)) h
  have bg1 : bd 4000000 g1 := by rw [hg1]; have := bT; unfold bd at *; omega
  have eg1 : wrap64 (2 * T) = g1 := by rw [← hg1]; exact w64 _ (by have := bg1; unfold bd at this; omega)
  have ig1 : IntKind.i64.wrap (2 * T) = g1 := (i64w _).trans eg1
  have bg2 : bd 1000000 g2 := by rw [hg2]; exact bd_up (bd_mul be bx) (by omega)
  have eg2 : wrap64 (e * x) = g2 := by rw [← hg2]; exact w64 _ (by have := bg2; unfold bd at this; omega)
  have ig2 : IntKind.i64.wrap (e * x) = g2 := (i64w _).trans eg2
  have bg3 : bd 1000000 g3 := by rw [hg3]; exact bd_up (bd_mul bd' by_) (by omega)
  have eg3 : wrap64 (d * y) = g3 := by rw [← hg3]; exact w64 _ (by have := bg3; unfold bd at this; omega)
  have ig3 : IntKind.i64.wrap (d * y) = g3 := (i64w _).trans eg3
  have bg4 : bd 2000000 g4 := by rw [hg4]; exact bd_up (bd_sub bg2 bg3) (by omega)
  have eg4 : wrap64 (g2 - g3) = g4 := by rw [← hg4]; exact w64 _ (by have := bg4; unfold bd at this; omega)
  have ig4 : IntKind.i64.wrap (g2 - g3) = g4 := (i64w _).trans eg4
  have bg5 : bd 8000000000000 g5 := by rw [hg5]; exact bd_up (bd_mul bg1 bg4) (by omega)
  have eg5 : wrap64 (g1 * g4) = g5 := by rw [← hg5]; exact w64 _ (by have := bg5; unfold bd at this; omega)
  have ig5 : IntKind.i64.wrap (g1 * g4) = g5 := (i64w _).trans eg5
  have bg6 : bd 4002000000000 g6 := by rw [hg6]; exact bd_up (bd_mul bV bM) (by omega)
  have eg6 : wrap64 (V * M) = g6 := by rw [← hg6]; exact w64 _ (by have := bg6; unfold bd at this; omega)
  have ig6 : IntKind.i64.wrap (V * M) = g6 := (i64w _).trans eg6
  have bcc : bd 12002000000000 cc := by rw [hcc]; exact bd_up (bd_sub bg5 bg6) (by omega)
  have ecc : wrap64 (g5 - g6) = cc := by rw [← hcc]; exact w64 _ (by have := bcc; unfold bd at this; omega)
  have icc : IntKind.i64.wrap (g5 - g6) = cc := (i64w _).trans ecc
  have bk1 : bd 4000000000 k1 := by rw [hk1]; exact bd_up (bd_mul bg1 be) (by omega)
  have ek1 : wrap64 (g1 * e) = k1 := by rw [← hk1]; exact w64 _ (by have := bk1; unfold bd at this; omega)
  have ik1 : IntKind.i64.wrap (g1 * e) = k1 := (i64w _).trans ek1
  have bg7 : bd 4000000 g7 := by rw [hg7]; have := bT; unfold bd at *; omega
  have eg7 : wrap64 ((-2) * T) = g7 := by rw [← hg7]; exact w64 _ (by have := bg7; unfold bd at this; omega)
  have ig7 : IntKind.i64.wrap ((-2) * T) = g7 := (i64w _).trans eg7
  have bk2 : bd 4000000000 k2 := by rw [hk2]; exact bd_up (bd_mul bg7 bd') (by omega)
  have ek2 : wrap64 (g7 * d) = k2 := by rw [← hk2]; exact w64 _ (by have := bk2; unfold bd at this; omega)
  have ik2 : IntKind.i64.wrap (g7 * d) = k2 := (i64w _).trans ek2
  have hne1 : ¬ (k1 = 0 ∧ k2 = 0) := fun h => by
    obtain ⟨h1, h2⟩ := h
    rw [hk1, hg1] at h1
    rw [hk2, hg7] at h2
    apply hne
    constructor
    · rcases Int.mul_eq_zero.1 h2 with h | h
      · omega
      · exact h
    · rcases Int.mul_eq_zero.1 h1 with h | h
      · omega
      · exact h
  have CF : Hid (∀ W : World, Calls Try.prog 24 #[.int .i64 k1, .int .i64 k2, .int .i64 cc] W fun e w' => e = .returned (frm k1 k2 cc) ∧ Below W.heap.size W w') := fun W => inForm24 k1 k2 cc W hne1 (by have := bk1; unfold sm; unfold bd at this; omega) (by have := bk2; unfold sm; unfold bd at this; omega) (by have := bcc; unfold sm; unfold bd at this; omega)
  obtain ⟨G1, G2, G3, hG⟩ : ∃ G1 G2 G3, frm k1 k2 cc = .agg #[.int .i64 G1, .int .i64 G2, .int .i64 G3] := ⟨_, _, _, rfl⟩
  rw [hG] at CF ⊢
  have qz : (T == 0) = false := by simpa using hz
  clear hG hne1 hne hn hk hT hV hM hz ba bb bc bd' be bf bx by_ bT bV bM
  clear hg1 hg2 hg3 hg4 hg5 hg6 hcc hk1 hg7 hk2 bg1 bg2 bg3 bg4 bg5 bg6 bcc bk1 bg7 bk2
  unfold pt st
  go_enter Try.func15, Try.ntmps15
  go_wp2_with (first | (go_at_call 26; refine (C26.out _ _ _ ⟨by simp [go_sem], by simp [go_sem], by simp [go_sem], by simp [go_sem], by simp [go_sem], by simp [go_sem]⟩ (cells2 (by simp [go_sem]) (by simp [go_sem]))).mono ?_; rintro e1 w1 ⟨rfl, hb⟩; have hx : Bx w1 (w.heap.size + 1 + 1 + 1) 0 0 0 := (by have := ((bx_new _ 25).kept (bl_alloc (bl_alloc (bl_refl _)))).kept hb; simpa using this); have p0 : w1.cell? ⟨w.heap.size, 0, none⟩ = some (.int .i64 x) := cl_kept hb (by simp [go_sem]); have p1 : w1.cell? ⟨w.heap.size, 1, none⟩ = some (.int .i64 y) := cl_kept hb (by simp [go_sem]); have l0 : w1.cell? ⟨w.heap.size + 1, 0, none⟩ = some (.int .i64 a) := cl_kept hb (by simp [go_sem]); have l1 : w1.cell? ⟨w.heap.size + 1, 1, none⟩ = some (.int .i64 b) := cl_kept hb (by simp [go_sem]); have l2 : w1.cell? ⟨w.heap.size + 1, 2, none⟩ = some (.int .i64 c) := cl_kept hb (by simp [go_sem]); have m0 : w1.cell? ⟨w.heap.size + 1 + 1, 0, none⟩ = some (.int .i64 d) := cl_kept hb (by simp [go_sem]); have m1 : w1.cell? ⟨w.heap.size + 1 + 1, 1, none⟩ = some (.int .i64 e) := cl_kept hb (by simp [go_sem]); have m2 : w1.cell? ⟨w.heap.size + 1 + 1, 2, none⟩ = some (.int .i64 f) := cl_kept hb (by simp [go_sem]); replace hb := bl_via (bl_alloc (bl_alloc (bl_alloc (bl_alloc (bl_alloc (bl_alloc (bl_refl w))))))) hb; have HB : Hid (Below w.heap.size w w1) := hb; clear hb; have gp := World.block_lt_of_cell? _ _ p0; have gl := World.block_lt_of_cell? _ _ l0; have gm := World.block_lt_of_cell? _ _ m0) | (go_at_call 33; (with_reducible refine (CT.out _).mono ?_); rintro e2 w2 ⟨rfl, hb2⟩; replace hx := hx.kept hb2; replace HB : Hid (Below w.heap.size w w2) := bl_via HB.out hb2; replace p0 := cl_kept hb2 p0; replace p1 := cl_kept hb2 p1; replace l0 := cl_kept hb2 l0; replace l1 := cl_kept hb2 l1; replace l2 := cl_kept hb2 l2; replace m0 := cl_kept hb2 m0; replace m1 := cl_kept hb2 m1; replace m2 := cl_kept hb2 m2; clear hb2) | fail)
  have HX : Hid (Bx w2 (w.heap.size + 1 + 1 + 1) 0 0 0) := hx
  clear hx
  go_cut [10] (fun s10 wx => s10 = .int .i64 cc ∧ Below w2.heap.size w2 wx)
  case first =>
    have HSX : Hid (∀ w', Below w2.heap.size w2 w' → w'.cell? ⟨w.heap.size, 0, none⟩ = some (.int .i64 x) ∧ w'.cell? ⟨w.heap.size, 1, none⟩ = some (.int .i64 y) ∧ w'.cell? ⟨w.heap.size + 1, 0, none⟩ = some (.int .i64 a) ∧ w'.cell? ⟨w.heap.size + 1, 1, none⟩ = some (.int .i64 b) ∧ w'.cell? ⟨w.heap.size + 1, 2, none⟩ = some (.int .i64 c) ∧ w'.cell? ⟨w.heap.size + 1 + 1, 0, none⟩ = some (.int .i64 d) ∧ w'.cell? ⟨w.heap.size + 1 + 1, 1, none⟩ = some (.int .i64 e) ∧ w'.cell? ⟨w.heap.size + 1 + 1, 2, none⟩ = some (.int .i64 f)) := fun w' hw => ⟨cl_kept hw p0, cl_kept hw p1, cl_kept hw l0, cl_kept hw l1, cl_kept hw l2, cl_kept hw m0, cl_kept hw m1, cl_kept hw m2⟩
    go_region_held3 (fun w' => w'.cell? ⟨w.heap.size, 0, none⟩ = some (.int .i64 x) ∧ w'.cell? ⟨w.heap.size, 1, none⟩ = some (.int .i64 y) ∧ w'.cell? ⟨w.heap.size + 1, 0, none⟩ = some (.int .i64 a) ∧ w'.cell? ⟨w.heap.size + 1, 1, none⟩ = some (.int .i64 b) ∧ w'.cell? ⟨w.heap.size + 1, 2, none⟩ = some (.int .i64 c) ∧ w'.cell? ⟨w.heap.size + 1 + 1, 0, none⟩ = some (.int .i64 d) ∧ w'.cell? ⟨w.heap.size + 1 + 1, 1, none⟩ = some (.int .i64 e) ∧ w'.cell? ⟨w.heap.size + 1 + 1, 2, none⟩ = some (.int .i64 f)) ((refine HSX.out _ ?_; (repeat first | exact bl_refl _ | apply bl_drew | apply bl_alloc | (refine bl_via ?_ (by assumption))); done)) (first | (go_at_call 34; refine Calls.mono (CO.out _) ?_; rintro e3 wa ⟨rfl, hba⟩) | (go_at_call 25; refine Calls.mono (CQ.out _ _ (cells2 ?_ ?_)) ?_; (focus (first | (simp [go_sem]; done) | (refine cl_kept (by assumption) ?_; simp [go_sem]; done) | fail)); (focus (first | (simp [go_sem]; done) | (refine cl_kept (by assumption) ?_; simp [go_sem]; done) | fail)); rintro e3 wa ⟨rfl, hba⟩) | fail)
    all_goals
      go_wp2_with fail
      go_meet
      case rel => exact ⟨rfl, by (repeat first | exact bl_refl _ | apply bl_drew | apply bl_alloc | (refine bl_via ?_ (by assumption)))⟩
  case rest =>
    obtain ⟨rfl, hbc⟩ := hcut
    replace p0 := cl_kept hbc p0
    replace p1 := cl_kept hbc p1
    replace l0 := cl_kept hbc l0
    replace l1 := cl_kept hbc l1
    replace l2 := cl_kept hbc l2
    replace m0 := cl_kept hbc m0
    replace m1 := cl_kept hbc m1
    replace m2 := cl_kept hbc m2
    have HB3 : Hid (Below w.heap.size w wc) := bl_via HB.out hbc
    have HX3 : Hid (Bx wc (w.heap.size + 1 + 1 + 1) 0 0 0) := HX.out.kept hbc
    clear HX HB hbc
    go_wp2_with (go_at_call 24; refine (CF.out _).mono ?_; rintro e4 w4 ⟨rfl, hb4⟩; have hx := HX3.out.kept hb4; have HB : Hid (Below w.heap.size w w4) := bl_via HB3.out hb4; clear hb4; have RD : Hid (Rd w4 (w.heap.size + 1 + 1 + 1)) := hx.rd; obtain ⟨⟨r0, r1, r2⟩, hf⟩ := hx; have f0 := hf 0; have f1 := hf 1; have f2 := hf 2; have zg := World.block_lt_of_cell? _ _ r0; clear hf)
    refine bodyPost_ret (v := .tuple #[.agg #[_, _, _], _]) (by simp [results, Try.results15, go_sem, RD.out.1, RD.out.2.1, RD.out.2.2]) rfl ⟨rfl, ?_⟩
    exact bl_set3 HB.out (by omega)
end Go.Proofs.Ytohnppjbmpaomaa
