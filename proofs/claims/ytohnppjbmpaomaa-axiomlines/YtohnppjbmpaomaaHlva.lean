/- Halves: what is refused; no whole numbers. -/
import Derived.Test.YtohnppjbmpaomaaAcrs
import Derived.Test.YtohnppjbmpaomaaSort
import Derived.Test.YtohnppjbmpaomaaRoot
namespace Go.Proofs.Ytohnppjbmpaomaa
open Go.RowKit

theorem sg_nil (w : World) : Sg w (.slice none 0 0) [] := ⟨none, 0, rfl, fun i hi => by simp at hi⟩
theorem inf25 : (Try.prog.info? 25).map (fun i => (i.zero, i.size, i.bytes)) = some (some (.agg #[.int .i64 0, .int .i64 0, .int .i64 0]), 3, 24) := by kernel_rfl
def rw3 (a b c : Int) : List Value := [.int .i64 a, .int .i64 b, .int .i64 c]
theorem add_to (g j : Nat) : (⟨g, 0, none⟩ : Addr).add j = ⟨g, j, none⟩ := by
  unfold Addr.add
  split <;> simp_all
theorem three_cells {w : World} {g : Nat} {a b c : Int} (h0 : w.cell? ⟨g, 0, none⟩ = some (.int .i64 a)) (h1 : w.cell? ⟨g, 1, none⟩ = some (.int .i64 b)) (h2 : w.cell? ⟨g, 2, none⟩ = some (.int .i64 c)) : ∀ j u, (rw3 a b c)[j]? = some u → w.cell? ((⟨g, 0, none⟩ : Addr).add j) = some u := fun j u hu => by
  rw [add_to]
  match j, hu with
  | 0, hu => simp [rw3] at hu; subst hu; exact h0
  | 1, hu => simp [rw3] at hu; subst hu; exact h1
  | 2, hu => simp [rw3] at hu; subst hu; exact h2
  | j + 3, hu => simp [rw3] at hu
theorem three_one (a b c : Int) : ∀ u ∈ rw3 a b c, u.oneCell' = true := fun u hu => by
  simp [rw3] at hu
  rcases hu with rfl | rfl | rfl <;> rfl
theorem own_one {w : World} {base : Nat} {v : Value} {a b c : Int} (h : w.ownsRow base 25 3 v 1 (rw3 a b c)) : ∃ g cap, v = .slice (some ⟨g, 0, none⟩) 1 cap ∧ (w.cell? ⟨g, 0, none⟩ = some (.int .i64 a) ∧ w.cell? ⟨g, 1, none⟩ = some (.int .i64 b) ∧ w.cell? ⟨g, 2, none⟩ = some (.int .i64 c)) ∧ base ≤ g := by
  rcases h.2 with ⟨_, h0⟩ | ⟨g, cap, cur, rfl, h2, _⟩
  · omega
  · have hc := fun j u hu => by
      have := h.cells (g := g) rfl j u hu
      rwa [add_to] at this
    exact ⟨g, cap, rfl, ⟨hc 0 _ rfl, hc 1 _ rfl, hc 2 _ rfl⟩, h2⟩
theorem own_two {w : World} {base : Nat} {v : Value} {a b c A B C : Int} (h : w.ownsRow base 25 3 v 2 (rw3 a b c ++ rw3 A B C)) : ∃ g cap, v = .slice (some ⟨g, 0, none⟩) 2 cap ∧ RowS w g a b c A B C ∧ base ≤ g := by
  rcases h.2 with ⟨_, h0⟩ | ⟨g, cap, cur, rfl, h2, h3, _⟩
  · omega
  · have hc := fun j u hu => by
      have := h.cells (g := g) rfl j u hu
      rwa [add_to] at this
    exact ⟨g, cap, rfl, ⟨⟨hc 0 _ rfl, hc 1 _ rfl, hc 2 _ rfl, hc 3 _ rfl, hc 4 _ rfl, hc 5 _ rfl⟩, fun q => by simp [World.frozen?, h3]⟩, h2⟩
set_option maxRecDepth 100000 in
set_option maxHeartbeats 1600000 in
theorem halves14_no (a b c d e f k : Int) (w : World) (hk : wrg [⟨a, b, c⟩, ⟨d, e, f⟩] [] = k) (h0 : k ≠ 0) :
    Calls Try.prog 14 #[st a b c, st d e f] w fun z w' => z = .returned (.tuple #[.slice none 0 0, .int .i64 k]) ∧ Below w.heap.size w w' := by
  have C26 : Hid (∀ (g1 : Nat) (W : World), (W.cell? ⟨g1, 0, none⟩ = some (.int .i64 a) ∧ W.cell? ⟨g1, 1, none⟩ = some (.int .i64 b) ∧ W.cell? ⟨g1, 2, none⟩ = some (.int .i64 c) ∧ W.cell? ⟨g1, 3, none⟩ = some (.int .i64 d) ∧ W.cell? ⟨g1, 4, none⟩ = some (.int .i64 e) ∧ W.cell? ⟨g1, 5, none⟩ = some (.int .i64 f)) → Calls Try.prog 26 #[.slice (some ⟨g1, 0, none⟩) 2 2, .slice none 0 0] W fun z w' => z = .returned (.int .i64 (wrg [⟨a, b, c⟩, ⟨d, e, f⟩] [])) ∧ Below W.heap.size W w') := fun g1 W h1 => wrong26 _ _ [⟨a, b, c⟩, ⟨d, e, f⟩] [] W (built_sn2 h1) (sg_nil W) (by simp) (by simp)
  rw [hk] at C26
  have q : (k != 0) = true := by simpa using h0
  clear hk
  unfold st
  go_enter Try.func14, Try.ntmps14
  go_wp2_with (go_at_call 26; refine (C26.out _ _ ⟨by simp [go_sem], by simp [go_sem], by simp [go_sem], by simp [go_sem], by simp [go_sem], by simp [go_sem]⟩).mono ?_; rintro z1 w1 ⟨rfl, hb⟩; have l0 : w1.cell? ⟨w.heap.size, 0, none⟩ = some (.int .i64 a) := cl_kept hb (by simp [go_sem]); have l1 : w1.cell? ⟨w.heap.size, 1, none⟩ = some (.int .i64 b) := cl_kept hb (by simp [go_sem]); have l2 : w1.cell? ⟨w.heap.size, 2, none⟩ = some (.int .i64 c) := cl_kept hb (by simp [go_sem]); have m0 : w1.cell? ⟨w.heap.size + 1, 0, none⟩ = some (.int .i64 d) := cl_kept hb (by simp [go_sem]); have m1 : w1.cell? ⟨w.heap.size + 1, 1, none⟩ = some (.int .i64 e) := cl_kept hb (by simp [go_sem]); have m2 : w1.cell? ⟨w.heap.size + 1, 2, none⟩ = some (.int .i64 f) := cl_kept hb (by simp [go_sem]); replace hb := bl_via (bl_alloc (bl_alloc (bl_alloc (bl_refl w)))) hb; have HB : Hid (Below w.heap.size w w1) := hb; clear hb; have gl := World.block_lt_of_cell? _ _ l0; have gm := World.block_lt_of_cell? _ _ m0)
  refine bodyPost_ret (v := .tuple #[_, _]) (by simp [results, Try.results14, go_sem]) rfl ⟨rfl, ?_⟩
  exact HB.out
set_option maxRecDepth 100000 in
set_option maxHeartbeats 6400000 in
theorem halves14_kind (a b c d e f nn kk pr : Int) (w : World) (hk : wrg [⟨a, b, c⟩, ⟨d, e, f⟩] [] = 0) (hnn : nn = a * a + b * b) (hkk : kk = d * d + e * e) (hpr : pr = nn * kk) (hp0 : 0 ≤ pr) (hno : ∀ ρ : Nat, pr ≠ (ρ : Int) * (ρ : Int)) :
    Calls Try.prog 14 #[st a b c, st d e f] w fun z w' => z = .returned (.tuple #[.slice none 0 0, .int .i64 4]) ∧ Below w.heap.size w w' := by
  have C26 : Hid (∀ (g1 : Nat) (W : World), (W.cell? ⟨g1, 0, none⟩ = some (.int .i64 a) ∧ W.cell? ⟨g1, 1, none⟩ = some (.int .i64 b) ∧ W.cell? ⟨g1, 2, none⟩ = some (.int .i64 c) ∧ W.cell? ⟨g1, 3, none⟩ = some (.int .i64 d) ∧ W.cell? ⟨g1, 4, none⟩ = some (.int .i64 e) ∧ W.cell? ⟨g1, 5, none⟩ = some (.int .i64 f)) → Calls Try.prog 26 #[.slice (some ⟨g1, 0, none⟩) 2 2, .slice none 0 0] W fun z w' => z = .returned (.int .i64 (wrg [⟨a, b, c⟩, ⟨d, e, f⟩] [])) ∧ Below W.heap.size W w') := fun g1 W h1 => wrong26 _ _ [⟨a, b, c⟩, ⟨d, e, f⟩] [] W (built_sn2 h1) (sg_nil W) (by simp) (by simp)
  rw [hk] at C26
  obtain ⟨⟨ba, bb, bc⟩, ⟨bd', be, bf⟩, _, _, _⟩ := wrg_ok2 hk
  have bnn : bd 2000000 nn := by rw [hnn]; exact bd_up (bd_add (bd_mul ba ba) (bd_mul bb bb)) (by omega)
  have bkk : bd 2000000 kk := by rw [hkk]; exact bd_up (bd_add (bd_mul bd' bd') (bd_mul be be)) (by omega)
  have CP : Hid (∀ (g : Nat) (W : World), (∀ i, i < 2 → W.cell? ⟨g, i, none⟩ = some (.int .i64 (gt [a, b] i))) → Calls Try.prog 25 #[.slice (some ⟨g, 0, none⟩) 2 2] W fun z w' => z = .returned (.int .i64 nn) ∧ Below W.heap.size W w') := fun g W h => by
    rw [hnn]
    exact sq_two _ _ g W (bd_up ba (by omega)) (bd_up bb (by omega)) h
  have CQ : Hid (∀ (g : Nat) (W : World), (∀ i, i < 2 → W.cell? ⟨g, i, none⟩ = some (.int .i64 (gt [d, e] i))) → Calls Try.prog 25 #[.slice (some ⟨g, 0, none⟩) 2 2] W fun z w' => z = .returned (.int .i64 kk) ∧ Below W.heap.size W w') := fun g W h => by
    rw [hkk]
    exact sq_two _ _ g W (bd_up bd' (by omega)) (bd_up be (by omega)) h
  have bpr : bd 4000000000000 pr := by rw [hpr]; exact bd_up (bd_mul bnn bkk) (by omega)
  have epr : wrap64 (nn * kk) = pr := by rw [← hpr]; exact w64 _ (by have := bpr; unfold bd at this; omega)
  have ipr : IntKind.i64.wrap (nn * kk) = pr := (i64w _).trans epr
  have CR : Hid (∀ W : World, Calls Try.prog 29 #[.int .i64 pr] W fun z w' => ∃ r : Int, z = .returned (.tuple #[.int .i64 r, .bool false]) ∧ Below W.heap.size W w') := fun W => root_no pr W hp0 (by have := bpr; unfold bd at this; omega) hno
  clear hk hnn hkk hp0 hno ba bb bc bd' be bf bnn bkk
  clear hpr bpr
  unfold st
  go_enter Try.func14, Try.ntmps14
  go_wp2_with (go_at_call 26; refine (C26.out _ _ ⟨by simp [go_sem], by simp [go_sem], by simp [go_sem], by simp [go_sem], by simp [go_sem], by simp [go_sem]⟩).mono ?_; rintro z1 w1 ⟨rfl, hb⟩; have l0 : w1.cell? ⟨w.heap.size, 0, none⟩ = some (.int .i64 a) := cl_kept hb (by simp [go_sem]); have l1 : w1.cell? ⟨w.heap.size, 1, none⟩ = some (.int .i64 b) := cl_kept hb (by simp [go_sem]); have l2 : w1.cell? ⟨w.heap.size, 2, none⟩ = some (.int .i64 c) := cl_kept hb (by simp [go_sem]); have m0 : w1.cell? ⟨w.heap.size + 1, 0, none⟩ = some (.int .i64 d) := cl_kept hb (by simp [go_sem]); have m1 : w1.cell? ⟨w.heap.size + 1, 1, none⟩ = some (.int .i64 e) := cl_kept hb (by simp [go_sem]); have m2 : w1.cell? ⟨w.heap.size + 1, 2, none⟩ = some (.int .i64 f) := cl_kept hb (by simp [go_sem]); replace hb := bl_via (bl_alloc (bl_alloc (bl_alloc (bl_refl w)))) hb; have HB : Hid (Below w.heap.size w w1) := hb; clear hb; have gl := World.block_lt_of_cell? _ _ l0; have gm := World.block_lt_of_cell? _ _ m0)
  go_cut [7, 8] (fun s7 s8 wx => s7 = .int .i64 nn ∧ s8 = .int .i64 kk ∧ Below w1.heap.size w1 wx)
  case first =>
    have HSX : Hid (∀ w', Below w1.heap.size w1 w' → w'.cell? ⟨w.heap.size, 0, none⟩ = some (.int .i64 a) ∧ w'.cell? ⟨w.heap.size, 1, none⟩ = some (.int .i64 b) ∧ w'.cell? ⟨w.heap.size, 2, none⟩ = some (.int .i64 c) ∧ w'.cell? ⟨w.heap.size + 1, 0, none⟩ = some (.int .i64 d) ∧ w'.cell? ⟨w.heap.size + 1, 1, none⟩ = some (.int .i64 e) ∧ w'.cell? ⟨w.heap.size + 1, 2, none⟩ = some (.int .i64 f)) := fun w' hw => ⟨cl_kept hw l0, cl_kept hw l1, cl_kept hw l2, cl_kept hw m0, cl_kept hw m1, cl_kept hw m2⟩
    go_region_held3 (fun w' => w'.cell? ⟨w.heap.size, 0, none⟩ = some (.int .i64 a) ∧ w'.cell? ⟨w.heap.size, 1, none⟩ = some (.int .i64 b) ∧ w'.cell? ⟨w.heap.size, 2, none⟩ = some (.int .i64 c) ∧ w'.cell? ⟨w.heap.size + 1, 0, none⟩ = some (.int .i64 d) ∧ w'.cell? ⟨w.heap.size + 1, 1, none⟩ = some (.int .i64 e) ∧ w'.cell? ⟨w.heap.size + 1, 2, none⟩ = some (.int .i64 f)) ((refine HSX.out _ ?_; (repeat first | exact bl_refl _ | apply bl_drew | apply bl_alloc | (refine bl_via ?_ (by assumption))); done)) (first | (go_at_call 25; refine Calls.mono (CP.out _ _ (cells2 ?_ ?_)) ?_; (focus (first | (simp [go_sem]; done) | (refine cl_kept (by assumption) ?_; simp [go_sem]; done) | fail)); (focus (first | (simp [go_sem]; done) | (refine cl_kept (by assumption) ?_; simp [go_sem]; done) | fail)); rintro z3 wa ⟨rfl, hba⟩) | (go_at_call 25; refine Calls.mono (CQ.out _ _ (cells2 ?_ ?_)) ?_; (focus (first | (simp [go_sem]; done) | (refine cl_kept (by assumption) ?_; simp [go_sem]; done) | fail)); (focus (first | (simp [go_sem]; done) | (refine cl_kept (by assumption) ?_; simp [go_sem]; done) | fail)); rintro z3 wa ⟨rfl, hba⟩) | fail)
    all_goals
      go_wp2_with fail
      go_meet
      case rel => exact ⟨rfl, rfl, by (repeat first | exact bl_refl _ | apply bl_drew | apply bl_alloc | (refine bl_via ?_ (by assumption)))⟩
  case rest =>
    obtain ⟨rfl, rfl, hbc⟩ := hcut
    replace l0 := cl_kept hbc l0
    replace l1 := cl_kept hbc l1
    replace l2 := cl_kept hbc l2
    replace m0 := cl_kept hbc m0
    replace m1 := cl_kept hbc m1
    replace m2 := cl_kept hbc m2
    replace HB : Hid (Below w.heap.size w wc) := bl_via HB.out hbc
    clear hbc
    go_wp2_with (go_at_call 29; refine (CR.out _).mono ?_; rintro z4 w4 ⟨r, rfl, hb4⟩; replace HB : Hid (Below w.heap.size w w4) := bl_via HB.out hb4; clear hb4)
    refine bodyPost_ret (v := .tuple #[_, _]) (by simp [results, Try.results14, go_sem]) rfl ⟨rfl, ?_⟩
    exact HB.out
end Go.Proofs.Ytohnppjbmpaomaa
