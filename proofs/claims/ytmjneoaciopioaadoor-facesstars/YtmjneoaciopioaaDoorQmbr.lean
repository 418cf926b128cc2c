/- A crease is drawn at a point; is paper all around? -/
import Derived.Test.YtmjneoaciopioaaDoorQmbh
namespace Go.Proofs.YtmjneoaciopioaaDoor
open Go.RowKit

/-- A kind is put at a direction. -/
def putK (k : Nat → Int) (D : Nat) (v : Int) : Nat → Int := fun d => if d = D then v else k d
theorem AB.setK {w : World} {B : Nat} {b : Nat → Bool} {k : Nat → Int} (h : AB w B b k) {e : Nat} (he : e < 8) (v : Int) : AB (w.setCell ⟨B, e * 2 + 1, none⟩ (.int .i64 v)) B b (putK k e v) := fun d hd => by
  obtain ⟨h0, h1, h2, h3⟩ := h d hd
  refine ⟨?_, ?_, by rw [World.frozen?_setCell]; exact h2, by rw [World.frozen?_setCell]; exact h3⟩
  · rw [World.cell?_setCell_other _ _ _ _ (by simp <;> omega)]
    exact h0
  · unfold putK
    by_cases c : d = e
    · subst c
      rw [World.cell?_setCell_same _ _ _ h1]
      simp
    · rw [World.cell?_setCell_other _ _ _ _ (by simp <;> omega), h1, if_neg c]
set_option maxRecDepth 100000 in
set_option maxHeartbeats 1600000 in
theorem creased_any (b : Nat → Bool) (k : Nat → Int) (D : Nat) (hD : D < 8) (v : Int) (w : World) :
    Calls Tryd.prog 63 #[arv b k, .int .i64 (D : Int), .int .i64 v] w fun e w' => e = .returned (arv b (putK k D v)) ∧ Below w.heap.size w w' := by
  unfold arv
  have HN : Hid (AB (w.alloc (.cells #[.bool (b 0), .int .i64 (k 0), .bool (b 1), .int .i64 (k 1), .bool (b 2), .int .i64 (k 2), .bool (b 3), .int .i64 (k 3), .bool (b 4), .int .i64 (k 4), .bool (b 5), .int .i64 (k 5), .bool (b 6), .int .i64 (k 6), .bool (b 7), .int .i64 (k 7)] 117)) w.heap.size b k) := AB.new w b k
  obtain ⟨kk, hkk⟩ : ∃ f, f = putK k D v := ⟨_, rfl⟩
  have HK : Hid (kk = putK k D v) := hkk
  rw [← hkk]
  clear hkk
  have i1 : (D : Int) < 8 := by omega
  have i0 : (0 : Int) ≤ (D : Int) := by omega
  go_enter Tryd.func63, Tryd.ntmps63
  go_upto_region 1 with (fail)
  refine wp_named (fun W1 hW1 => ?_)
  have HS : Hid (AB W1 w.heap.size b k ∧ AB W1 (w.heap.size + 1) (fun _ => false) (fun _ => 0) ∧ Below w.heap.size w W1) := by
    have hz : (w.alloc (.cells #[.bool (b 0), .int .i64 (k 0), .bool (b 1), .int .i64 (k 1), .bool (b 2), .int .i64 (k 2), .bool (b 3), .int .i64 (k 3), .bool (b 4), .int .i64 (k 4), .bool (b 5), .int .i64 (k 5), .bool (b 6), .int .i64 (k 6), .bool (b 7), .int .i64 (k 7)] 117)).heap.size = w.heap.size + 1 := by simp
    have h2 := AB.new (w.alloc (.cells #[.bool (b 0), .int .i64 (k 0), .bool (b 1), .int .i64 (k 1), .bool (b 2), .int .i64 (k 2), .bool (b 3), .int .i64 (k 3), .bool (b 4), .int .i64 (k 4), .bool (b 5), .int .i64 (k 5), .bool (b 6), .int .i64 (k 6), .bool (b 7), .int .i64 (k 7)] 117)) (fun _ => false) (fun _ => 0)
    rw [hz] at h2
    have : AB W1 w.heap.size b k ∧ AB W1 (w.heap.size + 1) (fun _ => false) (fun _ => 0) ∧ Below w.heap.size w W1 := by
      rw [hW1]
      exact ⟨HN.out.kept (bl_alloc (bl_refl _)), h2, bl_alloc (bl_alloc (bl_refl _))⟩
    exact this
  clear HN hW1
  obtain ⟨_, c1, _, f1⟩ := HS.out.1 D hD
  have z0 : w.heap.size < W1.heap.size := World.block_lt_of_cell? _ _ c1
  go_cut [7, 8] (fun s7 s8 wx => AB wx w.heap.size b kk ∧ AB wx (w.heap.size + 1) (fun _ => false) (fun _ => 0) ∧ Below w.heap.size w wx)
  case first =>
    go_wp2
    go_meet
    case rel =>
      rw [HK.out]
      exact ⟨HS.out.1.setK hD v, HS.out.2.1.far (by simp), bl_set HS.out.2.2 (Nat.le_refl _)⟩
  case rest =>
    obtain ⟨hA, hR, hB⟩ := hcut
    have HB : Hid (Below w.heap.size w wc) := hB
    clear HS c1 f1 z0 hB
    obtain ⟨c0, c1, _, _⟩ := hA 0 (by omega)
    obtain ⟨c2, c3, _, _⟩ := hA 1 (by omega)
    obtain ⟨c4, c5, _, _⟩ := hA 2 (by omega)
    obtain ⟨c6, c7, _, _⟩ := hA 3 (by omega)
    obtain ⟨c8, c9, _, _⟩ := hA 4 (by omega)
    obtain ⟨c10, c11, _, _⟩ := hA 5 (by omega)
    obtain ⟨c12, c13, _, _⟩ := hA 6 (by omega)
    obtain ⟨c14, c15, _, _⟩ := hA 7 (by omega)
    obtain ⟨r0, r1, f0, f1⟩ := hR 0 (by omega)
    obtain ⟨r2, r3, f2, f3⟩ := hR 1 (by omega)
    obtain ⟨r4, r5, f4, f5⟩ := hR 2 (by omega)
    obtain ⟨r6, r7, f6, f7⟩ := hR 3 (by omega)
    obtain ⟨r8, r9, f8, f9⟩ := hR 4 (by omega)
    obtain ⟨r10, r11, f10, f11⟩ := hR 5 (by omega)
    obtain ⟨r12, r13, f12, f13⟩ := hR 6 (by omega)
    obtain ⟨r14, r15, f14, f15⟩ := hR 7 (by omega)
    simp only [Nat.zero_mul, Nat.zero_add, Nat.one_mul, Nat.reduceMul, Nat.reduceAdd] at c0 r0 f0 c1 r1 f1 c2 r2 f2 c3 r3 f3 c4 r4 f4 c5 r5 f5 c6 r6 f6 c7 r7 f7 c8 r8 f8 c9 r9 f9 c10 r10 f10 c11 r11 f11 c12 r12 f12 c13 r13 f13 c14 r14 f14 c15 r15 f15
    have z0 : w.heap.size < wc.heap.size := World.block_lt_of_cell? _ _ c0
    have z1 : w.heap.size + 1 < wc.heap.size := World.block_lt_of_cell? _ _ r0
    clear hA hR
    go_wp2
    refine bodyPost_ret (v := .agg #[.bool (b 0), .int .i64 (kk 0), .bool (b 1), .int .i64 (kk 1), .bool (b 2), .int .i64 (kk 2), .bool (b 3), .int .i64 (kk 3), .bool (b 4), .int .i64 (kk 4), .bool (b 5), .int .i64 (kk 5), .bool (b 6), .int .i64 (kk 6), .bool (b 7), .int .i64 (kk 7)]) (by simp [results, Tryd.results63, go_sem, r0, r1, r2, r3, r4, r5, r6, r7, r8, r9, r10, r11, r12, r13, r14, r15]) rfl ⟨rfl, ?_⟩
    with_reducible repeat (first | exact HB.out | refine bl_set ?_ ?_)
    all_goals (dsimp only; omega)
set_option maxRecDepth 100000 in
set_option maxHeartbeats 1600000 in
theorem within_any (b : Nat → Bool) (k : Nat → Int) (w : World) :
    Calls Tryd.prog 65 #[arv b k] w fun e w' => e = .returned (.bool ((List.range 8).all b)) ∧ Below w.heap.size w w' := by
  obtain ⟨rv, hrv⟩ : ∃ r, r = (List.range 8).all b := ⟨_, rfl⟩
  have HR : Hid (rv = (List.range 8).all b) := hrv
  rw [← hrv]
  clear hrv
  have hx : ∀ (W : World) (i : Nat), i < 8 → (Instr.index 117 (arv b k) (.int .i64 (i : Int))).run Tryd.prog W = .ok (.agg #[.bool (b i), .int .i64 (k i)]) W := fun W i hi => by
    rcases eight hi with rfl | rfl | rfl | rfl | rfl | rfl | rfl | rfl <;> kernel_rfl
  have HX : Hid (∀ (W : World) (i : Nat), i < 8 → (Instr.index 117 (arv b k) (.int .i64 (i : Int))).run Tryd.prog W = .ok (.agg #[.bool (b i), .int .i64 (k i)]) W) := hx
  clear hx
  unfold arv at HX ⊢
  go_enter Tryd.func65, Tryd.ntmps65
  go_wp2
  go_loopg [6] 8 (fun gk s6 wx => ∃ i : Nat, i ≤ 8 ∧ gk = 8 - i ∧ s6 = .int .i64 (i : Int) ∧ Below w.heap.size w wx ∧ ∀ d, d < i → b d = true)
  case atStart => exact ⟨0, by omega, rfl, rfl, bl_alloc (bl_refl _), fun d hd => by omega⟩
  case round =>
    obtain ⟨i, hi, rfl, rfl, hB, hall⟩ := hrel
    have HB : Hid (Below w.heap.size w wr ∧ ∀ d, d < i → b d = true) := ⟨hB, hall⟩
    clear hB hall
    by_cases h1 : i < 8
    · have i1 : (i : Int) < 8 := by omega
      have i0 : (0 : Int) ≤ (i : Int) := by omega
      have hx1 := fun W => HX.out W i h1
      obtain ⟨bi, hbi⟩ : ∃ x, x = b i := ⟨_, rfl⟩
      have HBI : Hid (bi = b i) := hbi
      rw [← hbi] at hx1
      clear hbi
      cases bi
      · go_wp2
        go_ret
        refine ⟨ret_bool ?_, by with_reducible repeat' (first | exact HB.out.1 | refine bl_alloc ?_)⟩
        rw [HR.out]
        symm
        rw [List.all_eq_false]
        exact ⟨i, List.mem_range.2 h1, by rw [← HBI.out]; simp⟩
      · go_wp2
        go_roundg (8 - (i + 1))
        case measure => omega
        case rel =>
          refine ⟨i + 1, by omega, rfl, by go_num, by with_reducible repeat' (first | exact HB.out.1 | refine bl_alloc ?_), fun d hd => ?_⟩
          by_cases hd2 : d < i
          · exact HB.out.2 d hd2
          · have : d = i := by omega
            rw [this]
            exact HBI.out.symm
    · have i1 : ¬ (i : Int) < 8 := by omega
      obtain rfl : i = 8 := by omega
      go_wp2
      go_ret
      refine ⟨ret_bool ?_, HB.out.1⟩
      rw [HR.out]
      symm
      rw [List.all_eq_true]
      exact fun d hd => HB.out.2 d (List.mem_range.1 hd)
end Go.Proofs.YtmjneoaciopioaaDoor
