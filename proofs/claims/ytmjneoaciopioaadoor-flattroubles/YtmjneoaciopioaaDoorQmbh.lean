/- Paper is filled in around a point. -/
import Derived.Test.YtmjneoaciopioaaDoorQmbg
import Derived.Test.YtmjneoaciopioaaDoorQmaa
namespace Go.Proofs.YtmjneoaciopioaaDoor
open Go.RowKit Go.ChangeMaps

/-- What lies around a point, as the code has it. -/
def arv (b : Nat → Bool) (k : Nat → Int) : Value := .agg #[.bool (b 0), .int .i64 (k 0), .bool (b 1), .int .i64 (k 1), .bool (b 2), .int .i64 (k 2), .bool (b 3), .int .i64 (k 3), .bool (b 4), .int .i64 (k 4), .bool (b 5), .int .i64 (k 5), .bool (b 6), .int .i64 (k 6), .bool (b 7), .int .i64 (k 7)]
/-- .. in a block that may be written. -/
def AB (w : World) (B : Nat) (b : Nat → Bool) (k : Nat → Int) : Prop := ∀ d, d < 8 → w.cell? ⟨B, d * 2, none⟩ = some (.bool (b d)) ∧ w.cell? ⟨B, d * 2 + 1, none⟩ = some (.int .i64 (k d)) ∧ w.frozen? ⟨B, d * 2, none⟩ = false ∧ w.frozen? ⟨B, d * 2 + 1, none⟩ = false
theorem eight {d : Nat} (h : d < 8) : d = 0 ∨ d = 1 ∨ d = 2 ∨ d = 3 ∨ d = 4 ∨ d = 5 ∨ d = 6 ∨ d = 7 := by omega
theorem AB.kept {w w' : World} {B : Nat} {b : Nat → Bool} {k : Nat → Int} (h : AB w B b k) (hb : Below w.heap.size w w') : AB w' B b k := fun d hd => by
  obtain ⟨h0, h1, h2, h3⟩ := h d hd
  have hB := World.block_lt_of_cell? _ _ h0
  exact ⟨cl_kept hb h0, cl_kept hb h1, (hb.frozen (p := ⟨B, d * 2, none⟩) hB).trans h2, (hb.frozen (p := ⟨B, d * 2 + 1, none⟩) hB).trans h3⟩
theorem AB.new (w : World) (b : Nat → Bool) (k : Nat → Int) : AB (w.alloc (.cells #[.bool (b 0), .int .i64 (k 0), .bool (b 1), .int .i64 (k 1), .bool (b 2), .int .i64 (k 2), .bool (b 3), .int .i64 (k 3), .bool (b 4), .int .i64 (k 4), .bool (b 5), .int .i64 (k 5), .bool (b 6), .int .i64 (k 6), .bool (b 7), .int .i64 (k 7)] 117)) w.heap.size b k := fun d hd => by
  rcases eight hd with rfl | rfl | rfl | rfl | rfl | rfl | rfl | rfl <;> simp [go_sem]
theorem AB.set {w : World} {B : Nat} {b : Nat → Bool} {k : Nat → Int} (h : AB w B b k) {e : Nat} (he : e < 8) : AB (w.setCell ⟨B, e * 2, none⟩ (.bool true)) B (fun d => b d || decide (d = e)) k := fun d hd => by
  obtain ⟨h0, h1, h2, h3⟩ := h d hd
  refine ⟨?_, ?_, by rw [World.frozen?_setCell]; exact h2, by rw [World.frozen?_setCell]; exact h3⟩
  · by_cases q : d = e
    · subst q
      rw [World.cell?_setCell_same _ _ _ h0]
      simp
    · rw [World.cell?_setCell_other _ _ _ _ (by simp <;> omega), h0]
      simp [q]
  · rw [World.cell?_setCell_other _ _ _ _ (by simp <;> omega)]
    exact h1
theorem AB.far {w : World} {B B' o : Nat} {b : Nat → Bool} {k : Nat → Int} {v : Value} (h : AB w B b k) (hne : B ≠ B') : AB (w.setCell ⟨B', o, none⟩ v) B b k := fun d hd => by
  obtain ⟨h0, h1, h2, h3⟩ := h d hd
  exact ⟨set_far h0 hne, set_far h1 hne, by rw [World.frozen?_setCell]; exact h2, by rw [World.frozen?_setCell]; exact h3⟩
/-- The eighths from one on, j of them. -/
def fillJ (b : Nat → Bool) (fr : Nat) : Nat → Nat → Bool
  | 0 => b
  | j + 1 => fun d => fillJ b fr j d || decide (d = (fr + j) % 8)

set_option maxRecDepth 100000 in
set_option maxHeartbeats 3200000 in
theorem filled_any (b : Nat → Bool) (k : Nat → Int) (fr n : Nat) (hf : fr < 8) (hn : n ≤ 7) (w : World) :
    Calls Tryd.prog 57 #[arv b k, .int .i64 (fr : Int), .int .i64 (((fr + n) % 8 : Nat) : Int)] w fun e w' => e = .returned (arv (fillJ b fr n) k) ∧ Below w.heap.size w w' := by
  unfold arv
  obtain ⟨tt, hto⟩ : ∃ t, t = (fr + n) % 8 := ⟨_, rfl⟩
  have HTO : Hid (tt = (fr + n) % 8) := hto
  rw [← hto]
  have ht8 : tt < 8 := by omega
  clear hto
  have HN : Hid (AB (w.alloc (.cells #[.bool (b 0), .int .i64 (k 0), .bool (b 1), .int .i64 (k 1), .bool (b 2), .int .i64 (k 2), .bool (b 3), .int .i64 (k 3), .bool (b 4), .int .i64 (k 4), .bool (b 5), .int .i64 (k 5), .bool (b 6), .int .i64 (k 6), .bool (b 7), .int .i64 (k 7)] 117)) w.heap.size b k) := AB.new w b k
  go_enter Tryd.func57, Tryd.ntmps57
  go_wp2
  go_loopg [7] n (fun gk s7 wx => ∃ j e : Nat, j ≤ n ∧ gk = n - j ∧ e = (fr + j) % 8 ∧ s7 = .int .i64 (e : Int) ∧ AB wx w.heap.size (fillJ b fr j) k ∧ AB wx (w.heap.size + 1) (fun _ => false) (fun _ => 0) ∧ Below w.heap.size w wx)
  case atStart =>
    have hz : (w.alloc (.cells #[.bool (b 0), .int .i64 (k 0), .bool (b 1), .int .i64 (k 1), .bool (b 2), .int .i64 (k 2), .bool (b 3), .int .i64 (k 3), .bool (b 4), .int .i64 (k 4), .bool (b 5), .int .i64 (k 5), .bool (b 6), .int .i64 (k 6), .bool (b 7), .int .i64 (k 7)] 117)).heap.size = w.heap.size + 1 := by simp
    refine ⟨0, fr, by omega, rfl, by omega, rfl, HN.out.kept (bl_alloc (bl_refl _)), ?_, bl_alloc (bl_alloc (bl_refl _))⟩
    have := AB.new (w.alloc (.cells #[.bool (b 0), .int .i64 (k 0), .bool (b 1), .int .i64 (k 1), .bool (b 2), .int .i64 (k 2), .bool (b 3), .int .i64 (k 3), .bool (b 4), .int .i64 (k 4), .bool (b 5), .int .i64 (k 5), .bool (b 6), .int .i64 (k 6), .bool (b 7), .int .i64 (k 7)] 117)) (fun _ => false) (fun _ => 0)
    rw [hz] at this
    exact this
  case round =>
    clear HN
    obtain ⟨j, e, hj, rfl, he, rfl, hA, hR, hB⟩ := hrel
    have HS : Hid (e = (fr + j) % 8 ∧ AB wr w.heap.size (fillJ b fr j) k ∧ AB wr (w.heap.size + 1) (fun _ => false) (fun _ => 0) ∧ Below w.heap.size w wr) := ⟨he, hA, hR, hB⟩
    have e8 : e < 8 := by omega
    by_cases h1 : j < n
    · have hne : ¬ (e : Int) = (tt : Int) := by
        have := HTO.out
        omega
      obtain ⟨c0, _, f0, _⟩ := hA e e8
      have z0 : w.heap.size < wr.heap.size := World.block_lt_of_cell? _ _ c0
      have i1 : (e : Int) < 8 := by omega
      have i0 : (0 : Int) ≤ (e : Int) := by omega
      clear hA hR hB he
      go_wp2
      go_roundg (n - (j + 1))
      case measure => omega
      case rel =>
        refine ⟨j + 1, (fr + (j + 1)) % 8, by omega, rfl, rfl, ?_, ?_, HS.out.2.2.1.far (by simp), bl_set HS.out.2.2.2 (Nat.le_refl _)⟩
        · have := HS.out.1
          congr 1
          first | (go_num; done) | omega | (rw [Int.tmod_eq_emod_of_nonneg (by omega)]; omega)
        · have h9 := HS.out.2.1.set e8
          rw [HS.out.1] at h9 ⊢
          exact h9
    · obtain rfl : j = n := by omega
      have hee : e = tt := by
        have := HTO.out
        omega
      subst hee
      obtain ⟨c0, c1, _, _⟩ := hA 0 (by omega)
      obtain ⟨c2, c3, _, _⟩ := hA 1 (by omega)
      obtain ⟨c4, c5, _, _⟩ := hA 2 (by omega)
      obtain ⟨c6, c7, _, _⟩ := hA 3 (by omega)
      obtain ⟨c8, c9, _, _⟩ := hA 4 (by omega)
      obtain ⟨c10, c11, _, _⟩ := hA 5 (by omega)
      obtain ⟨c12, c13, _, _⟩ := hA 6 (by omega)
      obtain ⟨c14, c15, _, _⟩ := hA 7 (by omega)
      obtain ⟨r0, r1, f0, f1⟩ := hR 0 (by omega)
      obtain ⟨r2, r3, f2, f3⟩ := hR 1 (by omega)
      obtain ⟨r4, r5, f4, f5⟩ := hR 2 (by omega)
      obtain ⟨r6, r7, f6, f7⟩ := hR 3 (by omega)
      obtain ⟨r8, r9, f8, f9⟩ := hR 4 (by omega)
      obtain ⟨r10, r11, f10, f11⟩ := hR 5 (by omega)
      obtain ⟨r12, r13, f12, f13⟩ := hR 6 (by omega)
      obtain ⟨r14, r15, f14, f15⟩ := hR 7 (by omega)
      simp only [Nat.zero_mul, Nat.zero_add, Nat.one_mul, Nat.reduceMul, Nat.reduceAdd] at c0 r0 f0 c1 r1 f1 c2 r2 f2 c3 r3 f3 c4 r4 f4 c5 r5 f5 c6 r6 f6 c7 r7 f7 c8 r8 f8 c9 r9 f9 c10 r10 f10 c11 r11 f11 c12 r12 f12 c13 r13 f13 c14 r14 f14 c15 r15 f15
      have z0 : w.heap.size < wr.heap.size := World.block_lt_of_cell? _ _ c0
      have z1 : w.heap.size + 1 < wr.heap.size := World.block_lt_of_cell? _ _ r0
      clear hA hR hB he
      go_wp2
      refine bodyPost_ret (v := .agg #[.bool (fillJ b fr j 0), .int .i64 (k 0), .bool (fillJ b fr j 1), .int .i64 (k 1), .bool (fillJ b fr j 2), .int .i64 (k 2), .bool (fillJ b fr j 3), .int .i64 (k 3), .bool (fillJ b fr j 4), .int .i64 (k 4), .bool (fillJ b fr j 5), .int .i64 (k 5), .bool (fillJ b fr j 6), .int .i64 (k 6), .bool (fillJ b fr j 7), .int .i64 (k 7)]) (by simp [results, Tryd.results57, go_sem, r0, r1, r2, r3, r4, r5, r6, r7, r8, r9, r10, r11, r12, r13, r14, r15]) rfl ⟨rfl, ?_⟩
      with_reducible repeat (first | exact HS.out.2.2.2 | refine bl_set ?_ ?_)
      all_goals (dsimp only; omega)
end Go.Proofs.YtmjneoaciopioaaDoor
