/- inForm. -/
import Derived.Test.YtohnppjbmpaomaaComm
import Derived.Test.YtohnppjbmpaomaaSqur
namespace Go.Proofs.Ytohnppjbmpaomaa
open Go.RowKit

theorem g3_le {a b c : Int} (h : ¬ (a = 0 ∧ b = 0)) (ha : sm a) (hb : sm b) : (g3 a b c : Int) ≤ 1152921504606846976 := by
  have h1 : g3 a b c ≤ Nat.gcd a.natAbs b.natAbs := Nat.gcd_le_left _ (by
    rcases Nat.eq_zero_or_pos (Nat.gcd a.natAbs b.natAbs) with e | e
    · exfalso
      rw [Nat.gcd_eq_zero_iff] at e
      exact h ⟨by omega, by omega⟩
    · exact e)
  unfold sm at *
  by_cases e : a = 0
  · have h2 := Nat.gcd_le_right (n := b.natAbs) a.natAbs (by omega)
    omega
  · have h2 := Nat.gcd_le_left (m := a.natAbs) b.natAbs (by omega)
    omega
theorem sm_tdiv {x d : Int} (h : sm x) : sm (x.tdiv d) := by
  have h1 : (x.tdiv d).natAbs = x.natAbs / d.natAbs := Int.natAbs_tdiv x d
  have h2 := Nat.div_le_self x.natAbs d.natAbs
  unfold sm at *
  omega
theorem w_tdiv {x d : Int} (h : sm x) : wrap64 (x.tdiv d) = x.tdiv d := w64 _ (by have := sm_tdiv (d := d) h; unfold sm at this; omega)
theorem dv_neg {a b c : Int} (h : a < 0 ∨ (a = 0 ∧ b < 0)) : dv a b c = -(g3 a b c : Int) := by rw [dv, if_pos h]
theorem dv_pos {a b c : Int} (h : ¬ (a < 0 ∨ (a = 0 ∧ b < 0))) : dv a b c = (g3 a b c : Int) := by rw [dv, if_neg h]
/-- A straight's box, free to be written. -/
def Bx (w : World) (g : Nat) (a b c : Int) : Prop := (w.cell? ⟨g, 0, none⟩ = some (.int .i64 a) ∧ w.cell? ⟨g, 1, none⟩ = some (.int .i64 b) ∧ w.cell? ⟨g, 2, none⟩ = some (.int .i64 c)) ∧ ∀ q, w.frozen? ⟨g, q, none⟩ = false
theorem Bx.kept {w w' : World} {g : Nat} {a b c : Int} (h : Bx w g a b c) (hb : Below w.heap.size w w') : Bx w' g a b c := by
  obtain ⟨⟨c0, c1, c2⟩, hf⟩ := h
  exact ⟨⟨cl_kept hb c0, cl_kept hb c1, cl_kept hb c2⟩, fun q => (hb.frozen (p := ⟨g, q, none⟩) (by have := World.block_lt_of_cell? _ _ c0; exact this)).trans (hf q)⟩
theorem bx_new (w : World) (t : TypeId) : Bx (w.alloc (.cells #[.int .i64 0, .int .i64 0, .int .i64 0] t)) w.heap.size 0 0 0 :=
  ⟨⟨by simp [go_sem], by simp [go_sem], by simp [go_sem]⟩, fun q => by simp [go_sem]⟩
def Rd (w : World) (g : Nat) : Prop := (∀ u, (w.setCell ⟨g, 0, none⟩ u).cell? ⟨g, 0, none⟩ = some u) ∧ (∀ u v, ((w.setCell ⟨g, 0, none⟩ u).setCell ⟨g, 1, none⟩ v).cell? ⟨g, 1, none⟩ = some v) ∧ ∀ u v t, (((w.setCell ⟨g, 0, none⟩ u).setCell ⟨g, 1, none⟩ v).setCell ⟨g, 2, none⟩ t).cell? ⟨g, 2, none⟩ = some t
theorem Bx.rd {w : World} {g : Nat} {a b c : Int} (h : Bx w g a b c) : Rd w g := by
  obtain ⟨⟨c0, c1, c2⟩, _⟩ := h
  refine ⟨fun u => World.cell?_setCell_same _ _ _ c0, fun u v => World.cell?_setCell_same (u := .int .i64 b) _ _ _ ?_, fun u v t => World.cell?_setCell_same (u := .int .i64 c) _ _ _ ?_⟩
  · rw [World.cell?_setCell_other _ _ _ _ (by simp)]
    exact c1
  · rw [World.cell?_setCell_other _ _ _ _ (by simp), World.cell?_setCell_other _ _ _ _ (by simp)]
    exact c2
theorem Bx.lt {w : World} {g : Nat} {a b c : Int} (h : Bx w g a b c) : g < w.heap.size := World.block_lt_of_cell? _ _ h.1.1
theorem bl_set {w v : World} {p : Addr} {u : Value} (h : Below w.heap.size w v) (hp : w.heap.size ≤ p.block) : Below w.heap.size w (v.setCell p u) := h.setCell hp u
set_option maxRecDepth 100000 in
set_option maxHeartbeats 1600000 in
theorem inForm24 (a b c : Int) (w : World) (h : ¬ (a = 0 ∧ b = 0)) (ha : sm a) (hb : sm b) (hc : sm c) :
    Calls Try.prog 24 #[.int .i64 a, .int .i64 b, .int .i64 c] w fun e w' => e = .returned (frm a b c) ∧ Below w.heap.size w w' := by
  have C39 : Hid (∀ (g : Nat) (W : World), (∀ i, i < 3 → W.cell? ⟨g, i, none⟩ = some (.int .i64 (gt [a, b, c] i))) → Calls Try.prog 39 #[.slice (some ⟨g, 0, none⟩) 3 3] W fun e w' => e = .returned (.int .i64 (g3 a b c : Int)) ∧ Below W.heap.size W w') := fun g W hW => by
    rw [← gL_three]
    refine common39 _ [a, b, c] W (built_sg (l := [a, b, c]) hW 3) (by simp) fun i hi => ?_
    have : i = 0 ∨ i = 1 ∨ i = 2 := by simp at hi; omega
    rcases this with rfl | rfl | rfl <;> assumption
  have hp := g3_pos (c := c) h
  have hle := g3_le (c := c) h ha hb
  have HD : Hid ((a < 0 ∨ (a = 0 ∧ b < 0) → dv a b c = -(g3 a b c : Int)) ∧ (¬ (a < 0 ∨ (a = 0 ∧ b < 0)) → dv a b c = (g3 a b c : Int))) := ⟨dv_neg, dv_pos⟩
  have HW : Hid (∀ d, wrap64 (a.tdiv d) = a.tdiv d ∧ wrap64 (b.tdiv d) = b.tdiv d ∧ wrap64 (c.tdiv d) = c.tdiv d) := fun d => ⟨w_tdiv ha, w_tdiv hb, w_tdiv hc⟩
  unfold frm
  obtain ⟨G, hG⟩ : ∃ G, G = g3 a b c := ⟨_, rfl⟩
  rw [← hG] at C39 hp hle HD
  obtain ⟨D, hD⟩ : ∃ D, D = dv a b c := ⟨_, rfl⟩
  rw [← hD] at HD ⊢
  have HB0 : Hid (∀ W W' : World, Below W.heap.size W W' → Below W.heap.size W W'.drew) := fun W W' hb => hb.drew
  obtain ⟨wa, wb, wc⟩ := HW.out D
  unfold st
  clear hG hD ha hb hc HW
  by_cases c1 : a < 0
  · have q1 : decide (a < 0) = true := by simpa using c1
    have eD : wrap64 (-(G : Int)) = D := by rw [HD.out.1 (Or.inl c1)]; exact w64 _ (by omega)
    have nD : ¬ D = 0 := by rw [HD.out.1 (Or.inl c1)]; omega
    clear hp hle HD h
    go_enter Try.func24, Try.ntmps24
    go_wp2_with (go_at_call 39; refine (C39.out _ _ ?_).mono ?_; · intro i hi; have : i = 0 ∨ i = 1 ∨ i = 2 := by omega
                                                                   rcases this with rfl | rfl | rfl <;> simp [go_sem, gt]
                 rintro e w1 ⟨rfl, hb⟩; have hx := ((bx_new w 25).kept (bl_alloc (bl_refl _))).kept hb; have RD : Hid (Rd w1 w.heap.size) := hx.rd; obtain ⟨⟨c0, c1, c2⟩, hf⟩ := hx; have f0 := hf 0; have f1 := hf 1; have f2 := hf 2; have zg := World.block_lt_of_cell? _ _ c0; replace hb := bl_via (bl_alloc (bl_alloc (bl_refl w))) hb; have HB : Hid (Below w.heap.size w w1) := hb; clear hf hb)
    go_region
    go_wp2
    refine bodyPost_ret (v := .agg #[_, _, _]) (by simp [results, Try.results24, go_sem, RD.out.1, RD.out.2.1, RD.out.2.2]) rfl ⟨rfl, ?_⟩
    exact bl_set (bl_set (bl_set (bl_drew HB.out) (Nat.le_refl _)) (Nat.le_refl _)) (Nat.le_refl _)
  · have q1 : decide (a < 0) = false := by simpa using c1
    by_cases c2 : a = 0
    · have q2 : decide (a = 0) = true := by simpa using c2
      by_cases c3 : b < 0
      · have q3 : decide (b < 0) = true := by simpa using c3
        have eD : wrap64 (-(G : Int)) = D := by rw [HD.out.1 (Or.inr ⟨c2, c3⟩)]; exact w64 _ (by omega)
        have nD : ¬ D = 0 := by rw [HD.out.1 (Or.inr ⟨c2, c3⟩)]; omega
        clear hp hle HD h
        subst c2
        go_enter Try.func24, Try.ntmps24
        go_wp2_with (go_at_call 39; refine (C39.out _ _ ?_).mono ?_; · intro i hi; have : i = 0 ∨ i = 1 ∨ i = 2 := by omega
                                                                       rcases this with rfl | rfl | rfl <;> simp [go_sem, gt]
                     rintro e w1 ⟨rfl, hb⟩; have hx := ((bx_new w 25).kept (bl_alloc (bl_refl _))).kept hb; have RD : Hid (Rd w1 w.heap.size) := hx.rd; obtain ⟨⟨c0, c1, c2⟩, hf⟩ := hx; have f0 := hf 0; have f1 := hf 1; have f2 := hf 2; have zg := World.block_lt_of_cell? _ _ c0; replace hb := bl_via (bl_alloc (bl_alloc (bl_refl w))) hb; have HB : Hid (Below w.heap.size w w1) := hb; clear hf hb)
        go_region
        go_wp2
        refine bodyPost_ret (v := .agg #[_, _, _]) (by simp [results, Try.results24, go_sem, RD.out.1, RD.out.2.1, RD.out.2.2]) rfl ⟨rfl, ?_⟩
        exact bl_set (bl_set (bl_set (bl_drew HB.out) (Nat.le_refl _)) (Nat.le_refl _)) (Nat.le_refl _)
      · have q3 : decide (b < 0) = false := by simpa using c3
        have eD : (G : Int) = D := (HD.out.2 (by omega)).symm
        have nD : ¬ D = 0 := by rw [HD.out.2 (by omega)]; omega
        clear hp hle HD h
        rw [eD] at C39
        clear eD
        subst c2
        go_enter Try.func24, Try.ntmps24
        go_wp2_with (go_at_call 39; refine (C39.out _ _ ?_).mono ?_; · intro i hi; have : i = 0 ∨ i = 1 ∨ i = 2 := by omega
                                                                       rcases this with rfl | rfl | rfl <;> simp [go_sem, gt]
                     rintro e w1 ⟨rfl, hb⟩; have hx := ((bx_new w 25).kept (bl_alloc (bl_refl _))).kept hb; have RD : Hid (Rd w1 w.heap.size) := hx.rd; obtain ⟨⟨c0, c1, c2⟩, hf⟩ := hx; have f0 := hf 0; have f1 := hf 1; have f2 := hf 2; have zg := World.block_lt_of_cell? _ _ c0; replace hb := bl_via (bl_alloc (bl_alloc (bl_refl w))) hb; have HB : Hid (Below w.heap.size w w1) := hb; clear hf hb)
        go_region
        go_wp2
        refine bodyPost_ret (v := .agg #[_, _, _]) (by simp [results, Try.results24, go_sem, RD.out.1, RD.out.2.1, RD.out.2.2]) rfl ⟨rfl, ?_⟩
        exact bl_set (bl_set (bl_set (bl_drew HB.out) (Nat.le_refl _)) (Nat.le_refl _)) (Nat.le_refl _)
    · have q2 : (a == 0) = false := by simpa using c2
      have eD : (G : Int) = D := (HD.out.2 (by omega)).symm
      have nD : ¬ D = 0 := by rw [HD.out.2 (by omega)]; omega
      clear hp hle HD h
      rw [eD] at C39
      clear eD
      go_enter Try.func24, Try.ntmps24
      go_wp2_with (go_at_call 39; refine (C39.out _ _ ?_).mono ?_; · intro i hi; have : i = 0 ∨ i = 1 ∨ i = 2 := by omega
                                                                     rcases this with rfl | rfl | rfl <;> simp [go_sem, gt]
                   rintro e w1 ⟨rfl, hb⟩; have hx := ((bx_new w 25).kept (bl_alloc (bl_refl _))).kept hb; have RD : Hid (Rd w1 w.heap.size) := hx.rd; obtain ⟨⟨c0, c1, c2⟩, hf⟩ := hx; have f0 := hf 0; have f1 := hf 1; have f2 := hf 2; have zg := World.block_lt_of_cell? _ _ c0; replace hb := bl_via (bl_alloc (bl_alloc (bl_refl w))) hb; have HB : Hid (Below w.heap.size w w1) := hb; clear hf hb)
      go_region
      go_wp2
      refine bodyPost_ret (v := .agg #[_, _, _]) (by simp [results, Try.results24, go_sem, RD.out.1, RD.out.2.1, RD.out.2.2]) rfl ⟨rfl, ?_⟩
      exact bl_set (bl_set (bl_set (bl_drew HB.out) (Nat.le_refl _)) (Nat.le_refl _)) (Nat.le_refl _)
end Go.Proofs.Ytohnppjbmpaomaa
