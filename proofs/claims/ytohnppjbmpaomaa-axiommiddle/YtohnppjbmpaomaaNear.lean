/- nearPoint, on; what a fold in form says. -/
import Derived.Test.YtohnppjbmpaomaaOnto
import Derived.Test.YtohnppjbmpaomaaUprt
namespace Go.Proofs.Ytohnppjbmpaomaa
open Go.RowKit

def pk (n : Int) : Int := (if n < 0 then -(n + 1) else n).tmod 201
def nr (n : Int) : Int := pk n - 100
theorem tmod_in {n : Int} (h : 0 ≤ n) : 0 ≤ n.tmod 201 ∧ n.tmod 201 ≤ 200 := by
  rw [Int.tmod_eq_emod_of_nonneg h]
  omega
theorem pk_in (n : Int) : 0 ≤ pk n ∧ pk n ≤ 200 := by
  unfold pk
  split
  · exact tmod_in (by omega)
  · exact tmod_in (by omega)
theorem nr_in (n : Int) : bd 100 (nr n) := by
  have := pk_in n
  unfold nr bd
  omega
theorem picked38 (n : Int) (w : World) (h1 : -9223372036854775808 ≤ n) (h2 : n ≤ 9223372036854775807) :
    Calls Try.prog 38 #[.int .i64 n, .int .i64 201] w fun e w' => e = .returned (.int .i64 (pk n)) ∧ Below w.heap.size w w' := by
  have hp : pk n = (if n < 0 then -(n + 1) else n).tmod 201 := rfl
  obtain ⟨v, hv⟩ : ∃ v, v = pk n := ⟨_, rfl⟩
  rw [← hv] at hp ⊢
  have HP : Hid (v = (if n < 0 then -(n + 1) else n).tmod 201) := hp
  clear hp hv
  by_cases c : n < 0
  · have HE : Hid (v = (-(n + 1)).tmod 201) := (by rw [HP.out, if_pos c] : v = (-(n + 1)).tmod 201)
    have e1 : wrap64 (n + 1) = n + 1 := w64 _ (by omega)
    obtain ⟨m, hm⟩ : ∃ m, m = n + 1 := ⟨_, rfl⟩
    rw [← hm] at e1 HE
    have e2 : wrap64 (-m) = -m := w64 _ (by omega)
    have e3 : wrap64 (n + 1) = m := by rw [hm]; exact w64 _ (by omega)
    clear HP hm e1 h1 h2
    go_enter Try.func38, Try.ntmps38
    go_wp2
    go_ret
    exact ⟨ret_int (by first | exact HE.out.symm | (rw [HE.out]; simp)), bl_refl _⟩
  · have HE : Hid (v = n.tmod 201) := (by rw [HP.out, if_neg c] : v = n.tmod 201)
    have e1 : n.tmod 201 = n % 201 := Int.tmod_eq_emod_of_nonneg (by omega)
    clear HP
    go_enter Try.func38, Try.ntmps38
    go_wp2
    go_ret
    exact ⟨ret_int (by first | exact HE.out.symm | (rw [HE.out, e1]) | (rw [HE.out]; simp)), bl_refl _⟩
/-- A point's box, free to be written. -/
def Bp (w : World) (g : Nat) : Prop := (w.cell? ⟨g, 0, none⟩ = some (.int .i64 0) ∧ w.cell? ⟨g, 1, none⟩ = some (.int .i64 0)) ∧ ∀ q, w.frozen? ⟨g, q, none⟩ = false
theorem Bp.kept {w w' : World} {g : Nat} (h : Bp w g) (hb : Below w.heap.size w w') : Bp w' g := by
  obtain ⟨⟨c0, c1⟩, hf⟩ := h
  exact ⟨⟨cl_kept hb c0, cl_kept hb c1⟩, fun q => (hb.frozen (p := ⟨g, q, none⟩) (by have := World.block_lt_of_cell? _ _ c0; exact this)).trans (hf q)⟩
theorem bp_new (w : World) (t : TypeId) : Bp (w.alloc (.cells #[.int .i64 0, .int .i64 0] t)) w.heap.size :=
  ⟨⟨by simp [go_sem], by simp [go_sem]⟩, fun q => by simp [go_sem]⟩
def Rp (w : World) (g : Nat) : Prop := (∀ u, (w.setCell ⟨g, 0, none⟩ u).cell? ⟨g, 0, none⟩ = some u) ∧ (∀ u v, ((w.setCell ⟨g, 0, none⟩ u).setCell ⟨g, 1, none⟩ v).cell? ⟨g, 1, none⟩ = some v)
theorem Bp.rd {w : World} {g : Nat} (h : Bp w g) : Rp w g := by
  obtain ⟨⟨c0, c1⟩, _⟩ := h
  refine ⟨fun u => World.cell?_setCell_same _ _ _ c0, fun u v => World.cell?_setCell_same (u := .int .i64 0) _ _ _ ?_⟩
  rw [World.cell?_setCell_other _ _ _ _ (by simp)]
  exact c1
set_option maxRecDepth 100000 in
theorem near20 (x y : Int) (w : World) (h1 : -9223372036854775808 ≤ x) (h2 : x ≤ 9223372036854775807) (h3 : -9223372036854775808 ≤ y) (h4 : y ≤ 9223372036854775807) :
    Calls Try.prog 20 #[.int .i64 x, .int .i64 y] w fun e w' => e = .returned (pt (nr x) (nr y)) ∧ Below w.heap.size w w' := by
  have C1 : Hid (∀ W, Calls Try.prog 38 #[.int .i64 x, .int .i64 201] W fun e w' => e = .returned (.int .i64 (pk x)) ∧ Below W.heap.size W w') := fun W => picked38 x W h1 h2
  have C2 : Hid (∀ W, Calls Try.prog 38 #[.int .i64 y, .int .i64 201] W fun e w' => e = .returned (.int .i64 (pk y)) ∧ Below W.heap.size W w') := fun W => picked38 y W h3 h4
  obtain ⟨a1, a2⟩ := pk_in x
  obtain ⟨b1, b2⟩ := pk_in y
  unfold nr pt
  generalize pk x = a at *
  generalize pk y = b at *
  clear h1 h2 h3 h4
  go_enter Try.func20, Try.ntmps20
  go_wp2_with (first | (go_at_call 38; (with_reducible refine (C1.out _).mono ?_); rintro e w1 ⟨rfl, hb⟩) | (go_at_call 38; (with_reducible refine (C2.out _).mono ?_); rintro e w2 ⟨rfl, hb2⟩; have hx := ((bp_new w 23).kept hb).kept hb2; have RD : Hid (Rp w2 w.heap.size) := hx.rd; obtain ⟨⟨c0, c1⟩, hf⟩ := hx; have f0 := hf 0; have f1 := hf 1; have zg := World.block_lt_of_cell? _ _ c0; have HB : Hid (Below w.heap.size w w2) := bl_via (bl_via (bl_alloc (bl_refl w)) hb) hb2; clear hf hb hb2) | fail)
  refine bodyPost_ret (v := .agg #[_, _]) (by simp [results, Try.results20, go_sem, RD.out.1, RD.out.2]) rfl ⟨rfl, ?_⟩
  exact bl_set (bl_set HB.out (Nat.le_refl _)) (Nat.le_refl _)
set_option maxRecDepth 100000 in
theorem on21 (A B C X Y t : Int) (w : World) (hA : bd 1000000 A) (hB : bd 1000000 B) (hC : bd 1000000 C) (hX : bd 1000 X) (hY : bd 1000 Y) (ht : bd 1000 t) (h : A * X + B * Y = C * t) :
    Calls Try.prog 21 #[.agg #[.int .i64 A, .int .i64 B, .int .i64 C], .int .i64 X, .int .i64 Y, .int .i64 t] w fun e w' => e = .returned (.bool true) ∧ Below w.heap.size w w' := by
  have m1 := bd_mul hA hX
  have m2 := bd_mul hB hY
  have m3 := bd_mul hC ht
  have q : (A * X + B * Y == C * t) = true := by rw [beq_iff_eq]; exact h
  unfold bd at *
  obtain ⟨_, _⟩ := m1
  obtain ⟨_, _⟩ := m2
  obtain ⟨_, _⟩ := m3
  have HQ : Hid (A * X + B * Y = C * t) := h
  clear hA hB hC hX hY ht h
  go_enter Try.func21, Try.ntmps21
  go_wp2
  go_ret
  exact ⟨ret_bool (by first | rfl | (rw [HQ.out]; simp) | simp [HQ.out]), bl_alloc (bl_refl _)⟩
end Go.Proofs.Ytohnppjbmpaomaa
