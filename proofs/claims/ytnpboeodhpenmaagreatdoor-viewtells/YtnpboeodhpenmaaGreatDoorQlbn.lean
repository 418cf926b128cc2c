/- The reference lays stacks. -/
import Derived.Test.YtnpboeodhpenmaaGreatDoorQlbi
namespace Go.Proofs.YtnpboeodhpenmaaGreatDoor
open Go.RowKit Go.ChangeMaps

theorem TRow.farE {w : World} {a : Option Addr} {l : List (Int × Int × Int)} (h : TRow w a l) {p : Addr} {u : Value} (hp : ∀ q, a = some ⟨q, 0, none⟩ → q ≠ p.block) : TRow (w.setCell p u) a l := fun i hi => by
  obtain ⟨g, e, c0, c1, c2⟩ := h i hi
  have hg := hp g e
  exact ⟨g, e, set_far c0 (by dsimp only; exact hg), set_far c1 (by dsimp only; exact hg), set_far c2 (by dsimp only; exact hg)⟩
/-- Stacks in memory that lies at a block or above. -/
def SRowE (w : World) (base : Nat) (a : Option Addr) (S : List ((Int × Int × Int) × List (Int × Int × Int))) : Prop :=
  ∀ i (h : i < S.length), ∃ g sa sc, a = some ⟨g, 0, none⟩ ∧ base ≤ g ∧ w.cell? ⟨g, i * 4, none⟩ = some (.int .i64 S[i].1.1) ∧ w.cell? ⟨g, i * 4 + 1, none⟩ = some (.int .i64 S[i].1.2.1) ∧ w.cell? ⟨g, i * 4 + 2, none⟩ = some (.int .i64 S[i].1.2.2) ∧ w.cell? ⟨g, i * 4 + 3, none⟩ = some (.slice sa S[i].2.length sc) ∧ TRow w sa S[i].2 ∧ ∀ q, sa = some ⟨q, 0, none⟩ → base ≤ q
theorem SRowE.row {w : World} {base : Nat} {a : Option Addr} {S : List ((Int × Int × Int) × List (Int × Int × Int))} (h : SRowE w base a S) : SRow w a S := fun i hi => by
  obtain ⟨g, sa, sc, e, _, c0, c1, c2, c3, ht, _⟩ := h i hi
  exact ⟨g, sa, sc, e, c0, c1, c2, c3, ht⟩
theorem SRowE.set {w : World} {base : Nat} {a : Option Addr} {S : List ((Int × Int × Int) × List (Int × Int × Int))} (h : SRowE w base a S) {p : Addr} {u : Value} (hp : p.block < base) : SRowE (w.setCell p u) base a S := fun i hi => by
  obtain ⟨g, sa, sc, e, h1, c0, c1, c2, c3, ht, hq⟩ := h i hi
  exact ⟨g, sa, sc, e, h1, set_far c0 (by dsimp only; omega), set_far c1 (by dsimp only; omega), set_far c2 (by dsimp only; omega), set_far c3 (by dsimp only; omega), ht.farE (fun q e => by have := hq q e; omega), hq⟩
theorem HSt.srowE {w0 wx : World} {B base : Nat} {p0 p1 p2 p3 p4 v : Value} {R : List ((Int × Int × Int) × Value)} {S : List ((Int × Int × Int) × List (Int × Int × Int))} (h : HSt w0 wx B p0 p1 p2 p3 p4 v R S) (hb : base ≤ B) : ∃ t u, v = .slice t S.length u ∧ SRowE wx base t S := by
  obtain ⟨a, c, hv⟩ := own_any h.own
  refine ⟨a, c, by rw [hv, h.len], fun i hi => ?_⟩
  have hiR : i < R.length := by rw [h.len]; exact hi
  have ho := h.own
  rw [hv] at ho
  obtain ⟨g, rfl⟩ := own_some2 ho (by omega)
  have h2 := h
  rw [hv] at h2
  obtain ⟨c0, c1, c2, c3⟩ := h2.cells rfl hiR
  obtain ⟨e1, a9, c9, e2, ht⟩ := h.hold i hiR hi
  have hap := h.apart R[i] (List.getElem_mem hiR)
  rw [e1] at c0 c1 c2
  rw [e2] at c3 hap
  have hg := (ho.lt g rfl).1
  exact ⟨g, a9, c9, rfl, by omega, c0, c1, c2, c3, ht, fun q e => by
    subst e
    have := (hap q rfl).1
    omega⟩
/-- An empty state's box. -/
def BoxR (w : World) (g : Nat) : Prop := (w.cell? ⟨g, 0, none⟩ = some (.int .i64 0) ∧ w.cell? ⟨g, 1, none⟩ = some (.int .i64 0) ∧ w.cell? ⟨g, 2, none⟩ = some (.slice none 0 0) ∧ w.cell? ⟨g, 3, none⟩ = some (.slice none 0 0) ∧ w.cell? ⟨g, 4, none⟩ = some (.slice none 0 0) ∧ w.cell? ⟨g, 5, none⟩ = some (.slice none 0 0)) ∧ ∀ q, w.frozen? ⟨g, q, none⟩ = false
theorem BoxR.kept {w w' : World} {g : Nat} (h : BoxR w g) (hb : Below w.heap.size w w') : BoxR w' g := by
  obtain ⟨⟨c0, c1, c2, c3, c4, c5⟩, hf⟩ := h
  exact ⟨⟨cl_kept hb c0, cl_kept hb c1, cl_kept hb c2, cl_kept hb c3, cl_kept hb c4, cl_kept hb c5⟩, fun q => (hb.frozen (p := ⟨g, q, none⟩) (by have := World.block_lt_of_cell? _ _ c0; exact this)).trans (hf q)⟩
theorem boxR_new {w : World} (o) : BoxR ((w.alloc o).alloc (.cells #[.int .i64 0, .int .i64 0, .slice none 0 0, .slice none 0 0, .slice none 0 0, .slice none 0 0] 29)) (w.heap.size + 1) := by
  have e : w.heap.size + 1 = (w.alloc o).heap.size := by simp
  rw [e]
  exact ⟨⟨by simp [go_sem], by simp [go_sem], by simp [go_sem], by simp [go_sem], by simp [go_sem], by simp [go_sem]⟩, fun q => by simp [go_sem]⟩
end Go.Proofs.YtnpboeodhpenmaaGreatDoor
