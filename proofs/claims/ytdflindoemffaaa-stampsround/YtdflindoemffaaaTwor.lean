/- Two rows of ties, by their sides. -/
import Derived.Test.YtdflindoemffaaaThru
import Derived.Deep.AppendLies
namespace Go.Proofs.Ytdflindoemffaaa
open Go.RowKit

def tlo (l : List Int) (k : Nat) : Int := if hk l k < hk l (k + 1) then hk l k else hk l (k + 1)
def thi (l : List Int) (k : Nat) : Int := if hk l k < hk l (k + 1) then hk l (k + 1) else hk l k
/-- The first n ties of a side, cell by cell. -/
def tc (l : List Int) (p : Nat) : Nat → List Value
  | 0 => []
  | n + 1 => tc l p n ++ [.int .i64 (tlo l (p + 2 * n)), .int .i64 (thi l (p + 2 * n))]
theorem tc_len (l : List Int) (p : Nat) : ∀ n, (tc l p n).length = n * 2
  | 0 => rfl
  | n + 1 => by rw [tc, List.length_append, tc_len l p n]; simp; omega
theorem tc_at (l : List Int) (p : Nat) : ∀ n x, x < n → (tc l p n)[2 * x]? = some (.int .i64 (tlo l (p + 2 * x))) ∧ (tc l p n)[2 * x + 1]? = some (.int .i64 (thi l (p + 2 * x)))
  | 0, x, h => by omega
  | n + 1, x, h => by
    by_cases e : x = n
    · subst e
      rw [tc, List.getElem?_append_right (by rw [tc_len]; omega), List.getElem?_append_right (by rw [tc_len]; omega), tc_len]
      rw [show 2 * x - x * 2 = 0 by omega, show 2 * x + 1 - x * 2 = 1 by omega]
      exact ⟨rfl, rfl⟩
    · rw [tc, List.getElem?_append_left (by rw [tc_len]; omega), List.getElem?_append_left (by rw [tc_len]; omega)]
      exact tc_at l p n x (by omega)
theorem gb_via {w1 W W' : World} {B : Nat} {row : Option Nat} (h : w1.grownBy W (some B)) (k : W.grownBy W' row) (hr : row = some B ∨ ∀ j, row = some j → w1.heap.size ≤ j) : w1.grownBy W' (some B) := by
  refine ⟨k.os.trans h.os, k.tape.trans h.tape, k.output.trans h.output, Nat.le_trans h.size k.size, fun j hj hne => ?_⟩
  rw [k.block j (Nat.lt_of_lt_of_le hj h.size) (fun e => ?_), h.block j hj hne]
  rcases hr with hr | hr
  · exact hne (e.trans hr)
  · have := hr j e.symm
    omega
def Two (w1 W : World) (B pa pb : Nat) (sa sb : Value) (na nb : Nat) (xa xb : List Value) : Prop :=
  w1.grownBy W (some B) ∧ B < w1.heap.size ∧ pa ≠ pb ∧ (W.cell? ⟨B, pa, none⟩ = some sa ∧ W.frozen? ⟨B, pa, none⟩ = false) ∧ (W.cell? ⟨B, pb, none⟩ = some sb ∧ W.frozen? ⟨B, pb, none⟩ = false) ∧
    W.ownsRow w1.heap.size 51 2 sa na xa ∧ W.ownsRow w1.heap.size 51 2 sb nb xb ∧ (sb.ownBlock = none ∨ sb.ownBlock ≠ sa.ownBlock)
theorem Two.symm {w1 W : World} {B pa pb : Nat} {sa sb : Value} {na nb : Nat} {xa xb : List Value} (h : Two w1 W B pa pb sa sb na nb xa xb) : Two w1 W B pb pa sb sa nb na xb xa := by
  obtain ⟨h1, h2, h3, h4, h5, h6, h7, h8⟩ := h
  refine ⟨h1, h2, h3.symm, h5, h4, h7, h6, ?_⟩
  rcases h8 with h8 | h8
  · rw [h8]
    cases sa.ownBlock
    · exact Or.inl rfl
    · exact Or.inr (by simp)
  · exact Or.inr h8.symm
theorem fr_grown {W W' : World} {B p : Nat} {v : Value} {row : Option Nat} (hc : W.cell? ⟨B, p, none⟩ = some v) (hf : W.frozen? ⟨B, p, none⟩ = false) (hg : W.grownBy W' row) (hne : some B ≠ row) : W'.cell? ⟨B, p, none⟩ = some v ∧ W'.frozen? ⟨B, p, none⟩ = false :=
  ⟨hg.cell hc hne, (World.frozen?_of_block (a := ⟨B, p, none⟩) (hg.block B (World.block_lt_of_cell? _ _ hc) hne)).trans hf⟩
theorem Two.kept {w1 W W' : World} {B pa pb : Nat} {sa sb : Value} {na nb : Nat} {xa xb : List Value} (h : Two w1 W B pa pb sa sb na nb xa xb) (hb : Below W.heap.size W W') : Two w1 W' B pa pb sa sb na nb xa xb := by
  obtain ⟨h1, h2, h3, h4, h5, h6, h7, h8⟩ := h
  exact ⟨gb_via h1 (bl_grown hb) (Or.inr fun j hj => by cases hj), h2, h3, fr_grown h4.1 h4.2 (bl_grown hb) (by simp), fr_grown h5.1 h5.2 (bl_grown hb) (by simp), own_below h6 hb, own_below h7 hb, h8⟩
theorem Two.more {w1 W w3 : World} {B pa pb : Nat} {sa sb : Value} {na nb : Nat} {xa xb new : List Value} {o : Obj} {g cap : Nat} (h : Two w1 W B pa pb sa sb na nb xa xb)
    (ho : w3.ownsRow w1.heap.size 51 2 (.slice (some ⟨g, 0, none⟩) (na + 1) cap) (na + 1) (xa ++ new)) (hg : (W.alloc o).grownBy w3 sa.ownBlock) (hs : sa.ownBlock = some g ∨ g = (W.alloc o).heap.size) :
    Two w1 (w3.setCell ⟨B, pa, none⟩ (.slice (some ⟨g, 0, none⟩) (na + 1) cap)) B pa pb (.slice (some ⟨g, 0, none⟩) (na + 1) cap) sb (na + 1) nb (xa ++ new) xb := by
  obtain ⟨h1, h2, h3, h4, h5, h6, h7, h8⟩ := (h.kept (W' := W.alloc o) (bl_alloc (bl_refl W)))
  have hbase : ∀ j, sa.ownBlock = some j → w1.heap.size ≤ j := own_base h6
  have hB : some B ≠ sa.ownBlock := fun e => by
    have := hbase B e.symm
    omega
  have g3 := gb_via h1 hg (Or.inr hbase)
  have a4 := fr_grown h4.1 h4.2 hg hB
  have a5 := fr_grown h5.1 h5.2 hg hB
  have o7 := h7.kept hg h8
  have hgb : w1.heap.size ≤ g := own_base ho g rfl
  have gs := grown_cell w3 B pa (.slice (some ⟨g, 0, none⟩) (na + 1) cap)
  refine ⟨gb_via g3 gs (Or.inl rfl), h2, h3, ⟨?_, by rw [World.frozen?_setCell]; exact a4.2⟩, ⟨?_, by rw [World.frozen?_setCell]; exact a5.2⟩, ho.kept gs (Or.inr fun e => ?_), o7.kept gs ?_, ?_⟩
  · rw [World.cell?_setCell_same _ _ _ a4.1]
  · rw [World.cell?_setCell_other _ _ _ _ (by simp <;> omega)]
    exact a5.1
  · simp only [Value.ownBlock, Option.some.injEq] at e
    omega
  · refine Or.inr fun e => ?_
    have := own_base h7 B e
    omega
  · rcases hs with hs | hs
    · rcases h8 with h8 | h8
      · exact Or.inl h8
      · rw [hs] at h8
        exact Or.inr h8
    · right
      intro e
      simp only [Value.ownBlock] at e
      have := (h7.lt g e).2
      omega
/-- A row of ties as it is read. -/
def TR (w : World) (s : Value) (l : List Int) (p n : Nat) : Prop := ∃ a c, s = .slice a n c ∧ ∀ x, x < n → ∃ g, a = some ⟨g, 0, none⟩ ∧ w.cell? ⟨g, 2 * x, none⟩ = some (.int .i64 (tlo l (p + 2 * x))) ∧ w.cell? ⟨g, 2 * x + 1, none⟩ = some (.int .i64 (thi l (p + 2 * x)))
theorem TR.kept {w wx : World} {s : Value} {l : List Int} {p n : Nat} (h : TR w s l p n) (hb : Below w.heap.size w wx) : TR wx s l p n := by
  obtain ⟨a, c, e, h⟩ := h
  refine ⟨a, c, e, fun x hx => ?_⟩
  obtain ⟨g, e2, h2, h3⟩ := h x hx
  exact ⟨g, e2, cl_kept hb h2, cl_kept hb h3⟩
theorem add_at (g j : Nat) : (⟨g, 0, none⟩ : Addr).add j = ⟨g, j, none⟩ := by
  unfold Addr.add
  split <;> simp_all
theorem tr_of {W : World} {base : Nat} {s : Value} {l : List Int} {p n : Nat} (h : W.ownsRow base 51 2 s n (tc l p n)) : TR W s l p n := by
  rcases h.2 with ⟨rfl, rfl⟩ | ⟨g, cap, cur, rfl, _⟩
  · exact ⟨none, 0, rfl, fun x hx => by omega⟩
  · refine ⟨_, cap, rfl, fun x hx => ⟨g, rfl, ?_, ?_⟩⟩
    · have := h.cells (g := g) rfl (2 * x) _ (tc_at l p n x hx).1
      rwa [add_at] at this
    · have := h.cells (g := g) rfl (2 * x + 1) _ (tc_at l p n x hx).2
      rwa [add_at] at this
end Go.Proofs.Ytdflindoemffaaa
