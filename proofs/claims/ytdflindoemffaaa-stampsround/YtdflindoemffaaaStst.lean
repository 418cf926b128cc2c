/- those: one order that is whole is told. -/
import Derived.Test.YtdflindoemffaaaClon
namespace Go.Proofs.Ytdflindoemffaaa
open Go.RowKit

/-- While orders are piled: the box of what is wanted, what was found, the order that is begun. -/
def St (w W : World) (Bw Bf g n z : Nat) (wv : Value) (es : List (Nat × Nat × List Int)) (b : List Int) : Prop :=
  Below w.heap.size w W ∧ (w.heap.size ≤ Bw ∧ w.heap.size ≤ Bf ∧ Bw < z ∧ Bf < z ∧ g < z ∧ Bw ≠ g ∧ Bf ≠ g ∧ Bw ≠ Bf ∧ z ≤ W.heap.size) ∧ W.cell? ⟨Bw, 0, none⟩ = some wv ∧
    W.ownsRow w.heap.size 3 1 (.slice (some ⟨g, 0, none⟩) b.length n) b.length (rowI b) ∧ ∃ fv, (W.cell? ⟨Bf, 0, none⟩ = some fv ∧ W.frozen? ⟨Bf, 0, none⟩ = false) ∧ OutS W z fv es
theorem St.kept {w W W' : World} {Bw Bf g n z : Nat} {wv : Value} {es : List (Nat × Nat × List Int)} {b : List Int} (h : St w W Bw Bf g n z wv es b) (hb : Below W.heap.size W W') : St w W' Bw Bf g n z wv es b := by
  obtain ⟨h1, h2, h3, h4, fv, h5, h6⟩ := h
  exact ⟨bl_via h1 hb, ⟨h2.1, h2.2.1, h2.2.2.1, h2.2.2.2.1, h2.2.2.2.2.1, h2.2.2.2.2.2.1, h2.2.2.2.2.2.2.1, h2.2.2.2.2.2.2.2.1, Nat.le_trans h2.2.2.2.2.2.2.2.2 hb.size⟩, cl_kept hb h3, own_below h4 hb, fv, fr_grown h5.1 h5.2 (bl_grown hb) (by simp), h6.kept hb⟩
theorem own_pre {w : World} {base g n cap : Nat} {b : List Int} {x : Int} (h : w.ownsRow base 3 1 (.slice (some ⟨g, 0, none⟩) n cap) n (rowI (b ++ [x]))) : w.ownsRow base 3 1 (.slice (some ⟨g, 0, none⟩) b.length cap) b.length (rowI b) := by
  have hn : n = b.length + 1 := by
    have := h.1
    simp [rowI] at this
    omega
  subst hn
  refine ⟨by simp [rowI], ?_⟩
  rcases h.2 with ⟨h1, _⟩ | ⟨g', cap', cur, h1, h2, h3, h4, h5, h6, h7⟩
  · cases h1
  · cases h1
    refine Or.inr ⟨g, cap, cur, rfl, h2, h3, by omega, h5, h6, ?_⟩
    have : (cur.toList.take ((b.length + 1) * 1)).take (b.length * 1) = cur.toList.take (b.length * 1) := by
      rw [List.take_take, Nat.min_eq_left (by omega)]
    rw [← this, h7, rowI_add, List.take_append_of_le_length (by simp [rowI])]
    rw [List.take_of_length_le (by simp [rowI])]
theorem St.back {w W : World} {Bw Bf g n z : Nat} {wv : Value} {es : List (Nat × Nat × List Int)} {b : List Int} {x : Int} (h : St w W Bw Bf g n z wv es (b ++ [x])) : St w W Bw Bf g n z wv es b :=
  ⟨h.1, h.2.1, h.2.2.1, own_pre h.2.2.2.1, h.2.2.2.2⟩
/-- What is found is one more. -/
theorem St.found {w W w1 W3 : World} {Bw Bf g n z : Nat} {wv fv : Value} {es : List (Nat × Nat × List Int)} {b : List Int} {gc cc gq cap : Nat} (h : St w W Bw Bf g n z wv es b) (hf : W.cell? ⟨Bf, 0, none⟩ = some fv) (hb1 : 0 < b.length)
    (hb : Below W.heap.size W w1) (hc : Rw w1 gc b) (hge : W.heap.size ≤ gc) (hcc : b.length ≤ cc)
    (ho : W3.ownsRow z 22 1 (.slice (some ⟨gq, 0, none⟩) (es.length + 1) cap) (es.length + 1) (es.map sv ++ [sv (gc, cc, b)])) {o : Obj} (hg : (w1.alloc o).grownBy W3 fv.ownBlock) (hat : fv.ownBlock = some gq ∨ gq = w1.heap.size + 1) :
    St w (W3.setCell ⟨Bf, 0, none⟩ (.slice (some ⟨gq, 0, none⟩) (es.length + 1) cap)) Bw Bf g n z wv (es ++ [(gc, cc, b)]) b := by
  obtain ⟨h1, h2, h3, h4, fv', h5, h6⟩ := h
  have e : fv' = fv := by
    have := h5.1
    rw [hf] at this
    exact (Option.some.inj this).symm
  subst e
  have hB : Below W.heap.size W (w1.alloc o) := bl_alloc hb
  have hz : ∀ j, fv'.ownBlock = some j → z ≤ j := fun j hj => (h6.1.lt j hj).1
  have hzl : ∀ j, fv'.ownBlock = some j → j < W.heap.size := fun j hj => (h6.1.lt j hj).2
  have ne : ∀ x, x < z → some x ≠ fv'.ownBlock := fun x hx e => by
    have := hz x e.symm
    omega
  have gs := grown_cell W3 Bf 0 (.slice (some ⟨gq, 0, none⟩) (es.length + 1) cap)
  have neb : ∀ x, x ≠ Bf → some x ≠ some Bf := fun x hx e => hx (by simpa using e)
  have k5 := fr_grown (fr_grown h5.1 h5.2 (bl_grown hB) (by simp)).1 (fr_grown h5.1 h5.2 (bl_grown hB) (by simp)).2 hg (ne Bf h2.2.2.2.1)
  have hsz : W.heap.size ≤ W3.heap.size := Nat.le_trans hB.size hg.size
  refine ⟨?_, ⟨h2.1, h2.2.1, h2.2.2.1, h2.2.2.2.1, h2.2.2.2.2.1, h2.2.2.2.2.2.1, h2.2.2.2.2.2.2.1, h2.2.2.2.2.2.2.2.1, ?_⟩, ?_, ?_, _, ⟨World.cell?_setCell_same _ _ _ k5.1, by rw [World.frozen?_setCell]; exact k5.2⟩, ?_⟩
  · have hW3 : Below w.heap.size w W3 := (bl_via h1 hB).grown hg (Nat.le_trans h1.size hB.size) (fun k hk => by
      have h7 := hz k hk
      have h8 := h2.2.2.1
      have h9 := h2.1
      omega)
    exact bl_set hW3 h2.2.1
  · exact Nat.le_trans h2.2.2.2.2.2.2.2.2 (Nat.le_trans hsz gs.size)
  · exact gs.cell (hg.cell (cl_kept hB h3) (ne Bw h2.2.2.1)) (neb Bw h2.2.2.2.2.2.2.2.1)
  · have r1 := (own_below h4 hB).kept hg (Or.inr (ne g h2.2.2.2.2.1))
    exact r1.kept gs (Or.inr (neb g (Ne.symm h2.2.2.2.2.2.2.1)))
  · have hm := (h6.kept hB).more (ns := [(gc, cc, b)]) (fun e he => by
      simp at he
      subst he
      refine ⟨hc.kept (bl_alloc (bl_refl w1)), ⟨hb1, hcc⟩, Nat.le_trans h2.2.2.2.2.2.2.2.2 hge, fun e1 => ?_⟩
      have := hzl gc e1.symm
      omega) ho hg (by rcases hat with hat | hat; exact Or.inl hat; exact Or.inr (by rw [hat]; simp))
    rcases hm with hm | hm
    · exact hm.grown gs (fun j hj => by simp at hj; subst hj; exact h2.2.2.2.1)
    · simp at hm
theorem sv_cell (w : World) (v : Value) (T : TypeId) : ∀ j u, ([v])[j]? = some u → (w.alloc (.cells #[v] T)).cell? ((⟨w.heap.size, 0, none⟩ : Addr).add j) = some u := by
  intro j u hu
  rw [add_at]
  match j, hu with
  | 0, hu => simp at hu; subst hu; simp [go_sem]
end Go.Proofs.Ytdflindoemffaaa
