/- How many lists go. -/
import Derived.Test.YtioajagblphbnaaWays
import Derived.Test.YtioajagblphbnaaFlat
namespace Go.Proofs.Ytioajagblphbnaa
open Go.RowKit Go.Shelf
attribute [local go_sem] Oper.semAt_some

/-- How many of the first k lists go. -/
def cnt (X : List Int) : Nat → Nat
  | 0 => 0
  | k + 1 => cnt X k + if goB X k = true then 1 else 0
theorem cnt_le (X : List Int) : ∀ k, cnt X k ≤ k
  | 0 => Nat.le_refl _
  | k + 1 => by
    have := cnt_le X k
    unfold cnt
    split <;> omega
/-- What stands while it is counted. -/
structure CC (w : World) (b0 l1 D1 Bd gd cap : Nat) (X : List Int) (rec : Loop) (mb : Nat → Prop) (k : Nat) (W : World) : Prop where
  m : mb b0 ∧ mb l1 ∧ mb D1 ∧ mb Bd ∧ mb gd
  lt : ∀ b, mb b → b < W.heap.size
  box : Boxed W b0 3 (.int .i64 (cnt X k : Int))
  l : W.heap[l1]? = some (.loop rec)
  d : W.heap[D1]? = some (.deferred (some []))
  c : W.cell? ⟨Bd, 0, none⟩ = some (.slice (some ⟨gd, 0, none⟩) X.length cap)
  r : Rw W gd X
  b : Below w.heap.size w W
theorem Rw.grown {w w' : World} {g : Nat} {l : List Int} {row : Option Nat} (h : Rw w g l) (hg : w.grownBy w' row) (hne : some g ≠ row) : Rw w' g l := fun i hi => hg.cell (h i hi) hne
theorem CC.grown {w : World} {b0 l1 D1 Bd gd cap : Nat} {X : List Int} {rec : Loop} {mb : Nat → Prop} {k : Nat} {W W' : World} {row : Option Nat} (h : CC w b0 l1 D1 Bd gd cap X rec mb k W) (hg : W.grownBy W' row) (hr : ∀ r, row = some r → w.heap.size ≤ r ∧ ¬ mb r) : CC w b0 l1 D1 Bd gd cap X rec mb k W' := by
  have hn : ∀ b, mb b → some b ≠ row := fun b hb e => (hr b e.symm).2 hb
  obtain ⟨m0, m1, m2, m3, m4⟩ := h.m
  exact ⟨h.m, fun b hb => Nat.lt_of_lt_of_le (h.lt b hb) hg.size, h.box.kept hg (hn _ m0), (hg.block _ (h.lt _ m1) (hn _ m1)).trans h.l, (hg.block _ (h.lt _ m2) (hn _ m2)).trans h.d, hg.cell h.c (hn _ m3), h.r.grown hg (hn _ m4), h.b.grown hg h.b.size (fun r e => (hr r e).1)⟩
theorem CC.fr (w : World) (b0 l1 D1 Bd gd cap : Nat) (X : List Int) (rec : Loop) : Fr (JJ w.heap.size (CC w b0 l1 D1 Bd gd cap X rec)) :=
  Fr.of (fun h => h.b.size) (fun h hg hr => h.grown hg hr) (fun h hb => h.lt _ hb)
theorem JJ.yes {w : World} {b0 l1 D1 Bd gd cap : Nat} {X : List Int} {R : LoopState → Loop} {fb : List (Nat × Obj)} {k : Nat} {W : World} (hd : b0 ≠ l1 ∧ D1 ≠ l1 ∧ D1 ≠ b0 ∧ Bd ≠ b0 ∧ Bd ≠ l1 ∧ gd ≠ b0 ∧ gd ≠ l1) (hb : w.heap.size ≤ b0 ∧ w.heap.size ≤ l1) (h : JJ w.heap.size (CC w b0 l1 D1 Bd gd cap X (R .ready)) fb k W) (hg : goB X k = true) :
    JJ w.heap.size (CC w b0 l1 D1 Bd gd cap X (R .ready)) fb (k + 1) (((W.putObj l1 (.loop (R .busy))).setCell ⟨b0, 0, none⟩ (.int .i64 ((cnt X k : Int) + 1))).putObj l1 (.loop (R .ready))) := by
  obtain ⟨h1, h2, mb, h3, h4⟩ := h
  obtain ⟨m0, m1, m2, m3, m4⟩ := h3.m
  obtain ⟨d1, d2, d3, d4, d5, d6, d7⟩ := hd
  have g1 := grownBy_putObj' W l1 (.loop (R .busy))
  have g2 := grownBy_setCell' (W.putObj l1 (.loop (R .busy))) b0 (.int .i64 ((cnt X k : Int) + 1))
  have g3 := grownBy_putObj' ((W.putObj l1 (.loop (R .busy))).setCell ⟨b0, 0, none⟩ (.int .i64 ((cnt X k : Int) + 1))) l1 (.loop (R .ready))
  have same : ∀ b, b < W.heap.size → b ≠ l1 → b ≠ b0 → (((W.putObj l1 (.loop (R .busy))).setCell ⟨b0, 0, none⟩ (.int .i64 ((cnt X k : Int) + 1))).putObj l1 (.loop (R .ready))).heap[b]? = W.heap[b]? := fun b hlt n1 n0 =>
    ((g3.block b (Nat.lt_of_lt_of_le hlt (Nat.le_trans g1.size g2.size)) (by simpa using n1)).trans (g2.block b (Nat.lt_of_lt_of_le hlt g1.size) (by simpa using n0))).trans (g1.block b hlt (by simpa using n1))
  have hz : W.heap.size ≤ (((W.putObj l1 (.loop (R .busy))).setCell ⟨b0, 0, none⟩ (.int .i64 ((cnt X k : Int) + 1))).putObj l1 (.loop (R .ready))).heap.size := Nat.le_trans g1.size (Nat.le_trans g2.size g3.size)
  refine ⟨h1, fun x hx => ⟨?_, (h2 x hx).2⟩, mb, ⟨h3.m, fun b hb' => Nat.lt_of_lt_of_le (h3.lt b hb') hz, ?_, ?_, ?_, ?_, ?_, ?_⟩, h4⟩
  · rw [same x.1 (Array.getElem?_eq_some_iff.1 (h2 x hx).1).1 (fun e => h4 x hx (e ▸ m1)) (fun e => h4 x hx (e ▸ m0))]
    exact (h2 x hx).1
  · have e : (cnt X (k + 1) : Int) = (cnt X k : Int) + 1 := by
      rw [show cnt X (k + 1) = cnt X k + 1 by rw [cnt, if_pos hg]]
      omega
    rw [e]
    exact ((h3.box.kept g1 (by simpa using d1)).set _).kept g3 (by simpa using d1)
  · exact World.putObj_heap_same (Nat.lt_of_lt_of_le (h3.lt _ m1) (Nat.le_trans g1.size g2.size))
  · exact (same D1 (h3.lt _ m2) d2 d3).trans h3.d
  · exact (cell_same (same Bd (h3.lt _ m3) d5 d4) 0).trans h3.c
  · exact fun i hi => (cell_same (same gd (h3.lt _ m4) d7 d6) i).trans (h3.r i hi)
  · exact ((h3.b.grown g1 h3.b.size (fun r e => by cases e; exact hb.2)).grown g2 (Nat.le_trans h3.b.size g1.size) (fun r e => by cases e; exact hb.1)).grown g3 (Nat.le_trans h3.b.size (Nat.le_trans g1.size g2.size)) (fun r e => by cases e; exact hb.2)
theorem JJ.no {w : World} {b0 l1 D1 Bd gd cap : Nat} {X : List Int} {rec : Loop} {fb : List (Nat × Obj)} {k : Nat} {W : World} (h : JJ w.heap.size (CC w b0 l1 D1 Bd gd cap X rec) fb k W) (hg : goB X k = false) : JJ w.heap.size (CC w b0 l1 D1 Bd gd cap X rec) fb (k + 1) W := by
  obtain ⟨h1, h2, mb, h3, h4⟩ := h
  refine ⟨h1, h2, mb, ⟨h3.m, h3.lt, ?_, h3.l, h3.d, h3.c, h3.r, h3.b⟩, h4⟩
  rw [show cnt X (k + 1) = cnt X k by rw [cnt, if_neg (by simp [hg]), Nat.add_zero]]
  exact h3.box
set_option maxRecDepth 100000 in
set_option maxHeartbeats 400000 in
theorem count_ok (v : Value) (l : List Int) (w : World) (hv : Sg w v l) (hm : l.length ≤ 17592186044416) (q : wrongV l = 0) :
    Calls Try.prog 5 #[v] w fun e w' => e = .returned (.tuple #[.int .i64 (cnt (dsk l) (2 ^ l.length) : Int), .int .i64 0]) ∧ Below w.heap.size w w' := by
  obtain ⟨n2, n8, ne⟩ := bad_none (wrong_none q).1
  have CW : ∀ W : World, Below w.heap.size w W → Calls Try.prog 9 #[v] W fun e w' => e = .returned (.int .i64 0) ∧ Below W.heap.size W w' := fun W hW => by
    have := wrong_any v l W (hv.kept hW) hm
    rw [q] at this
    exact this
  have CL : ∀ W : World, Below w.heap.size w W → Calls Try.prog 10 #[v] W fun e w' => ∃ g cap, e = .returned (.slice (some ⟨g, 0, none⟩) (dsk l).length cap) ∧ Rw w' g (dsk l) ∧ Below W.heap.size W w' := fun W hW => lay_any v l W (hv.kept hW) n8 (p16_bd (wrong_none q).2.1)
  obtain ⟨a, c, rfl, hrow⟩ := sg_meet hv
  clear hrow
  have HCL : Hid (∀ W : World, Below w.heap.size w W → Calls Try.prog 10 #[.slice a l.length c] W fun e w' => ∃ g cap, e = .returned (.slice (some ⟨g, 0, none⟩) (dsk l).length cap) ∧ Rw w' g (dsk l) ∧ Below W.heap.size W w') := CL
  clear CL hv q
  have hXl := dsk_len l
  obtain ⟨X, hX⟩ : ∃ X, X = dsk l := ⟨_, rfl⟩
  rw [← hX] at hXl HCL ⊢
  rw [← hXl] at n2 n8 CW HCL ⊢
  clear hX hXl hm ne
  obtain ⟨n, hn⟩ : ∃ n : Nat, n = n := ⟨0, rfl⟩
  refine (callsIn_wide (n := n)).1 ?_
  clear hn
  refine callsIn_of_wp_marks Try.func5 rfl trivial ?_ rfl
  simp only [Try.ntmps5, List.size_toArray, List.length_cons, List.length_nil, Nat.reduceAdd, Nat.reduceSub, Array.replicate_succ, Array.replicate_zero, List.push_toArray, List.append_toArray, List.nil_append, List.cons_append]
  gi_wp2
  refine ⟨trivial, by first | rfl | (intro h; cases h), (callsIn_wide.2 (CW _ (bl_refl _))).mono ?_⟩
  rintro e w1 ⟨rfl, hb1⟩
  gi_wp2
  refine ⟨trivial, by first | rfl | (intro h; cases h), (callsIn_wide.2 (HCL.out _ (bl_alloc hb1))).mono ?_⟩
  rintro e w2 ⟨g, cap, rfl, hr, hb2⟩
  gi_wp2
  refine ⟨trivial, by first | rfl | (intro h; cases h), (callsIn_wide.2 (ways_any _ _ _ _)).mono ?_⟩
  rintro e w3 ⟨rfl, rfl⟩
  gi_wp2
  have hbox : Boxed w2 w1.heap.size 3 (.int .i64 0) := (Boxed.new w1 3 _).kept (bl_grown hb2) (by simp)
  have zb := hbox.lt
  have hw2 : Below w.heap.size w w2 := bl_via (bl_alloc hb1) hb2
  have zw1 := hb1.size
  have zg : g < w2.heap.size := World.block_lt_of_cell? _ _ (hr 0 (by omega))
  have hgb : g ≠ w1.heap.size := fun e => by
    have h9 := hr 1 (by omega)
    rw [e] at h9
    simp [World.cell?, show w2.heap[w1.heap.size]? = _ from hbox] at h9
  refine range_outer (gf := 18) (lb := #[.pointer (some ⟨w2.heap.size, 0, none⟩)]) rfl (enters_of Try.func18 (by kernel_rfl) rfl) (fun fn => ?_)
  generalize hR : Rec fn _ _ _ _ _ = R
  simp only [World.size_alloc] at hR ⊢
  have hdis : w1.heap.size ≠ w2.heap.size + 1 + 1 ∧ w2.heap.size + 1 ≠ w2.heap.size + 1 + 1 ∧ w2.heap.size + 1 ≠ w1.heap.size ∧ w2.heap.size ≠ w1.heap.size ∧ w2.heap.size ≠ w2.heap.size + 1 + 1 ∧ g ≠ w1.heap.size ∧ g ≠ w2.heap.size + 1 + 1 := by omega
  have hble : w.heap.size ≤ w1.heap.size ∧ w.heap.size ≤ w2.heap.size + 1 + 1 := by omega
  have h0 : JJ w.heap.size (CC w w1.heap.size (w2.heap.size + 1 + 1) (w2.heap.size + 1) w2.heap.size g cap X (R .ready)) [] 0 (((w2.alloc (.cells #[.slice (some ⟨g, 0, none⟩) X.length cap] 37)).alloc (.deferred (some []))).alloc (.loop (R .ready))) := by
    refine ⟨by simp, by simp, fun b => b = w1.heap.size ∨ b = w2.heap.size + 1 + 1 ∨ b = w2.heap.size + 1 ∨ b = w2.heap.size ∨ b = g, ⟨by simp, ?_, ((hbox.alloc _).alloc _).alloc _, ?_, ?_, ?_, ?_, ?_⟩, by simp⟩
    · intro b hb
      simp only [World.size_alloc]
      omega
    · have h9 := heap_alloc_new ((w2.alloc (.cells #[.slice (some ⟨g, 0, none⟩) X.length cap] 37)).alloc (.deferred (some []))) (.loop (R .ready))
      rw [World.size_alloc, World.size_alloc] at h9
      exact h9
    · have h9 := heap_alloc_new (w2.alloc (.cells #[.slice (some ⟨g, 0, none⟩) X.length cap] 37)) (.deferred (some []))
      rw [World.size_alloc] at h9
      exact (Below.heap_alloc _ _ _ (by simp)).trans h9
    · exact cl_kept (bl_alloc (bl_alloc (bl_refl _))) (Boxed.new w2 37 _).cell
    · exact hr.kept (bl_alloc (bl_alloc (bl_alloc (bl_refl _))))
    · exact bl_via hw2 (bl_alloc (bl_alloc (bl_alloc (bl_refl _))))
  refine (ways1_in X n2 n8 (w2.heap.size + 1 + 1) w2.heap.size g cap (n - 1) (JJ w.heap.size (CC w w1.heap.size (w2.heap.size + 1 + 1) (w2.heap.size + 1) w2.heap.size g cap X (R .ready))) (CC.fr ..) ?hD ?hYes (fun h _ hg => h.no hg) _ h0).mono ?_
  case hD =>
    rintro fb k W ⟨_, _, mb, hC, _⟩
    exact ⟨hC.c, hC.r⟩
  case hYes =>
    intro m fb k W gk o hj hk hrk hg
    have hyes := JJ.yes hdis hble ((CC.fr ..).tail hj) hg
    obtain ⟨_, _, mb, hC, _⟩ := hj
    have hl := hC.l
    have hbx := hC.box.kept (grownBy_putObj' W (w2.heap.size + 1 + 1) (.loop (R .busy))) (by simpa using hdis.1)
    have hlb : (W.putObj (w2.heap.size + 1 + 1) (.loop (R .busy))).heap[w2.heap.size + 1 + 1]? = some (.loop (R .busy)) := World.putObj_heap_same (Array.getElem?_eq_some_iff.1 hl).1
    have hcl : cnt X k ≤ 256 := by
      have h5 := cnt_le X k
      have h6 := (shl_nat n8).2
      omega
    obtain ⟨ck, hck⟩ : ∃ z, z = cnt X k := ⟨_, rfl⟩
    rw [← hck] at hbx hyes hcl
    clear hck hC hk hrk hg
    rw [← hR] at hl
    refine round_of hl rfl { tmps := #[.slice a X.length c, undef, .int .i64 0, .int .i64 0, .int .i64 0, .pointer (some ⟨w1.heap.size, 0, none⟩), .slice a X.length c, .int .i64 0, .int .i64 0, .bool false, undef, .slice a X.length c, .slice (some ⟨g, 0, none⟩) X.length cap, .func (.func 18) #[] #[.pointer (some ⟨w2.heap.size, 0, none⟩)], .slice (some ⟨gk, 0, none⟩) X.length X.length, undef, undef, undef], defers := [] } ?assign ?body
    case assign =>
      intro K hK
      gi_wp2
      simpa using hK
    case body =>
      rw [hR]
      have c0 := hbx.cell
      have f0 := hbx.frozen
      have zb9 := hbx.lt
      have hlb2 := (grownBy_setCell' (W.putObj (w2.heap.size + 1 + 1) (.loop (R .busy))) w1.heap.size (.int .i64 ((ck : Int) + 1))).block (w2.heap.size + 1 + 1) (Array.getElem?_eq_some_iff.1 hlb).1 (by simpa using hdis.1.symm)
      rw [hlb] at hlb2
      generalize W.putObj (w2.heap.size + 1 + 1) (.loop (R .busy)) = Wb at *
      clear hR hl h0 hbx hlb
      gi_wp2
  rintro e V ⟨⟨v, rfl⟩, _, _, mb, hC, _⟩
  refine ⟨⟨v, rfl⟩, hC.l, ?_⟩
  have hbx := hC.box.kept (grownBy_putObj' V (w2.heap.size + 1 + 1) (.loop (R .exhausted))) (by simpa using hdis.1)
  have hK : (V.putObj (w2.heap.size + 1 + 1) (.loop (R .exhausted))).heap[w2.heap.size + 1]? = some (.deferred (some [])) := (put_other hdis.2.1).trans hC.d
  have hB : Below w.heap.size w (V.putObj (w2.heap.size + 1 + 1) (.loop (R .exhausted))) := hC.b.grown (grownBy_putObj' V _ _) hC.b.size (fun r e => by cases e; exact hble.2)
  generalize V.putObj (w2.heap.size + 1 + 1) (.loop (R .exhausted)) = V1 at *
  have c0 := hbx.cell
  have zb9 := hbx.lt
  clear hR h0
  gi_wp2
  refine ⟨by simp, .inl ⟨_, _, rfl, run_takeDeferred hK, ?_⟩⟩
  exact ⟨.tuple #[.int .i64 (cnt X (2 ^ X.length) : Int), .int .i64 0], by simp [results, Try.results5, go_sem], rfl, hB.grown (grownBy_putObj' V1 _ _) hB.size (fun r e => by cases e; omega)⟩
end Go.Proofs.Ytioajagblphbnaa
