/- The values of a map of triangles' numbers, in a row. -/
import Derived.Test.YtehmoacggikfmaaGreatDoorQlax
import Derived.Test.YtehmoacggikfmaaGreatDoorQlbg
namespace Go.Proofs.YtehmoacggikfmaaGreatDoor
open Go.RowKit Go.Shelf Go.ChangeMaps
attribute [local go_sem] Oper.semAt_some

def valsOf (vis : EL) : List Value := flE (vis.map fun x => x.1)
theorem valsOf_add (vis : EL) (x : ((Int × Int × Int × Int) × Value × Nat)) : valsOf (vis ++ [x]) = valsOf vis ++ [.int .i64 x.1.1, .int .i64 x.1.2.1, .int .i64 x.1.2.2.1, .int .i64 x.1.2.2.2] := by simp [valsOf, flE]
/-- What stands while they are gathered. -/
structure CA (w : World) (b0 l1 D1 : Nat) (rec : Loop) (mb : Nat → Prop) (vis : EL) (W : World) : Prop where
  m : mb b0 ∧ mb l1 ∧ mb D1
  lt : ∀ b, mb b → b < W.heap.size
  l : W.heap[l1]? = some (.loop rec)
  d : W.heap[D1]? = some (.deferred (some []))
  b : Below w.heap.size w W
  row : ∃ v, Boxed W b0 69 v ∧ W.ownsRow w.heap.size 53 4 v vis.length (valsOf vis) ∧ ∀ q, v.ownBlock = some q → mb q
theorem CA.grown {w : World} {b0 l1 D1 : Nat} {rec : Loop} {mb : Nat → Prop} {k : EL} {W W' : World} {row : Option Nat} (h : CA w b0 l1 D1 rec mb k W) (hg : W.grownBy W' row) (hr : ∀ r, row = some r → w.heap.size ≤ r ∧ ¬ mb r) : CA w b0 l1 D1 rec mb k W' := by
  have hn : ∀ b, mb b → some b ≠ row := fun b hb e => (hr b e.symm).2 hb
  obtain ⟨m0, m1, m2⟩ := h.m
  obtain ⟨v, r1, r2, r3⟩ := h.row
  refine ⟨h.m, fun b hb => Nat.lt_of_lt_of_le (h.lt b hb) hg.size, (hg.block _ (h.lt _ m1) (hn _ m1)).trans h.l, (hg.block _ (h.lt _ m2) (hn _ m2)).trans h.d, h.b.grown hg h.b.size (fun r e => (hr r e).1), v, r1.kept hg (hn _ m0), r2.kept hg ?_, r3⟩
  cases e : v.ownBlock with
  | none => exact Or.inl rfl
  | some q => exact Or.inr (fun e2 => hn q (r3 q e) e2)
theorem CA.fr (w : World) (b0 l1 D1 : Nat) (rec : Loop) : Frm (JJ w.heap.size (CA w b0 l1 D1 rec)) :=
  Frm.of (fun h => h.b.size) (fun h hg hr => h.grown hg hr) (fun h hb => h.lt _ hb)
theorem own_cells {W : World} {base e n : Nat} {v : Value} {xs : List Value} {q : Nat} (h : W.ownsRow base e 4 v n xs) (hq : v.ownBlock = some q) : ∃ cur, W.heap[q]? = some (.cells cur e) := by
  rcases h.2 with ⟨rfl, _⟩ | ⟨g, cap, cur, rfl, _, h3, _⟩
  · simp [Value.ownBlock] at hq
  · simp [Value.ownBlock] at hq
    subst hq
    exact ⟨cur, h3⟩
theorem JA.yes {w w1 : World} {b0 l1 D1 : Nat} {R : LoopState → Loop} {fb : Option (Nat × Obj)} {vis : EL} {x : ((Int × Int × Int × Int) × Value × Nat)} {tmp : Obj} {W : World} {mb : Nat → Prop} {v v' : Value} (hd : b0 ≠ l1 ∧ D1 ≠ l1 ∧ D1 ≠ b0) (hb : w.heap.size ≤ b0 ∧ w.heap.size ≤ l1)
    (h2 : ∀ y, fb = some y → W.heap[y.1]? = some y.2 ∧ w.heap.size ≤ y.1) (hC : CA w b0 l1 D1 (R .ready) mb vis W) (h4 : ∀ y, fb = some y → ¬ mb y.1)
    (r1 : Boxed W b0 69 v) (r2 : W.ownsRow w.heap.size 53 4 v vis.length (valsOf vis)) (r3 : ∀ q, v.ownBlock = some q → mb q)
    (hown : w1.ownsRow w.heap.size 53 4 v' (vis.length + 1) (valsOf vis ++ [.int .i64 x.1.1, .int .i64 x.1.2.1, .int .i64 x.1.2.2.1, .int .i64 x.1.2.2.2])) (hgrow : ((W.putObj l1 (.loop (R .busy))).alloc tmp).grownBy w1 v.ownBlock) (hblk : v'.ownBlock = v.ownBlock ∨ v'.ownBlock = some ((W.putObj l1 (.loop (R .busy))).alloc tmp).heap.size) :
    (w1.setCell ⟨b0, 0, none⟩ v').heap[l1]? = some (.loop (R .busy)) ∧ JJ w.heap.size (CA w b0 l1 D1 (R .ready)) fb (vis ++ [x]) ((w1.setCell ⟨b0, 0, none⟩ v').putObj l1 (.loop (R .ready))) := by
  obtain ⟨m0, m1, m2⟩ := hC.m
  obtain ⟨d1, d2, d3⟩ := hd
  obtain ⟨hb0, hbl⟩ := hb
  have g1 := grownBy_putObj' W l1 (.loop (R .busy))
  have g2 : (W.putObj l1 (.loop (R .busy))).grownBy ((W.putObj l1 (.loop (R .busy))).alloc tmp) none := World.grownBy_alloc _ _ _
  have g4 := grownBy_setCell' w1 b0 v'
  have g5 := grownBy_putObj' (w1.setCell ⟨b0, 0, none⟩ v') l1 (.loop (R .ready))
  have z2 : W.heap.size ≤ ((W.putObj l1 (.loop (R .busy))).alloc tmp).heap.size := Nat.le_trans g1.size g2.size
  have z3 : W.heap.size ≤ w1.heap.size := Nat.le_trans z2 hgrow.size
  have z4 : W.heap.size ≤ (w1.setCell ⟨b0, 0, none⟩ v').heap.size := Nat.le_trans z3 g4.size
  have no1 : ∀ q, v.ownBlock = some q → q ≠ l1 := fun q hq e => by
    obtain ⟨cur, hc⟩ := own_cells r2 hq
    rw [e, hC.l] at hc
    cases hc
  have no2 : ∀ q, v.ownBlock = some q → q ≠ D1 := fun q hq e => by
    obtain ⟨cur, hc⟩ := own_cells r2 hq
    rw [e, hC.d] at hc
    cases hc
  have no0 : some b0 ≠ v.ownBlock := r1.not_row (by decide) r2
  have same3 : ∀ b, b < W.heap.size → b ≠ l1 → some b ≠ v.ownBlock → w1.heap[b]? = W.heap[b]? := fun b hlt n1 nv =>
    ((hgrow.block b (Nat.lt_of_lt_of_le hlt z2) nv).trans (g2.block b (Nat.lt_of_lt_of_le hlt g1.size) (by simp))).trans (g1.block b hlt (by simpa using n1))
  have same : ∀ b, b < W.heap.size → b ≠ l1 → b ≠ b0 → some b ≠ v.ownBlock → ((w1.setCell ⟨b0, 0, none⟩ v').putObj l1 (.loop (R .ready))).heap[b]? = W.heap[b]? := fun b hlt n1 n0 nv =>
    ((g5.block b (Nat.lt_of_lt_of_le hlt z4) (by simpa using n1)).trans (g4.block b (Nat.lt_of_lt_of_le hlt z3) (by simpa using n0))).trans (same3 b hlt n1 nv)
  have hlb : (W.putObj l1 (.loop (R .busy))).heap[l1]? = some (.loop (R .busy)) := World.putObj_heap_same (hC.lt _ m1)
  have hl3 : w1.heap[l1]? = some (.loop (R .busy)) := ((hgrow.block l1 (Nat.lt_of_lt_of_le (hC.lt _ m1) z2) (fun e => no1 l1 e.symm rfl)).trans (g2.block l1 (Nat.lt_of_lt_of_le (hC.lt _ m1) g1.size) (by simp))).trans hlb
  have hl4 : (w1.setCell ⟨b0, 0, none⟩ v').heap[l1]? = some (.loop (R .busy)) := (g4.block l1 (Nat.lt_of_lt_of_le (hC.lt _ m1) z3) (by simpa using d1.symm)).trans hl3
  have zf : W.heap.size ≤ ((w1.setCell ⟨b0, 0, none⟩ v').putObj l1 (.loop (R .ready))).heap.size := Nat.le_trans z4 g5.size
  have rowf : ((w1.setCell ⟨b0, 0, none⟩ v').putObj l1 (.loop (R .ready))).ownsRow w.heap.size 53 4 v' (vis ++ [x]).length (valsOf (vis ++ [x])) := by
    have b1 : Boxed w1 b0 69 v := ((r1.kept g1 (by simpa using d1)).alloc tmp).kept hgrow no0
    have h8 := hown.kept g4 (.inr (b1.not_row (by decide) hown).symm)
    have h9 := ownsRow_putObj h8 (.loop (R .ready)) hl4 rfl
    rw [List.length_append, valsOf_add]
    exact h9
  refine ⟨hl4, fun y hy => ?_, fun b => mb b ∨ v'.ownBlock = some b, ⟨⟨Or.inl m0, Or.inl m1, Or.inl m2⟩, ?_, ?_, ?_, ?_, v', ?_, rowf, fun q hq => Or.inr hq⟩, ?_⟩
  · have hx2 := h2 y hy
    have hx4 := h4 y hy
    refine ⟨?_, hx2.2⟩
    rw [same y.1 (Array.getElem?_eq_some_iff.1 hx2.1).1 (fun e => hx4 (e ▸ m1)) (fun e => hx4 (e ▸ m0)) (fun e => hx4 (r3 _ e.symm))]
    exact hx2.1
  · rintro b (hb | hb)
    · exact Nat.lt_of_lt_of_le (hC.lt b hb) zf
    · obtain ⟨cur, hc⟩ := own_cells rowf hb
      exact (Array.getElem?_eq_some_iff.1 hc).1
  · exact World.putObj_heap_same (Array.getElem?_eq_some_iff.1 hl4).1
  · exact (same D1 (hC.lt _ m2) d2 d3 (fun e => no2 D1 e.symm rfl)).trans hC.d
  · have k1 := hC.b.grown g1 hC.b.size (fun r e => by cases e; exact hbl)
    have k2 := k1.grown g2 k1.size (fun r e => by cases e)
    have k3 := k2.grown hgrow k2.size (fun r e => (r2.lt r e).1)
    have k4 := k3.grown g4 k3.size (fun r e => by cases e; exact hb0)
    exact k4.grown g5 k4.size (fun r e => by cases e; exact hbl)
  · exact ((((r1.kept g1 (by simpa using d1)).alloc tmp).kept hgrow no0).set v').kept g5 (by simpa using d1)
  · rintro y hy (hm | hq)
    · exact h4 y hy hm
    · have hx2 := h2 y hy
      have hlt := (Array.getElem?_eq_some_iff.1 hx2.1).1
      rcases hblk with e | e
      · exact h4 y hy (r3 _ (by rw [← e]; exact hq))
      · rw [e] at hq
        simp only [Option.some.injEq] at hq
        omega
theorem round_new {P : Program} {l m : Nat} {R : Ending → World → Prop} {fn : FuncId} {tmps : Array Value} {ps : Array Tmp} {assign body : Code} {D : Nat} {W : World} {args : Array Value} (o : Obj) (hl : W.heap[l]? = some (.loop (Rec fn tmps ps assign body D .ready))) (hs : args.size = ps.size) (a₁ : Act)
    (hassign : ∀ K : Act → World → Prop, K a₁ (W.alloc o) → assign.wpIn (Fence.wide.inRound l) m P (Exit.then K (fun _ _ _ => False)) { tmps := (ps.zip args).foldl (fun t (p, v) => t.setIfInBounds p v) tmps, defers := [] } W)
    (hbody : body.wpIn (Fence.wide.inRound l) m P (fun e _ W3 => e = .normal ∧ W3.heap[l]? = some (.loop (Rec fn tmps ps assign body D .busy)) ∧ R (.returned (.bool true)) (W3.putObj l (.loop (Rec fn tmps ps assign body D .ready)))) a₁ ((W.alloc o).putObj l (.loop (Rec fn tmps ps assign body D .busy)))) :
    YieldAt .wide m P l args W R := by
  have hl2 : (W.alloc o).heap[l]? = some (.loop (Rec fn tmps ps assign body D .ready)) := (Below.heap_alloc _ _ _ (Array.getElem?_eq_some_iff.1 hl).1).trans hl
  refine ⟨fn, _, assign, body, run_yield hl hs, roundIn_of_wpIn trivial (hassign _ ⟨_, run_beginRound hl2 rfl, wpIn_mono hbody ?_⟩)⟩
  rintro e a3 W3 ⟨rfl, h3, hr⟩
  exact ⟨_, _, run_endRound none h3, hr⟩
/-- What AppendSeq and Collect hand back. -/
def Gath (w w' : World) (ls : EL) (v : Value) : Prop := ∃ vis, vis.Perm ls ∧ w'.ownsRow w.heap.size 53 4 v vis.length (valsOf vis) ∧ Below w.heap.size w w'
set_option maxRecDepth 100000 in
set_option maxHeartbeats 1600000 in
theorem appendSeq_any (Bm rm c : Nat) (ls : EL) (hG : Good ls c) (hlen : ls.length ≤ 100000) (w : World) (hd : w.cell? ⟨Bm, 0, none⟩ = some (.map (some rm))) (hm : EM w rm ls c) :
    Calls Tryz.prog 75 #[.slice none 0 0, .func (.func 54) #[] #[.pointer (some ⟨Bm, 0, none⟩)]] w fun e w' => ∃ v, e = .returned v ∧ Gath w w' ls v := by
  obtain ⟨n, hn⟩ : ∃ n : Nat, n = n := ⟨0, rfl⟩
  refine (callsIn_wide (n := n)).1 ?_
  clear hn
  obtain ⟨iV, hI⟩ := info_parts inf53
  have HI : Hid (Tryz.prog.info? 53 = some iV ∧ iV.zero = some (.agg #[.int .i64 0, .int .i64 0, .int .i64 0, .int .i64 0]) ∧ iV.size = 4 ∧ iV.bytes = 32) := hI
  clear hI
  refine callsIn_of_wp_marks Tryz.func75 rfl trivial ?_ rfl
  simp only [Tryz.ntmps75, List.size_toArray, List.length_cons, List.length_nil, Nat.reduceAdd, Nat.reduceSub, Array.replicate_succ, Array.replicate_zero, List.push_toArray, List.append_toArray, List.nil_append, List.cons_append]
  have zd : Bm < w.heap.size := World.block_lt_of_cell? _ _ hd
  have zm := hm.lt
  gi_wp2
  refine range_outer (gf := 54) (lb := #[.pointer (some ⟨Bm, 0, none⟩)]) rfl (enters_of Tryz.func54 (by kernel_rfl) rfl) (fun fn => ?_)
  generalize hR : Rec fn _ _ _ _ _ = R
  simp only [World.size_alloc] at hR ⊢
  have hdis : w.heap.size ≠ w.heap.size + 1 + 1 ∧ w.heap.size + 1 ≠ w.heap.size + 1 + 1 ∧ w.heap.size + 1 ≠ w.heap.size := by omega
  have hble : w.heap.size ≤ w.heap.size ∧ w.heap.size ≤ w.heap.size + 1 + 1 := by omega
  have h0 : JJ w.heap.size (CA w w.heap.size (w.heap.size + 1 + 1) (w.heap.size + 1) (R .ready)) none [] (((w.alloc (.cells #[.slice none 0 0] 69)).alloc (.deferred (some []))).alloc (.loop (R .ready))) := by
    refine ⟨fun x hx => (by cases hx), fun b => b = w.heap.size ∨ b = w.heap.size + 1 + 1 ∨ b = w.heap.size + 1, ⟨by simp, ?_, ?_, ?_, ?_, .slice none 0 0, ?_, ?_, ?_⟩, fun x hx => (by cases hx)⟩
    · intro b hb
      simp only [World.size_alloc]
      omega
    · have h9 := heap_alloc_new ((w.alloc (.cells #[.slice none 0 0] 69)).alloc (.deferred (some []))) (.loop (R .ready))
      rw [World.size_alloc, World.size_alloc] at h9
      exact h9
    · have h9 := heap_alloc_new (w.alloc (.cells #[.slice none 0 0] 69)) (.deferred (some []))
      rw [World.size_alloc] at h9
      exact (Below.heap_alloc _ _ _ (by simp)).trans h9
    · exact bl_alloc (bl_alloc (bl_alloc (bl_refl _)))
    · exact ((Boxed.new w 69 _).alloc _).alloc _
    · exact ⟨rfl, Or.inl ⟨rfl, rfl⟩⟩
    · intro q hq
      simp [Value.ownBlock] at hq
  refine (keys1_in rm Bm c (w.heap.size + 1 + 1) 0 (n - 1) ls hG (JJ w.heap.size (CA w w.heap.size (w.heap.size + 1 + 1) (w.heap.size + 1) (R .ready))) (CA.fr ..) ?hD ?hYes _ h0).mono ?_
  case hD =>
    rintro fb k W ⟨_, mb, hC, _⟩
    exact ⟨cl_kept hC.b hd, hm.grown (bl_grown hC.b) (by simp)⟩
  case hYes =>
    rintro fb vis x W0 hJ0 hx hxl
    obtain ⟨⟨e0, e1, e2, e3⟩, xv, xt⟩ := x
    have hl0 : W0.heap[w.heap.size + 1 + 1]? = some (.loop (R .ready)) := by
      obtain ⟨_, _, hC, _⟩ := hJ0
      exact hC.l
    have hJ1 := (CA.fr w w.heap.size (w.heap.size + 1 + 1) (w.heap.size + 1) (R .ready)).gro hJ0 (bl_alloc (o := .cells #[.int .i64 e0, .int .i64 e1, .int .i64 e2, .int .i64 e3] 53) (bl_refl W0))
    have cE : ∀ i v, [Value.int .i64 e0, .int .i64 e1, .int .i64 e2, .int .i64 e3][i]? = some v → (W0.alloc (.cells #[.int .i64 e0, .int .i64 e1, .int .i64 e2, .int .i64 e3] 53)).cell? ⟨W0.heap.size, i, none⟩ = some v := fun i v h => by simpa using h
    have zW : w.heap.size + 1 + 1 < W0.heap.size := (Array.getElem?_eq_some_iff.1 hl0).1
    clear hJ0
    generalize hWW : W0.alloc (.cells #[.int .i64 e0, .int .i64 e1, .int .i64 e2, .int .i64 e3] 53) = W at hJ1 cE
    obtain ⟨h2, mb, hC, h4⟩ := hJ1
    have gE : ∀ i v, [Value.int .i64 e0, .int .i64 e1, .int .i64 e2, .int .i64 e3][i]? = some v → (W.putObj (w.heap.size + 1 + 1) (.loop (R .busy))).cell? ⟨W0.heap.size, i, none⟩ = some v := fun i v h => (grownBy_putObj' W (w.heap.size + 1 + 1) (.loop (R .busy))).cell (cE i v h) (by simp; omega)
    have y0 := gE 0 _ rfl
    have y1 := gE 1 _ rfl
    have y2 := gE 2 _ rfl
    have y3 := gE 3 _ rfl
    clear gE cE
    obtain ⟨v, r1, r2, r3⟩ := hC.row
    have hfin := fun (w1 : World) (v' : Value) (tmp : Obj) => JA.yes (w1 := w1) (v' := v') (tmp := tmp) (x := ((e0, e1, e2, e3), xv, xt)) hdis hble h2 hC h4 r1 r2 r3
    have hl := hC.l
    have hbx := r1.kept (grownBy_putObj' W (w.heap.size + 1 + 1) (.loop (R .busy))) (by simpa using hdis.1)
    have hrow := ownsRow_putObj r2 (.loop (R .busy)) hl rfl
    have zz : w.heap.size ≤ (W.putObj (w.heap.size + 1 + 1) (.loop (R .busy))).heap.size := by
      rw [World.putObj_size]
      exact hC.b.size
    have HF : Hid (∀ (w1 : World) (v' : Value) (tmp : Obj), w1.ownsRow w.heap.size 53 4 v' (vis.length + 1) (valsOf vis ++ [.int .i64 e0, .int .i64 e1, .int .i64 e2, .int .i64 e3]) → ((W.putObj (w.heap.size + 1 + 1) (.loop (R .busy))).alloc tmp).grownBy w1 v.ownBlock → (v'.ownBlock = v.ownBlock ∨ v'.ownBlock = some ((W.putObj (w.heap.size + 1 + 1) (.loop (R .busy))).alloc tmp).heap.size) → (w1.setCell ⟨w.heap.size, 0, none⟩ v').heap[w.heap.size + 1 + 1]? = some (.loop (R .busy)) ∧ JJ w.heap.size (CA w w.heap.size (w.heap.size + 1 + 1) (w.heap.size + 1) (R .ready)) fb (vis ++ [((e0, e1, e2, e3), xv, xt)]) ((w1.setCell ⟨w.heap.size, 0, none⟩ v').putObj (w.heap.size + 1 + 1) (.loop (R .ready)))) := hfin
    obtain ⟨a8, c8, rfl⟩ : ∃ a8 c8, v = .slice a8 vis.length c8 := by
      rcases r2.2 with ⟨rfl, h9⟩ | ⟨g9, cap9, cur9, rfl, _⟩
      · exact ⟨none, 0, by rw [h9]⟩
      · exact ⟨_, cap9, rfl⟩
    clear h2 hC h4 r1 r2 r3 hx hfin
    rw [← hR] at hl0
    refine round_new (.cells #[.int .i64 e0, .int .i64 e1, .int .i64 e2, .int .i64 e3] 53) (args := #[.agg #[.int .i64 e0, .int .i64 e1, .int .i64 e2, .int .i64 e3]]) hl0 rfl { tmps := #[.slice none 0 0, .func (.func 54) #[] #[.pointer (some ⟨Bm, 0, none⟩)], .pointer (some ⟨w.heap.size, 0, none⟩), undef, .slice none 0 0, .pointer (some ⟨W0.heap.size, 0, none⟩), .func (.func 54) #[] #[.pointer (some ⟨Bm, 0, none⟩)], .agg #[.int .i64 e0, .int .i64 e1, .int .i64 e2, .int .i64 e3], undef, undef, undef, undef, undef], defers := [] } ?assign ?body
    case assign =>
      intro K hK
      gi_wp2
      rw [hWW] at hK
      exact hK
    case body =>
      rw [hR, hWW]
      have c0 := hbx.cell
      have zb9 := hbx.lt
      generalize hWb : W.putObj (w.heap.size + 1 + 1) (.loop (R .busy)) = Wb at *
      clear hR hl hl0 h0 hWb hWW
      have hrow2 := own_below hrow (bl_alloc (o := .cells #[.int .i64 e0, .int .i64 e1, .int .i64 e2, .int .i64 e3] 53) (bl_refl Wb))
      gi_wp2_with (gi_at_builtin; refine wpListIn_append_own_at _ rfl (.tmp 8) (.tmp 10) 69 rfl w.heap.size 53 iV (.agg #[.int .i64 0, .int .i64 0, .int .i64 0, .int .i64 0]) 4 32 Tryz.underlying69 HI.out.1 HI.out.2.1 HI.out.2.2.1 HI.out.2.2.2 rfl (by decide) (.slice a8 vis.length c8) vis.length (valsOf vis) rfl hrow2 ⟨Wb.heap.size, 0, none⟩ 1 1 [.int .i64 e0, .int .i64 e1, .int .i64 e2, .int .i64 e3] rfl rfl (four_new _ _ _ _ _ _ rfl) (four_one _ _ _ _) (by unfold maxLen; omega) (by omega) (by simp; omega) ?grow)
      case grow =>
        intro v' w1 hown hgrow _ hblk
        have hf := HF.out w1 v' _ hown hgrow (hblk.imp id (fun e => by rw [World.size_alloc]; exact e))
        obtain ⟨g9, c9, rfl⟩ := ownsRow_succ hown
        have hbx1 := (hbx.alloc _).kept hgrow (hbx.not_row (by decide) hrow)
        have c1 := hbx1.cell
        have f1 := hbx1.frozen
        have z1 := hbx1.lt
        clear hown hgrow hblk hbx hbx1 hrow hrow2 c0 zb9
        gi_wp2
  rintro e V ⟨⟨u, rfl⟩, vis, hP, _, mb, hC, _⟩
  refine ⟨⟨u, rfl⟩, hC.l, ?_⟩
  obtain ⟨v, r1, r2, r3⟩ := hC.row
  have hbx := r1.kept (grownBy_putObj' V (w.heap.size + 1 + 1) (.loop (R .exhausted))) (by simpa using hdis.1)
  have hrow := ownsRow_putObj r2 (.loop (R .exhausted)) hC.l rfl
  have hK : (V.putObj (w.heap.size + 1 + 1) (.loop (R .exhausted))).heap[w.heap.size + 1]? = some (.deferred (some [])) := (put_other hdis.2.1).trans hC.d
  have hB : Below w.heap.size w (V.putObj (w.heap.size + 1 + 1) (.loop (R .exhausted))) := hC.b.grown (grownBy_putObj' V _ _) hC.b.size (fun r e => by cases e; exact hble.2)
  have HP : Hid (vis.Perm ls) := hP
  obtain ⟨a8, c8, rfl⟩ : ∃ a8 c8, v = .slice a8 vis.length c8 := by
    rcases r2.2 with ⟨rfl, h9⟩ | ⟨g9, cap9, cur9, rfl, _⟩
    · exact ⟨none, 0, by rw [h9]⟩
    · exact ⟨_, cap9, rfl⟩
  clear r1 r2 r3 hC h0 hR hP
  generalize V.putObj (w.heap.size + 1 + 1) (.loop (R .exhausted)) = V1 at *
  have c0 := hbx.cell
  have zb9 := hbx.lt
  gi_wp2
  refine ⟨by simp, .inl ⟨_, _, rfl, run_takeDeferred hK, ?_⟩⟩
  exact ⟨.slice a8 vis.length c8, by simp [results, Tryz.results75, go_sem], .slice a8 vis.length c8, rfl, vis, HP.out, ownsRow_putObj hrow _ hK rfl, hB.grown (grownBy_putObj' V1 _ _) hB.size (fun r e => by cases e; omega)⟩
theorem Gath.slice {w w' : World} {ls : EL} {v : Value} (h : Gath w w' ls v) : ∃ a n q, v = .slice a n q := by
  obtain ⟨vis, _, hr, _⟩ := h
  rcases hr.2 with ⟨rfl, _⟩ | ⟨_, _, _, rfl, _⟩
  · exact ⟨_, _, _, rfl⟩
  · exact ⟨_, _, _, rfl⟩
set_option maxRecDepth 100000 in
theorem collect_any (Bm rm c : Nat) (ls : EL) (hG : Good ls c) (hlen : ls.length ≤ 100000) (w : World) (hd : w.cell? ⟨Bm, 0, none⟩ = some (.map (some rm))) (hm : EM w rm ls c) :
    Calls Tryz.prog 52 #[.func (.func 54) #[] #[.pointer (some ⟨Bm, 0, none⟩)]] w fun e w' => ∃ v, e = .returned v ∧ Gath w w' ls v := by
  have HA : Hid (Calls Tryz.prog 75 #[.slice none 0 0, .func (.func 54) #[] #[.pointer (some ⟨Bm, 0, none⟩)]] w fun e w' => ∃ v, e = .returned v ∧ Gath w w' ls v) := appendSeq_any Bm rm c ls hG hlen w hd hm
  clear hG hd hm
  go_enter Tryz.func52, Tryz.ntmps52
  go_wp2_with (go_at_call 75; refine HA.out.mono ?_; rintro e w1 ⟨v, rfl, hg⟩; obtain ⟨a8, n8, c8, rfl⟩ := hg.slice)
  have HG : Hid (Gath w w1 ls (.slice a8 n8 c8)) := hg
  clear hg
  go_ret
  exact ⟨_, rfl, HG.out⟩
theorem keys_any (rm : Nat) (w : World) : Calls Tryz.prog 33 #[.map (some rm)] w fun e w' => e = .returned (.func (.func 54) #[] #[.pointer (some ⟨w.heap.size, 0, none⟩)]) ∧ w' = w.alloc (.cells #[.map (some rm)] 37) := by
  go_enter Tryz.func33, Tryz.ntmps33
  go_wp2
  go_ret
  exact ⟨rfl, rfl⟩
end Go.Proofs.YtehmoacggikfmaaGreatDoor
