/- The lists that go, gathered. -/
import Derived.Test.YtioajagblphbnaaCntt
import Derived.Maps.OwnIn
namespace Go.Proofs.Ytioajagblphbnaa
open Go.RowKit Go.Shelf
attribute [local go_sem] Oper.semAt_some

/-- The lists that go, of the first k. -/
def KL (X : List Int) : Nat → List (List Int)
  | 0 => []
  | k + 1 => KL X k ++ if goB X k = true then [lst X.length k] else []
theorem KL_len (X : List Int) : ∀ k, (KL X k).length = cnt X k
  | 0 => rfl
  | k + 1 => by
    unfold KL cnt
    rw [List.length_append, KL_len X k]
    split <;> rfl
theorem KL_all (X : List Int) : ∀ k, ∀ l ∈ KL X k, l.length = X.length
  | 0, l, h => by cases h
  | k + 1, l, h => by
    unfold KL at h
    rcases List.mem_append.1 h with h | h
    · exact KL_all X k l h
    · split at h
      · simp at h
        rw [h, lst_len]
      · cases h
def sv (X : List Int) (g : Nat) : Value := .slice (some ⟨g, 0, none⟩) X.length X.length
/-- Lists in memory. -/
def KR (W : World) (gs : List Nat) (Ls : List (List Int)) : Prop := gs.length = Ls.length ∧ ∀ i, i < gs.length → Rw W (gs.getD i 0) (Ls.getD i [])
/-- What stands while they are gathered. -/
structure CA (w : World) (b0 l1 D1 Bd gd cap : Nat) (X : List Int) (rec : Loop) (mb : Nat → Prop) (k : Nat) (W : World) : Prop where
  m : mb b0 ∧ mb l1 ∧ mb D1 ∧ mb Bd ∧ mb gd
  lt : ∀ b, mb b → b < W.heap.size
  l : W.heap[l1]? = some (.loop rec)
  d : W.heap[D1]? = some (.deferred (some []))
  c : W.cell? ⟨Bd, 0, none⟩ = some (.slice (some ⟨gd, 0, none⟩) X.length cap)
  r : Rw W gd X
  b : Below w.heap.size w W
  row : ∃ v gs, Boxed W b0 26 v ∧ W.ownsRow w.heap.size 22 1 v gs.length (gs.map (sv X)) ∧ (∀ q, v.ownBlock = some q → mb q) ∧ KR W gs (KL X k) ∧ ∀ g ∈ gs, mb g
theorem getD_mem {gs : List Nat} {i : Nat} (h : i < gs.length) : gs.getD i 0 ∈ gs := by
  rw [List.getD_eq_getElem?_getD, List.getElem?_eq_getElem h, Option.getD_some]
  exact List.getElem_mem h
theorem CA.grown {w : World} {b0 l1 D1 Bd gd cap : Nat} {X : List Int} {rec : Loop} {mb : Nat → Prop} {k : Nat} {W W' : World} {row : Option Nat} (h : CA w b0 l1 D1 Bd gd cap X rec mb k W) (hg : W.grownBy W' row) (hr : ∀ r, row = some r → w.heap.size ≤ r ∧ ¬ mb r) : CA w b0 l1 D1 Bd gd cap X rec mb k W' := by
  have hn : ∀ b, mb b → some b ≠ row := fun b hb e => (hr b e.symm).2 hb
  obtain ⟨m0, m1, m2, m3, m4⟩ := h.m
  obtain ⟨v, gs, r1, r2, r3, r4, r5⟩ := h.row
  refine ⟨h.m, fun b hb => Nat.lt_of_lt_of_le (h.lt b hb) hg.size, (hg.block _ (h.lt _ m1) (hn _ m1)).trans h.l, (hg.block _ (h.lt _ m2) (hn _ m2)).trans h.d, hg.cell h.c (hn _ m3), h.r.grown hg (hn _ m4), h.b.grown hg h.b.size (fun r e => (hr r e).1), v, gs, r1.kept hg (hn _ m0), r2.kept hg ?_, r3, ⟨r4.1, fun i hi => (r4.2 i hi).grown hg (hn _ (r5 _ (getD_mem hi)))⟩, r5⟩
  cases e : v.ownBlock with
  | none => exact Or.inl rfl
  | some q => exact Or.inr (fun e2 => hn q (r3 q e) e2)
theorem CA.fr (w : World) (b0 l1 D1 Bd gd cap : Nat) (X : List Int) (rec : Loop) : Fr (JJ w.heap.size (CA w b0 l1 D1 Bd gd cap X rec)) :=
  Fr.of (fun h => h.b.size) (fun h hg hr => h.grown hg hr) (fun h hb => h.lt _ hb)
theorem own_cells {W : World} {base e n : Nat} {v : Value} {xs : List Value} {q : Nat} (h : W.ownsRow base e 1 v n xs) (hq : v.ownBlock = some q) : ∃ cur, W.heap[q]? = some (.cells cur e) := by
  rcases h.2 with ⟨rfl, _⟩ | ⟨g, cap, cur, rfl, _, h3, _⟩
  · simp [Value.ownBlock] at hq
  · simp [Value.ownBlock] at hq
    subst hq
    exact ⟨cur, h3⟩
/-- The lists' row is not where a list lies. -/
theorem own_not_list {W : World} {base : Nat} {v : Value} {X l : List Int} {gs : List Nat} {q i : Nat} (h : W.ownsRow base 22 1 v gs.length (gs.map (sv X))) (hq : v.ownBlock = some q) (hi : i < gs.length) (hl : 0 < l.length) (hr : Rw W (gs.getD i 0) l) : q ≠ gs.getD i 0 := fun e => by
  have h0 := hr 0 hl
  rw [← e] at h0
  rcases h.2 with ⟨rfl, _⟩ | ⟨g, cap, cur, rfl, _, h3, _⟩
  · simp [Value.ownBlock] at hq
  · simp [Value.ownBlock] at hq
    subst hq
    have h1 := h.cellAt 0 (by omega)
    rw [h0] at h1
    rw [List.getElem?_map, List.getElem?_eq_getElem (by omega)] at h1
    simp [sv] at h1
theorem JA.no {w : World} {b0 l1 D1 Bd gd cap : Nat} {X : List Int} {rec : Loop} {fb : List (Nat × Obj)} {k : Nat} {W : World} (h : JJ w.heap.size (CA w b0 l1 D1 Bd gd cap X rec) fb k W) (hg : goB X k = false) : JJ w.heap.size (CA w b0 l1 D1 Bd gd cap X rec) fb (k + 1) W := by
  obtain ⟨h1, h2, mb, h3, h4⟩ := h
  have e : KL X (k + 1) = KL X k := by rw [KL, if_neg (by simp [hg]), List.append_nil]
  obtain ⟨v, gs, r1, r2, r3, r4, r5⟩ := h3.row
  exact ⟨h1, h2, mb, ⟨h3.m, h3.lt, h3.l, h3.d, h3.c, h3.r, h3.b, v, gs, r1, r2, r3, by rw [e]; exact r4, r5⟩, h4⟩
theorem JA.yes {w w1 : World} {b0 l1 D1 Bd gd cap : Nat} {X : List Int} {R : LoopState → Loop} {fb : List (Nat × Obj)} {k g : Nat} {o tmp : Obj} {W : World} {mb : Nat → Prop} {v v' : Value} {gs : List Nat} (h2X : 2 ≤ X.length) (hd : b0 ≠ l1 ∧ D1 ≠ l1 ∧ D1 ≠ b0) (hb : w.heap.size ≤ b0 ∧ w.heap.size ≤ l1 ∧ Bd < w.heap.size ∧ gd < w.heap.size)
    (h1 : (((g, o) :: fb).map fun x => x.1).Nodup) (h2 : ∀ x ∈ (g, o) :: fb, W.heap[x.1]? = some x.2 ∧ w.heap.size ≤ x.1) (hC : CA w b0 l1 D1 Bd gd cap X (R .ready) mb k W) (h4 : ∀ x ∈ (g, o) :: fb, ¬ mb x.1)
    (r1 : Boxed W b0 26 v) (r2 : W.ownsRow w.heap.size 22 1 v gs.length (gs.map (sv X))) (r3 : ∀ q, v.ownBlock = some q → mb q) (r4 : KR W gs (KL X k)) (r5 : ∀ g ∈ gs, mb g)
    (hr : Rw W g (lst X.length k)) (hg : goB X k = true) (hown : w1.ownsRow w.heap.size 22 1 v' (gs.length + 1) (gs.map (sv X) ++ [sv X g])) (hgrow : ((W.putObj l1 (.loop (R .busy))).alloc tmp).grownBy w1 v.ownBlock) (hblk : v'.ownBlock = v.ownBlock ∨ v'.ownBlock = some ((W.putObj l1 (.loop (R .busy))).alloc tmp).heap.size) :
    (w1.setCell ⟨b0, 0, none⟩ v').heap[l1]? = some (.loop (R .busy)) ∧ JJ w.heap.size (CA w b0 l1 D1 Bd gd cap X (R .ready)) fb (k + 1) ((w1.setCell ⟨b0, 0, none⟩ v').putObj l1 (.loop (R .ready))) := by
  obtain ⟨m0, m1, m2, m3, m4⟩ := hC.m
  obtain ⟨d1, d2, d3⟩ := hd
  obtain ⟨hb0, hbl, hbd, hbg⟩ := hb
  have g1 := grownBy_putObj' W l1 (.loop (R .busy))
  have g2 : (W.putObj l1 (.loop (R .busy))).grownBy ((W.putObj l1 (.loop (R .busy))).alloc tmp) none := World.grownBy_alloc _ _ _
  have g4 := grownBy_setCell' w1 b0 v'
  have g5 := grownBy_putObj' (w1.setCell ⟨b0, 0, none⟩ v') l1 (.loop (R .ready))
  have z2 : W.heap.size ≤ ((W.putObj l1 (.loop (R .busy))).alloc tmp).heap.size := Nat.le_trans g1.size g2.size
  have z3 : W.heap.size ≤ w1.heap.size := Nat.le_trans z2 hgrow.size
  have z4 : W.heap.size ≤ (w1.setCell ⟨b0, 0, none⟩ v').heap.size := Nat.le_trans z3 g4.size
  have no1 : ∀ q, v.ownBlock = some q → q ≠ l1 := fun q hq e => by
    obtain ⟨cur, hc⟩ := own_cells r2 hq
    rw [e, hC.l] at hc
    cases hc
  have no2 : ∀ q, v.ownBlock = some q → q ≠ D1 := fun q hq e => by
    obtain ⟨cur, hc⟩ := own_cells r2 hq
    rw [e, hC.d] at hc
    cases hc
  have no0 : some b0 ≠ v.ownBlock := r1.not_row (by decide) r2
  have same3 : ∀ b, b < W.heap.size → b ≠ l1 → some b ≠ v.ownBlock → w1.heap[b]? = W.heap[b]? := fun b hlt n1 nv =>
    ((hgrow.block b (Nat.lt_of_lt_of_le hlt z2) nv).trans (g2.block b (Nat.lt_of_lt_of_le hlt g1.size) (by simp))).trans (g1.block b hlt (by simpa using n1))
  have same : ∀ b, b < W.heap.size → b ≠ l1 → b ≠ b0 → some b ≠ v.ownBlock → ((w1.setCell ⟨b0, 0, none⟩ v').putObj l1 (.loop (R .ready))).heap[b]? = W.heap[b]? := fun b hlt n1 n0 nv =>
    ((g5.block b (Nat.lt_of_lt_of_le hlt z4) (by simpa using n1)).trans (g4.block b (Nat.lt_of_lt_of_le hlt z3) (by simpa using n0))).trans (same3 b hlt n1 nv)
  have hlb : (W.putObj l1 (.loop (R .busy))).heap[l1]? = some (.loop (R .busy)) := World.putObj_heap_same (hC.lt _ m1)
  have hl3 : w1.heap[l1]? = some (.loop (R .busy)) := ((hgrow.block l1 (Nat.lt_of_lt_of_le (hC.lt _ m1) z2) (fun e => no1 l1 e.symm rfl)).trans (g2.block l1 (Nat.lt_of_lt_of_le (hC.lt _ m1) g1.size) (by simp))).trans hlb
  have hl4 : (w1.setCell ⟨b0, 0, none⟩ v').heap[l1]? = some (.loop (R .busy)) := (g4.block l1 (Nat.lt_of_lt_of_le (hC.lt _ m1) z3) (by simpa using d1.symm)).trans hl3
  have zf : W.heap.size ≤ ((w1.setCell ⟨b0, 0, none⟩ v').putObj l1 (.loop (R .ready))).heap.size := Nat.le_trans z4 g5.size
  have zg : g < W.heap.size := (Array.getElem?_eq_some_iff.1 (h2 (g, o) (by simp)).1).1
  have ng : ¬ mb g := h4 (g, o) (by simp)
  have gv : some g ≠ v.ownBlock := fun e => ng (r3 g e.symm)
  have rowf : ((w1.setCell ⟨b0, 0, none⟩ v').putObj l1 (.loop (R .ready))).ownsRow w.heap.size 22 1 v' (gs ++ [g]).length ((gs ++ [g]).map (sv X)) := by
    have b1 : Boxed w1 b0 26 v := ((r1.kept g1 (by simpa using d1)).alloc tmp).kept hgrow no0
    have h8 := hown.kept g4 (.inr (b1.not_row (by decide) hown).symm)
    have h9 := ownsRow_putObj h8 (.loop (R .ready)) hl4 rfl
    rw [List.length_append, List.map_append]
    exact h9
  rw [List.map_cons, List.nodup_cons] at h1
  refine ⟨hl4, h1.2, fun x hx => ?_, fun b => mb b ∨ b = g ∨ v'.ownBlock = some b, ⟨⟨Or.inl m0, Or.inl m1, Or.inl m2, Or.inl m3, Or.inl m4⟩, ?_, ?_, ?_, ?_, ?_, ?_, v', gs ++ [g], ?_, rowf, fun q hq => Or.inr (Or.inr hq), ?_, ?_⟩, ?_⟩
  · have hx2 := h2 x (by simp [hx])
    have hx4 := h4 x (by simp [hx])
    refine ⟨?_, hx2.2⟩
    rw [same x.1 (Array.getElem?_eq_some_iff.1 hx2.1).1 (fun e => hx4 (e ▸ m1)) (fun e => hx4 (e ▸ m0)) (fun e => hx4 (r3 _ e.symm))]
    exact hx2.1
  · rintro b (hb | rfl | hb)
    · exact Nat.lt_of_lt_of_le (hC.lt b hb) zf
    · exact Nat.lt_of_lt_of_le zg zf
    · obtain ⟨cur, hc⟩ := own_cells rowf hb
      exact (Array.getElem?_eq_some_iff.1 hc).1
  · exact World.putObj_heap_same (Array.getElem?_eq_some_iff.1 hl4).1
  · exact (same D1 (hC.lt _ m2) d2 d3 (fun e => no2 D1 e.symm rfl)).trans hC.d
  · exact (cell_same (same Bd (hC.lt _ m3) (by omega) (by omega) (fun e => by have := own_base r2 Bd e.symm; omega)) 0).trans hC.c
  · exact fun i hi => (cell_same (same gd (hC.lt _ m4) (by omega) (by omega) (fun e => by have := own_base r2 gd e.symm; omega)) i).trans (hC.r i hi)
  · have k1 := hC.b.grown g1 hC.b.size (fun r e => by cases e; exact hbl)
    have k2 := k1.grown g2 k1.size (fun r e => by cases e)
    have k3 := k2.grown hgrow k2.size (fun r e => own_base r2 r e)
    have k4 := k3.grown g4 k3.size (fun r e => by cases e; exact hb0)
    exact k4.grown g5 k4.size (fun r e => by cases e; exact hbl)
  · exact ((((r1.kept g1 (by simpa using d1)).alloc tmp).kept hgrow no0).set v').kept g5 (by simpa using d1)
  · have e : KL X (k + 1) = KL X k ++ [lst X.length k] := by rw [KL, if_pos hg]
    rw [e]
    refine ⟨by simp [r4.1], fun i hi => ?_⟩
    by_cases hi2 : i < gs.length
    · have e1 : (gs ++ [g]).getD i 0 = gs.getD i 0 := by
        rw [List.getD_eq_getElem?_getD, List.getD_eq_getElem?_getD, List.getElem?_append_left hi2]
      have e2 : (KL X k ++ [lst X.length k]).getD i [] = (KL X k).getD i [] := by
        rw [List.getD_eq_getElem?_getD, List.getD_eq_getElem?_getD, List.getElem?_append_left (by rw [← r4.1]; exact hi2)]
      rw [e1, e2]
      have hm := r5 _ (getD_mem hi2)
      have hR := r4.2 i hi2
      have hlen : 0 < ((KL X k).getD i []).length := by
        have hi3 : i < (KL X k).length := by rw [← r4.1]; exact hi2
        rw [List.getD_eq_getElem?_getD, List.getElem?_eq_getElem hi3, Option.getD_some, KL_all X k _ (List.getElem_mem hi3)]
        omega
      have q0 : gs.getD i 0 ≠ b0 := fun e => by
        have c9 := hR 0 hlen
        rw [e, r1.cell] at c9
        have h7 := r2.2
        rcases h7 with ⟨rfl, _⟩ | ⟨_, _, _, rfl, _⟩ <;> simp at c9
      have q1 : gs.getD i 0 ≠ l1 := fun e => by
        have c9 := hR 0 hlen
        rw [e] at c9
        simp [World.cell?, hC.l] at c9
      exact fun j hj => (cell_same (same _ (hC.lt _ hm) q1 q0 (fun e => own_not_list r2 e.symm hi2 hlen hR rfl)) j).trans (hR j hj)
    · have hi3 : i = gs.length := by
        rw [List.length_append, List.length_singleton] at hi
        omega
      have e1 : (gs ++ [g]).getD i 0 = g := by
        rw [hi3, List.getD_eq_getElem?_getD, List.getElem?_append_right (Nat.le_refl _)]
        simp
      have e2 : (KL X k ++ [lst X.length k]).getD i [] = lst X.length k := by
        rw [hi3, r4.1, List.getD_eq_getElem?_getD, List.getElem?_append_right (Nat.le_refl _)]
        simp
      rw [e1, e2]
      exact fun j hj => (cell_same (same g zg (fun e => ng (e ▸ m1)) (fun e => ng (e ▸ m0)) gv) j).trans (hr j hj)
  · intro x hx
    rcases List.mem_append.1 hx with hx | hx
    · exact Or.inl (r5 x hx)
    · simp at hx
      exact Or.inr (Or.inl hx)
  · rintro x hx (hm | e | hq)
    · exact h4 x (by simp [hx]) hm
    · exact h1.1 (List.mem_map.2 ⟨x, hx, e⟩)
    · have hx2 := h2 x (by simp [hx])
      have hlt := (Array.getElem?_eq_some_iff.1 hx2.1).1
      rcases hblk with e | e
      · exact h4 x (by simp [hx]) (r3 _ (by rw [← e]; exact hq))
      · rw [e] at hq
        simp only [Option.some.injEq] at hq
        omega
theorem cell_oneV (w : World) (v : Value) (T : TypeId) : ∀ j u, ([v])[j]? = some u → (w.alloc (.cells #[v] T)).cell? ((⟨w.heap.size, 0, none⟩ : Addr).add j) = some u := by
  intro j u hu
  match j, hu with
  | 0, hu => simp at hu; subst hu; simp [Addr.add, go_sem]
theorem infV : (Try.prog.info? 22).map (fun i => (i.zero, i.size, i.bytes)) = some (some (.slice none 0 0), 1, 24) := by kernel_rfl
/-- What AppendSeq and Collect hand back. -/
def Gath (w w' : World) (X : List Int) (Ls : List (List Int)) (v : Value) : Prop := ∃ gs, w'.ownsRow w.heap.size 22 1 v gs.length (gs.map (sv X)) ∧ KR w' gs Ls ∧ Below w.heap.size w w'
set_option maxRecDepth 100000 in
set_option maxHeartbeats 400000 in
theorem appendSeq_any (X : List Int) (n2 : 2 ≤ X.length) (n8 : X.length ≤ 8) (Bd gd cap : Nat) (w : World) (hd : w.cell? ⟨Bd, 0, none⟩ = some (.slice (some ⟨gd, 0, none⟩) X.length cap)) (hr : Rw w gd X) :
    Calls Try.prog 20 #[.slice none 0 0, .func (.func 18) #[] #[.pointer (some ⟨Bd, 0, none⟩)]] w fun e w' => ∃ v, e = .returned v ∧ Gath w w' X (KL X (2 ^ X.length)) v := by
  obtain ⟨n, hn⟩ : ∃ n : Nat, n = n := ⟨0, rfl⟩
  refine (callsIn_wide (n := n)).1 ?_
  clear hn
  obtain ⟨iV, hI⟩ := info_parts infV
  have HI : Hid (Try.prog.info? 22 = some iV ∧ iV.zero = some (.slice none 0 0) ∧ iV.size = 1 ∧ iV.bytes = 24) := hI
  clear hI
  refine callsIn_of_wp_marks Try.func20 rfl trivial ?_ rfl
  simp only [Try.ntmps20, List.size_toArray, List.length_cons, List.length_nil, Nat.reduceAdd, Nat.reduceSub, Array.replicate_succ, Array.replicate_zero, List.push_toArray, List.append_toArray, List.nil_append, List.cons_append]
  have zd : Bd < w.heap.size := World.block_lt_of_cell? _ _ hd
  have zg : gd < w.heap.size := World.block_lt_of_cell? _ _ (hr 0 (by omega))
  gi_wp2
  refine range_outer (gf := 18) (lb := #[.pointer (some ⟨Bd, 0, none⟩)]) rfl (enters_of Try.func18 (by kernel_rfl) rfl) (fun fn => ?_)
  generalize hR : Rec fn _ _ _ _ _ = R
  simp only [World.size_alloc] at hR ⊢
  have hdis : w.heap.size ≠ w.heap.size + 1 + 1 ∧ w.heap.size + 1 ≠ w.heap.size + 1 + 1 ∧ w.heap.size + 1 ≠ w.heap.size := by omega
  have hble : w.heap.size ≤ w.heap.size ∧ w.heap.size ≤ w.heap.size + 1 + 1 ∧ Bd < w.heap.size ∧ gd < w.heap.size := by omega
  have h0 : JJ w.heap.size (CA w w.heap.size (w.heap.size + 1 + 1) (w.heap.size + 1) Bd gd cap X (R .ready)) [] 0 (((w.alloc (.cells #[.slice none 0 0] 26)).alloc (.deferred (some []))).alloc (.loop (R .ready))) := by
    refine ⟨by simp, by simp, fun b => b = w.heap.size ∨ b = w.heap.size + 1 + 1 ∨ b = w.heap.size + 1 ∨ b = Bd ∨ b = gd, ⟨by simp, ?_, ?_, ?_, ?_, ?_, ?_, .slice none 0 0, [], ?_, ?_, ?_, ?_, ?_⟩, by simp⟩
    · intro b hb
      simp only [World.size_alloc]
      omega
    · have h9 := heap_alloc_new ((w.alloc (.cells #[.slice none 0 0] 26)).alloc (.deferred (some []))) (.loop (R .ready))
      rw [World.size_alloc, World.size_alloc] at h9
      exact h9
    · have h9 := heap_alloc_new (w.alloc (.cells #[.slice none 0 0] 26)) (.deferred (some []))
      rw [World.size_alloc] at h9
      exact (Below.heap_alloc _ _ _ (by simp)).trans h9
    · exact cl_kept (bl_alloc (bl_alloc (bl_alloc (bl_refl _)))) hd
    · exact hr.kept (bl_alloc (bl_alloc (bl_alloc (bl_refl _))))
    · exact bl_alloc (bl_alloc (bl_alloc (bl_refl _)))
    · exact ((Boxed.new w 26 _).alloc _).alloc _
    · exact ⟨rfl, Or.inl ⟨rfl, rfl⟩⟩
    · intro q hq
      simp [Value.ownBlock] at hq
    · exact ⟨rfl, fun i hi => by simp at hi⟩
    · intro x hx
      cases hx
  refine (ways1_in X n2 n8 (w.heap.size + 1 + 1) Bd gd cap (n - 1) (JJ w.heap.size (CA w w.heap.size (w.heap.size + 1 + 1) (w.heap.size + 1) Bd gd cap X (R .ready))) (CA.fr ..) ?hD ?hYes (fun h _ hg => JA.no h hg) _ h0).mono ?_
  case hD =>
    rintro fb k W ⟨_, _, mb, hC, _⟩
    exact ⟨hC.c, hC.r⟩
  case hYes =>
    rintro m fb k W gk o ⟨h1, h2, mb, hC, h4⟩ hk hrk hg
    obtain ⟨v, gs, r1, r2, r3, r4, r5⟩ := hC.row
    have hfin := fun (w1 : World) (v' : Value) (tmp : Obj) => JA.yes (w1 := w1) (v' := v') (tmp := tmp) n2 hdis hble h1 h2 hC h4 r1 r2 r3 r4 r5 hrk hg
    have hl := hC.l
    have hbx := r1.kept (grownBy_putObj' W (w.heap.size + 1 + 1) (.loop (R .busy))) (by simpa using hdis.1)
    have hrow := ownsRow_putObj r2 (.loop (R .busy)) hl rfl
    have hcl : gs.length ≤ 256 := by
      have h5 := cnt_le X k
      have h6 := (shl_nat n8).2
      rw [r4.1, KL_len]
      omega
    have zz : w.heap.size ≤ (W.putObj (w.heap.size + 1 + 1) (.loop (R .busy))).heap.size := by
      rw [World.putObj_size]
      exact hC.b.size
    have HF : Hid (∀ (w1 : World) (v' : Value) (tmp : Obj), w1.ownsRow w.heap.size 22 1 v' (gs.length + 1) (gs.map (sv X) ++ [sv X gk]) → ((W.putObj (w.heap.size + 1 + 1) (.loop (R .busy))).alloc tmp).grownBy w1 v.ownBlock → (v'.ownBlock = v.ownBlock ∨ v'.ownBlock = some ((W.putObj (w.heap.size + 1 + 1) (.loop (R .busy))).alloc tmp).heap.size) → (w1.setCell ⟨w.heap.size, 0, none⟩ v').heap[w.heap.size + 1 + 1]? = some (.loop (R .busy)) ∧ JJ w.heap.size (CA w w.heap.size (w.heap.size + 1 + 1) (w.heap.size + 1) Bd gd cap X (R .ready)) fb (k + 1) ((w1.setCell ⟨w.heap.size, 0, none⟩ v').putObj (w.heap.size + 1 + 1) (.loop (R .ready)))) := hfin
    obtain ⟨a8, c8, rfl⟩ : ∃ a8 c8, v = .slice a8 gs.length c8 := by
      rcases r2.2 with ⟨rfl, h9⟩ | ⟨g9, cap9, cur9, rfl, _⟩
      · exact ⟨none, 0, by rw [h9]⟩
      · exact ⟨_, cap9, rfl⟩
    clear h1 h2 hC h4 r1 r2 r3 r4 r5 hk hg hfin
    rw [← hR] at hl
    refine round_of hl rfl { tmps := #[.slice none 0 0, .func (.func 18) #[] #[.pointer (some ⟨Bd, 0, none⟩)], .pointer (some ⟨w.heap.size, 0, none⟩), undef, .slice none 0 0, .slice (some ⟨gk, 0, none⟩) X.length X.length, .func (.func 18) #[] #[.pointer (some ⟨Bd, 0, none⟩)], .slice (some ⟨gk, 0, none⟩) X.length X.length, undef, undef, undef, undef, undef], defers := [] } ?assign ?body
    case assign =>
      intro K hK
      gi_wp2
      exact hK
    case body =>
      rw [hR]
      have c0 := hbx.cell
      have zb9 := hbx.lt
      generalize hWb : W.putObj (w.heap.size + 1 + 1) (.loop (R .busy)) = Wb at *
      clear hR hl h0 hWb
      have hrow2 := own_below hrow (bl_alloc (o := .cells #[.slice (some ⟨gk, 0, none⟩) X.length X.length] 22) (bl_refl Wb))
      gi_wp2_with (gi_at_builtin; refine wpListIn_append_own_at _ rfl (.tmp 8) (.tmp 10) 26 rfl w.heap.size 22 iV (.slice none 0 0) 1 24 Try.underlying26 HI.out.1 HI.out.2.1 HI.out.2.2.1 HI.out.2.2.2 rfl (by decide) (.slice a8 gs.length c8) gs.length (gs.map (sv X)) rfl hrow2 ⟨Wb.heap.size, 0, none⟩ 1 1 [.slice (some ⟨gk, 0, none⟩) X.length X.length] rfl rfl (cell_oneV _ _ _) (by intro u hu; simp at hu; subst hu; rfl) (by unfold maxLen; omega) (by omega) (by simp; omega) ?grow)
      case grow =>
        intro v' w1 hown hgrow _ hblk
        have hf := HF.out w1 v' _ hown hgrow (hblk.imp id (fun e => by rw [World.size_alloc]; exact e))
        obtain ⟨g9, c9, rfl⟩ := ownsRow_succ hown
        have hbx1 := (hbx.alloc _).kept hgrow (hbx.not_row (by decide) hrow)
        have c1 := hbx1.cell
        have f1 := hbx1.frozen
        have z1 := hbx1.lt
        clear hown hgrow hblk hbx hbx1 hrow hrow2 c0 zb9
        gi_wp2
  rintro e V ⟨⟨u, rfl⟩, _, _, mb, hC, _⟩
  refine ⟨⟨u, rfl⟩, hC.l, ?_⟩
  obtain ⟨v, gs, r1, r2, r3, r4, r5⟩ := hC.row
  have hbx := r1.kept (grownBy_putObj' V (w.heap.size + 1 + 1) (.loop (R .exhausted))) (by simpa using hdis.1)
  have hrow := ownsRow_putObj r2 (.loop (R .exhausted)) hC.l rfl
  have hK : (V.putObj (w.heap.size + 1 + 1) (.loop (R .exhausted))).heap[w.heap.size + 1]? = some (.deferred (some [])) := (put_other hdis.2.1).trans hC.d
  have hB : Below w.heap.size w (V.putObj (w.heap.size + 1 + 1) (.loop (R .exhausted))) := hC.b.grown (grownBy_putObj' V _ _) hC.b.size (fun r e => by cases e; exact hble.2.1)
  have hKR : ∀ i, i < gs.length → Rw (V.putObj (w.heap.size + 1 + 1) (.loop (R .exhausted))) (gs.getD i 0) ((KL X (2 ^ X.length)).getD i []) := fun i hi => (r4.2 i hi).grown (grownBy_putObj' V _ _) (fun e => by
    have c9 := r4.2 i hi 0 (by
      have hi3 : i < (KL X (2 ^ X.length)).length := by rw [← r4.1]; exact hi
      rw [List.getD_eq_getElem?_getD, List.getElem?_eq_getElem hi3, Option.getD_some, KL_all X _ _ (List.getElem_mem hi3)]
      omega)
    simp only [Option.some.injEq] at e
    rw [e] at c9
    simp [World.cell?, hC.l] at c9)
  have HLEN : Hid (gs.length = (KL X (2 ^ X.length)).length) := r4.1
  obtain ⟨a8, c8, rfl⟩ : ∃ a8 c8, v = .slice a8 gs.length c8 := by
    rcases r2.2 with ⟨rfl, h9⟩ | ⟨g9, cap9, cur9, rfl, _⟩
    · exact ⟨none, 0, by rw [h9]⟩
    · exact ⟨_, cap9, rfl⟩
  clear r1 r2 r3 r4 r5 hC h0 hR
  generalize V.putObj (w.heap.size + 1 + 1) (.loop (R .exhausted)) = V1 at *
  have c0 := hbx.cell
  have zb9 := hbx.lt
  gi_wp2
  refine ⟨by simp, .inl ⟨_, _, rfl, run_takeDeferred hK, ?_⟩⟩
  refine ⟨.slice a8 gs.length c8, by simp [results, Try.results20, go_sem], .slice a8 gs.length c8, rfl, gs, ownsRow_putObj hrow _ hK rfl, ⟨HLEN.out, fun i hi => (hKR i hi).grown (grownBy_putObj' V1 _ _) (fun e => ?_)⟩, hB.grown (grownBy_putObj' V1 _ _) hB.size (fun r e => by cases e; omega)⟩
  have c9 := hKR i hi 0 (by
    have hi3 : i < (KL X (2 ^ X.length)).length := by rw [← HLEN.out]; exact hi
    rw [List.getD_eq_getElem?_getD, List.getElem?_eq_getElem hi3, Option.getD_some, KL_all X _ _ (List.getElem_mem hi3)]
    omega)
  simp only [Option.some.injEq] at e
  rw [e] at c9
  simp [World.cell?, hK] at c9
end Go.Proofs.Ytioajagblphbnaa
