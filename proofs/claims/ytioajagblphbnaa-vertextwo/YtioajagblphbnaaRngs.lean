/- Ranges over a function: two laws for loops that nobody leaves; what an iterator may ask of whoever loops. -/
import Derived.Test.YtioajagblphbnaaLsts
namespace Go.Proofs.Ytioajagblphbnaa
open Go.RowKit Go.Shelf

/-- A loop's record. -/
def Rec (fn : FuncId) (tmps : Array Value) (ps : Array Tmp) (assign body : Code) (D : Nat) (st : LoopState) : Loop := { state := st, pending := none, fn := fn, tmps := tmps, params := ps, assign := assign, body := body, defers := D }
theorem range_outer {P : Program} {n : Nat} {g : Operand} {ps : Array Tmp} {assign body : Code} {Q : Exit → Act → World → Prop} {a : Act} {w : World} {gf : Nat} {lb : Array Value} (hg : a.eval g = .func (.func gf) #[] lb) (eg : ∀ args w, (callFunc gf args).run P w = .ok (.enter gf args) w)
    (h : ∀ fn, CallsIn .wide (n - 1) P gf (#[.func (.yield (w.heap.size + 1)) #[] #[]] ++ lb) ((w.alloc (.deferred (some []))).alloc (.loop (Rec fn a.tmps ps assign body w.heap.size .ready))) fun e W => (∃ v, e = .returned v) ∧ W.heap[w.heap.size + 1]? = some (.loop (Rec fn a.tmps ps assign body w.heap.size .ready)) ∧ Q .normal { a with defers := { target := .collected w.heap.size, args := #[] } :: a.defers } (W.putObj (w.heap.size + 1) (.loop (Rec fn a.tmps ps assign body w.heap.size .exhausted)))) :
    (Code.rangeFunc g ps assign body).wpIn .wide n P Q a w := by
  refine wpIn_rangeFunc ?_
  intro fn _
  refine ⟨w.heap.size + 1, [{ target := .collected w.heap.size, args := #[] }], ((w.alloc (.deferred (some []))).alloc (.loop (Rec fn a.tmps ps assign body w.heap.size .ready))), { target := .fn (.func gf) lb, args := #[.func (.yield (w.heap.size + 1)) #[] #[]] }, ((w.alloc (.deferred (some []))).alloc (.loop (Rec fn a.tmps ps assign body w.heap.size .ready))), gf, #[.func (.yield (w.heap.size + 1)) #[] #[]] ++ lb, ((w.alloc (.deferred (some []))).alloc (.loop (Rec fn a.tmps ps assign body w.heap.size .ready))), run_enterLoop_outer _ _ _ _ _, ?_, fun _ _ => trivial, ?_, fun h => (by cases h), ?_⟩
  · simp only [resolve, hg]
    simp [go_sem]
  · simp [invoke, go_sem, eg]
  · refine (h fn).mono ?_
    rintro e W ⟨⟨v, rfl⟩, hl, hq⟩
    exact ⟨none, _, run_endLoop hl (by simp [Rec]), hq⟩
theorem round_of {P : Program} {l m : Nat} {R : Ending → World → Prop} {fn : FuncId} {tmps : Array Value} {ps : Array Tmp} {assign body : Code} {D : Nat} {W : World} {args : Array Value} (hl : W.heap[l]? = some (.loop (Rec fn tmps ps assign body D .ready))) (hs : args.size = ps.size) (a₁ : Act)
    (hassign : ∀ K : Act → World → Prop, K a₁ W → assign.wpIn (Fence.wide.inRound l) m P (Exit.then K (fun _ _ _ => False)) { tmps := (ps.zip args).foldl (fun t (p, v) => t.setIfInBounds p v) tmps, defers := [] } W)
    (hbody : body.wpIn (Fence.wide.inRound l) m P (fun e _ W3 => e = .normal ∧ W3.heap[l]? = some (.loop (Rec fn tmps ps assign body D .busy)) ∧ R (.returned (.bool true)) (W3.putObj l (.loop (Rec fn tmps ps assign body D .ready)))) a₁ (W.putObj l (.loop (Rec fn tmps ps assign body D .busy)))) :
    YieldAt .wide m P l args W R := by
  refine ⟨fn, _, assign, body, run_yield hl hs, roundIn_of_wpIn trivial (hassign _ ⟨_, run_beginRound hl rfl, wpIn_mono hbody ?_⟩)⟩
  rintro e a3 W3 ⟨rfl, h3, hr⟩
  exact ⟨_, _, run_endRound none h3, hr⟩
/-- What whoever loops hands on from round to round: it abides what an iterator does beside it. The iterator's own blocks, and what lies in them, stand in a list. -/
structure Fr (J : List (Nat × Obj) → Nat → World → Prop) : Prop where
  gro : ∀ {fb k W W'}, J fb k W → Below W.heap.size W W' → J fb k W'
  new : ∀ {fb k W0 W b o}, J fb k W0 → Below W0.heap.size W0 W → W0.heap.size ≤ b → W.heap[b]? = some o → J ((b, o) :: fb) k W
  put : ∀ {fb b o k W} (o' : Obj), J ((b, o) :: fb) k W → J ((b, o') :: fb) k (W.putObj b o')
  here : ∀ {fb b o k W}, J ((b, o) :: fb) k W → W.heap[b]? = some o
  tail : ∀ {fb x k W}, J (x :: fb) k W → J fb k W
  swap : ∀ {fb x y k W}, J (x :: y :: fb) k W → J (y :: x :: fb) k W
/-- What holds k rounds on, told with the blocks of which it speaks. -/
def JJ (n₀ : Nat) (C : (Nat → Prop) → Nat → World → Prop) (fb : List (Nat × Obj)) (k : Nat) (W : World) : Prop := (fb.map fun x => x.1).Nodup ∧ (∀ x ∈ fb, W.heap[x.1]? = some x.2 ∧ n₀ ≤ x.1) ∧ ∃ mb, C mb k W ∧ ∀ x ∈ fb, ¬ mb x.1
theorem put_other {W : World} {b c : Nat} {o : Obj} (h : c ≠ b) : (W.putObj b o).heap[c]? = W.heap[c]? := World.putObj_heap_other h
theorem Fr.of {n₀ : Nat} {C : (Nat → Prop) → Nat → World → Prop} (s0 : ∀ {mb k W}, C mb k W → n₀ ≤ W.heap.size) (sg : ∀ {mb k W W' row}, C mb k W → W.grownBy W' row → (∀ r, row = some r → n₀ ≤ r ∧ ¬ mb r) → C mb k W') (s3 : ∀ {mb k W b}, C mb k W → mb b → b < W.heap.size) : Fr (JJ n₀ C) := {
  gro := by
    rintro fb k W W' ⟨h1, h2, mb, h3, h4⟩ hb
    exact ⟨h1, fun x hx => ⟨(hb.block x.1 (Array.getElem?_eq_some_iff.1 (h2 x hx).1).1).trans (h2 x hx).1, (h2 x hx).2⟩, mb, sg h3 (bl_grown hb) (fun r e => by cases e), h4⟩
  new := by
    rintro fb k W0 W b o ⟨h1, h2, mb, h3, h4⟩ hb hle ho
    refine ⟨?_, ?_, mb, sg h3 (bl_grown hb) (fun r e => by cases e), ?_⟩
    · rw [List.map_cons, List.nodup_cons]
      refine ⟨fun hm => ?_, h1⟩
      obtain ⟨x, hx, e⟩ := List.mem_map.1 hm
      have := (Array.getElem?_eq_some_iff.1 (h2 x hx).1).1
      omega
    · intro x hx
      rcases List.mem_cons.1 hx with rfl | hx
      · exact ⟨ho, Nat.le_trans (s0 h3) hle⟩
      · exact ⟨(hb.block x.1 (Array.getElem?_eq_some_iff.1 (h2 x hx).1).1).trans (h2 x hx).1, (h2 x hx).2⟩
    · intro x hx hm
      rcases List.mem_cons.1 hx with rfl | hx
      · have := s3 h3 hm
        simp only at this
        omega
      · exact h4 x hx hm
  put := by
    rintro fb b o k W o' ⟨h1, h2, mb, h3, h4⟩
    rw [List.map_cons, List.nodup_cons] at h1
    have hb := h2 (b, o) (by simp)
    have hlt := (Array.getElem?_eq_some_iff.1 hb.1).1
    refine ⟨by rw [List.map_cons, List.nodup_cons]; exact h1, ?_, mb, sg h3 (grownBy_putObj' W b o') (fun r e => by cases e; exact ⟨hb.2, h4 (b, o) (by simp)⟩), ?_⟩
    · intro x hx
      rcases List.mem_cons.1 hx with rfl | hx
      · exact ⟨World.putObj_heap_same hlt, hb.2⟩
      · have hne : x.1 ≠ b := fun e => h1.1 (List.mem_map.2 ⟨x, hx, e⟩)
        exact ⟨(put_other hne).trans (h2 x (by simp [hx])).1, (h2 x (by simp [hx])).2⟩
    · intro x hx
      rcases List.mem_cons.1 hx with rfl | hx
      · exact h4 (b, o) (by simp)
      · exact h4 x (by simp [hx])
  here := by
    rintro fb b o k W ⟨h1, h2, _⟩
    exact (h2 (b, o) (by simp)).1
  tail := by
    rintro fb x k W ⟨h1, h2, mb, h3, h4⟩
    rw [List.map_cons, List.nodup_cons] at h1
    exact ⟨h1.2, fun y hy => h2 y (by simp [hy]), mb, h3, fun y hy => h4 y (by simp [hy])⟩
  swap := by
    rintro fb x y k W ⟨h1, h2, mb, h3, h4⟩
    have hp : (x :: y :: fb).Perm (y :: x :: fb) := List.Perm.swap ..
    exact ⟨((hp.map _).nodup_iff).1 h1, fun z hz => h2 z (hp.mem_iff.2 hz), mb, h3, fun z hz => h4 z (hp.mem_iff.2 hz)⟩ }
end Go.Proofs.Ytioajagblphbnaa
