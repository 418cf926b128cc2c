/- The lists that go, one after the other: an iterator over an iterator. -/
import Derived.Test.YtioajagblphbnaaRngs
namespace Go.Proofs.Ytioajagblphbnaa
open Go.RowKit Go.Shelf
attribute [local go_sem] Oper.semAt_some

theorem lists_any (n : Int) (w : World) : Calls Try.prog 19 #[.int .i64 n] w fun e w' => e = .returned (.func (.func 23) #[] #[.pointer (some ⟨w.heap.size, 0, none⟩)]) ∧ w' = w.alloc (.cells #[.int .i64 n] 3) := by
  go_enter Try.func19, Try.ntmps19
  go_wp2
  go_ret
  exact ⟨rfl, rfl⟩
theorem ways_any (a : Option Addr) (n c : Nat) (w : World) : Calls Try.prog 11 #[.slice a n c] w fun e w' => e = .returned (.func (.func 18) #[] #[.pointer (some ⟨w.heap.size, 0, none⟩)]) ∧ w' = w.alloc (.cells #[.slice a n c] 37) := by
  go_enter Try.func11, Try.ntmps11
  go_wp2
  go_ret
  exact ⟨rfl, rfl⟩
/-- Does list k go? -/
def goB (X : List Int) (k : Nat) : Bool := goF X X.length (lst X.length k) X.length []
theorem cell_of {W : World} {b : Nat} {v : Value} {t : TypeId} (h : W.heap[b]? = some (.cells #[v] t)) : W.cell? ⟨b, 0, none⟩ = some v := by
  simp [World.cell?, h]
theorem cell_same {W W' : World} {g : Nat} (h : W.heap[g]? = W'.heap[g]?) (i : Nat) : W.cell? ⟨g, i, none⟩ = W'.cell? ⟨g, i, none⟩ := by
  simp [World.cell?, h]
theorem RoundIn_inR {m m' l2 : Nat} {P : Program} {l : Nat} {f : FuncId} {tmps : Array Value} {assign body : Code} {w : World} {R : Ending → World → Prop} (h : RoundIn .wide m P l f tmps assign body w R) : RoundIn (Fence.wide.inRound l2) m' P l f tmps assign body w R := RoundIn_any (m' := m') h
set_option maxRecDepth 100000 in
set_option maxHeartbeats 2000000 in
theorem ways1_in (X : List Int) (h2 : 2 ≤ X.length) (h8 : X.length ≤ 8) (l1 Bd gd cap m' : Nat) (J : List (Nat × Obj) → Nat → World → Prop) (hF : Fr J)
    (hD : ∀ {fb k W}, J fb k W → W.cell? ⟨Bd, 0, none⟩ = some (.slice (some ⟨gd, 0, none⟩) X.length cap) ∧ Rw W gd X)
    (hYes : ∀ {m fb k W g o}, J ((g, o) :: fb) k W → k < 2 ^ X.length → Rw W g (lst X.length k) → goB X k = true → YieldAt .wide m Try.prog l1 #[.slice (some ⟨g, 0, none⟩) X.length X.length] W fun e W' => e = .returned (.bool true) ∧ J fb (k + 1) W')
    (hNo : ∀ {fb k W}, J fb k W → k < 2 ^ X.length → goB X k = false → J fb (k + 1) W)
    (W : World) (h0 : J [] 0 W) :
    CallsIn .wide m' Try.prog 18 #[.func (.yield l1) #[] #[], .pointer (some ⟨Bd, 0, none⟩)] W fun e W' => (∃ v, e = .returned v) ∧ J [] (2 ^ X.length) W' := by
  refine callsIn_of_wp_marks Try.func18 rfl trivial ?_ rfl
  simp only [Try.ntmps18, List.size_toArray, List.length_cons, List.length_nil, Nat.reduceAdd, Nat.reduceSub, Array.replicate_succ, Array.replicate_zero, List.push_toArray, List.append_toArray, List.nil_append, List.cons_append]
  have hd := (hD h0).1
  have zd : Bd < W.heap.size := World.block_lt_of_cell? _ _ hd
  gi_wp2
  refine ⟨trivial, fun h => (by cases h), (callsIn_wide.2 (lists_any _ _)).mono ?_⟩
  rintro e w' ⟨rfl, rfl⟩
  gi_wp2
  have j1 := hF.new (o := .cells #[.func (.yield l1) #[] #[]] 31) h0 (bl_alloc (bl_refl W)) (Nat.le_refl _) (heap_alloc_new W _)
  have j2 := hF.new (o := .cells #[.int .i64 (X.length : Int)] 3) j1 (bl_alloc (bl_refl _)) (Nat.le_refl _) (heap_alloc_new _ _)
  refine range_outer (gf := 23) (lb := #[.pointer (some ⟨W.heap.size + 1, 0, none⟩)]) rfl (enters_of Try.func23 (by kernel_rfl) rfl) (fun fn => ?_)
  have j3 := hF.new (o := .deferred (some [])) j2 (bl_alloc (bl_refl _)) (Nat.le_refl _) (heap_alloc_new _ _)
  generalize hR : Rec fn _ _ _ _ _ = R
  have j4 := hF.new (o := .loop (R .ready)) j3 (bl_alloc (bl_refl _)) (Nat.le_refl _) (heap_alloc_new _ _)
  simp only [World.size_alloc] at j1 j2 j3 j4 hR ⊢
  refine (lists1_in X.length h8 (by omega) (W.heap.size + 1 + 1 + 1) (W.heap.size + 1) 0 (m' - 1) (fun k V => J [(W.heap.size + 1 + 1 + 1, .loop (R .ready)), (W.heap.size + 1 + 1, .deferred (some [])), (W.heap.size + 1, .cells #[.int .i64 (X.length : Int)] 3), (W.heap.size, .cells #[.func (.yield l1) #[] #[]] 31)] k V) (fun k V V' h hb => hF.gro h hb) (fun k V h => cell_of (hF.here (hF.tail (hF.tail h)))) ?round _ j4).mono ?_
  rotate_left
  · rintro e V ⟨⟨v, rfl⟩, hj⟩
    refine ⟨⟨v, rfl⟩, hF.here hj, ?_⟩
    have hj2 := hF.put (.loop (R .exhausted)) hj
    have hK := hF.here (hF.tail hj2)
    have hj3 := hF.put (.deferred none) (hF.tail hj2)
    refine ⟨by simp, .inl ⟨_, _, rfl, run_takeDeferred hK, ?_⟩⟩
    exact ⟨_, results_none rfl _ _ _, ⟨_, rfl⟩, hF.tail (hF.tail (hF.tail hj3))⟩
  · intro k V0 V hj hb hk hr
    obtain ⟨g, hg⟩ : ∃ g, g = V0.heap.size := ⟨_, rfl⟩
    rw [← hg] at hr ⊢
    have zgV : g < V.heap.size := World.block_lt_of_cell? _ _ (hr 0 (by rw [lst_len]; omega))
    obtain ⟨o, ho⟩ : ∃ o, V.heap[g]? = some o := ⟨_, Array.getElem?_eq_getElem zgV⟩
    have jg := hF.swap (hF.new hj hb (Nat.le_of_eq hg.symm) ho)
    clear hg
    have hl := hF.here jg
    have jb := hF.put (.loop (R .busy)) jg
    have hog := hF.here (hF.swap jb)
    rw [← hR] at hl
    refine round_of hl rfl { tmps := #[.func (.yield l1) #[] #[], .pointer (some ⟨Bd, 0, none⟩), .pointer (some ⟨W.heap.size, 0, none⟩), .slice (some ⟨g, 0, none⟩) X.length X.length, .slice (some ⟨gd, 0, none⟩) X.length cap, .int .i64 (X.length : Int), .func (.func 23) #[] #[.pointer (some ⟨W.heap.size + 1, 0, none⟩)], .slice (some ⟨g, 0, none⟩) X.length X.length, undef, undef, undef, undef, undef, undef, undef, undef, undef], defers := [] } ?assign ?body
    case assign =>
      intro K hK
      gi_wp2
      exact hK
    case body =>
      rw [hR]
      generalize hVb : V.putObj (W.heap.size + 1 + 1 + 1) (.loop (R .busy)) = Vb at jb hog ⊢
      obtain ⟨hdb, hXb⟩ := hD jb
      have hrb : Rw Vb g (lst X.length k) := fun i hi => (cell_same (ho.trans hog.symm) i).symm.trans (hr i hi)
      have hyb : Vb.cell? ⟨W.heap.size, 0, none⟩ = some (.func (.yield l1) #[] #[]) := cell_of (hF.here (hF.tail (hF.tail (hF.tail (hF.tail jb)))))
      have zdb : Bd < Vb.heap.size := World.block_lt_of_cell? _ _ hdb
      have zyb : W.heap.size < Vb.heap.size := World.block_lt_of_cell? _ _ hyb
      have CG := goes_any gd cap g X.length X (lst X.length k) Vb (lst_len _ _) h2 h8 hXb hrb
      rw [show goF X X.length (lst X.length k) X.length [] = goB X k from rfl] at CG
      clear hVb hog ho hr hb hj hl jg
      gi_wp2
      refine ⟨trivial, by first | rfl | (intro h; cases h), CallsIn.inRound _ ((callsIn_wide.2 CG).mono ?_)⟩
      rintro e w5 ⟨rfl, hb5⟩
      have j5 := hF.gro jb hb5
      have hrb5 : Rw w5 g (lst X.length k) := hrb.kept hb5
      have hyb5 := cl_kept hb5 hyb
      have zyb5 : W.heap.size < w5.heap.size := World.block_lt_of_cell? _ _ hyb5
      cases hgo : goB X k
      · gi_wp2
        refine ⟨fun _ h => (by cases h), ?_⟩
        gi_wp2
        exact ⟨hF.here j5, hNo (hF.tail (hF.swap (hF.put (.loop (R .ready)) j5))) hk hgo⟩
      · obtain ⟨fn', tmps', assign', body', hy, hR1⟩ := hYes (m := 0) (hF.swap j5) hk hrb5 hgo
        gi_wp2
        refine ⟨by first | rfl | (intro h; cases h), (RoundIn_inR hR1).mono ?_⟩
        rintro e W3 ⟨rfl, hj3⟩
        gi_wp2
        exact ⟨hF.here hj3, hF.put (.loop (R .ready)) hj3⟩
end Go.Proofs.Ytioajagblphbnaa
