/- those: one order that is whole is told: what goes is kept. -/
import Derived.Test.YtdflindoemffaaaStst
import Derived.Deep.RegionLaw
namespace Go.Proofs.Ytdflindoemffaaa
open Go.RowKit

theorem step_callTo {P : Program} {ops : Array Oper} {o : Oper} {a : Act} {w : World} {K : Act → World → Prop} {Q : Exit → Act → World → Prop} {E : Prop} {R : Ending → World → Prop} (hgd : o.guard = none)
    (f : FuncId) (args : Array Value) (hrun : (execOp a.eval o).run P w = .ok (.enter f args) w) (hc : Calls P f args w R) (h : ∀ e w', R e w' → ∃ v, e = .returned v ∧ K (a.put o.dst v) w') :
    if Region.wanted o (yielded ops a.tmps) = true then Oper.wp P o a w K Q else E := by
  have hw : Region.wanted o (yielded ops a.tmps) = true := by simp [Region.wanted, hgd]
  rw [if_pos hw]
  unfold Oper.wp
  rw [hrun, Oper.upon_enter]
  refine hc.mono fun e w'' hh => ?_
  obtain ⟨v, rfl, hk⟩ := h e w'' hh
  exact hk
theorem al_old {w : World} {p : Addr} {v : Value} {o : Obj} (h : w.cell? p = some v) : (w.alloc o).cell? p = some v := cl_kept (bl_alloc (bl_refl w)) h
theorem dr_old {w : World} {p : Addr} {v : Value} (h : w.cell? p = some v) : w.drew.cell? p = some v := cl_kept (bl_drew (bl_refl w)) h
set_option maxRecDepth 100000 in
set_option maxHeartbeats 1600000 in
theorem tell36 (w W : World) (Bw Bf g n z : Nat) (es : List (Nat × Nat × List Int)) (b : List Int) (hS : St w W Bw Bf g n z (.func (.func 23) #[] #[]) es b) (hl : b.length = n) (hp : Prm b) (h1 : 1 ≤ n) (h8 : n ≤ 8) (hes : es.length ≤ 20000000) :
    Calls Try.prog 36 #[.slice (some ⟨g, 0, none⟩) n n, .pointer (some ⟨Bw, 0, none⟩), .pointer (some ⟨Bf, 0, none⟩)] W fun e w' => e = .returned (.tuple #[]) ∧ ∃ es', St w w' Bw Bf g n z (.func (.func 23) #[] #[]) es' b ∧ lsO es' = lsO es ++ (if gdB b = true then [b] else []) := by
  subst hl
  have hrw : Rw W g b := own_rw hS.2.2.2.1
  have CG : Hid (∀ W' : World, Below W.heap.size W W' → Calls Try.prog 23 #[.slice (some ⟨g, 0, none⟩) b.length b.length] W' fun e w' => e = .returned (.bool (gdB b)) ∧ Below W'.heap.size W' w') := fun W' hb => goes_any _ b W' (rw_sg (hrw.kept hb)) hp h1 h8
  have CC : Hid (∀ W' : World, Below W.heap.size W W' → Calls Try.prog 37 #[.slice (some ⟨g, 0, none⟩) b.length b.length] W' fun e w' => ∃ g' c', e = .returned (.slice (some ⟨g', 0, none⟩) b.length c') ∧ Rw w' g' b ∧ Below W'.heap.size W' w' ∧ W'.heap.size ≤ g' ∧ b.length ≤ c') := fun W' hb => clone_any g b.length b W' (hrw.kept hb) h1 h8
  have HS : Hid (St w W Bw Bf g b.length z (.func (.func 23) #[] #[]) es b) := hS
  obtain ⟨iv, hI⟩ := info_parts infV
  have HI : Hid (Try.prog.info? 22 = some iv ∧ iv.zero = some (.slice none 0 0) ∧ iv.size = 1 ∧ iv.bytes = 24) := hI
  have c0 := hS.2.2.1
  have z0 : Bw < W.heap.size := World.block_lt_of_cell? _ _ c0
  obtain ⟨gb, hgb⟩ : ∃ x, x = gdB b := ⟨_, rfl⟩
  rw [← hgb] at CG ⊢
  clear hp hrw hI hS hgb
  go_enter Try.func36, Try.ntmps36
  cases gb
  · go_wp2_with (go_at_call 23; refine (CG.out _ (by first | exact bl_refl _ | exact bl_drew (bl_refl _))).mono ?_; rintro e w1 ⟨rfl, hb⟩)
    go_end0
    exact ⟨rfl, es, HS.out.kept hb, by simp⟩
  · go_wp2_with (go_at_call 23; refine (CG.out _ (by first | exact bl_refl _ | exact bl_drew (bl_refl _))).mono ?_; rintro e w1 ⟨rfl, hb⟩)
    obtain ⟨fv, hfv, hO⟩ := (HS.out.kept hb).2.2.2.2
    have HS1 : Hid (St w w1 Bw Bf g b.length z (.func (.func 23) #[] #[]) es b ∧ w1.ownsRow z 22 1 fv es.length (es.map sv) ∧ z ≤ w1.heap.size) := ⟨HS.out.kept hb, hO.1, (HS.out.kept hb).2.1.2.2.2.2.2.2.2.2⟩
    have p0 := hfv.1
    have pf := hfv.2
    have HB1 : Hid (Below W.heap.size W w1) := hb
    have zf : Bf < w1.heap.size := World.block_lt_of_cell? _ _ p0
    have HNV : Hid (some Bf ≠ fv.ownBlock) := fun e => by
      have h2 := (hO.1.lt Bf e.symm).1
      have h3 := (HS.out.kept hb).2.1.2.2.2.1
      omega
    clear hfv hO hb HS c0 z0 CG
    go_region_law (first
        | (refine step_callTo (by rfl) 37 #[.slice (some ⟨g, 0, none⟩) b.length b.length] (by kernel_rfl) (CC.out _ (bl_via HB1.out (by with_reducible repeat (first | exact bl_refl _ | refine bl_drew ?_)))) ?_; rintro e w8 ⟨gc, cc, rfl, hr8, hb8, hge8, hcc8⟩; refine ⟨_, rfl, ?_⟩; have hq8 : Below w1.heap.size w1 w8 := bl_via (by with_reducible repeat (first | exact bl_refl _ | refine bl_drew ?_)) hb8; have HQ : Hid (Rw w8 gc b ∧ Below w1.heap.size w1 w8 ∧ w1.heap.size ≤ gc ∧ b.length ≤ cc) := ⟨hr8, hq8, hge8, hcc8⟩; have p0_8 := cl_kept hq8 p0; have zf8 : Bf < w8.heap.size := World.block_lt_of_cell? _ _ p0_8; clear hr8 hb8 hge8 hq8 hcc8)
        | (refine step_append_lies _ (by rfl) (.tmp 7) (.tmp 10) 32 (by rfl) z 22 iv (.slice none 0 0) 1 24 Try.underlying32 HI.out.1 HI.out.2.1 HI.out.2.2.1 HI.out.2.2.2 rfl (by decide) fv es.length (es.map sv) (by rfl) (own_below HS1.out.2.1 (bl_alloc HQ.out.2.1)) ⟨w8.heap.size, 0, none⟩ 1 1 [.slice (some ⟨gc, 0, none⟩) b.length cc] (by rfl) rfl (sv_cell _ _ _) (by intro u hu; simp at hu; subst hu; rfl) (by decide) (by unfold maxLen; omega) (by omega) (by have := HQ.out.2.1.size; have := HS1.out.2.2; simp; omega) (w8.heap.size + 1) (by simp) ?_; intro gq cap W3 hown3 hgrow hat hlt; have s0 := hgrow.cell (al_old p0_8) HNV.out; have sf := (fr_grown (fr_grown p0 pf (bl_grown (bl_alloc HQ.out.2.1)) (by simp)).1 (fr_grown p0 pf (bl_grown (bl_alloc HQ.out.2.1)) (by simp)).2 hgrow HNV.out).2; have HW3 : Hid (St w (W3.setCell ⟨Bf, 0, none⟩ (.slice (some ⟨gq, 0, none⟩) (es.length + 1) cap)) Bw Bf g b.length z (.func (.func 23) #[] #[]) (es ++ [(gc, cc, b)]) b) := (HS1.out.1.found p0 h1 HQ.out.2.1 HQ.out.1 HQ.out.2.2.1 HQ.out.2.2.2 hown3 hgrow hat); have z3 : Bf < W3.heap.size := World.block_lt_of_cell? _ _ s0; clear hown3 hgrow hat hlt))
    all_goals
      go_wp2
      go_end0
      exact ⟨rfl, _, HW3.out, by rw [lsO_app]; rfl⟩
end Go.Proofs.Ytdflindoemffaaa
