/- A part of the proof of a law on sheets. -/
import Derived.Test.YtmjneoaciopioaaDoorQmbr
import Derived.Test.YtmjneoaciopioaaDoorQmbq
import Derived.Test.YtmjneoaciopioaaDoorQmbc
import Derived.Maps.AppendAt
import Derived.Test.YtmjneoaciopioaaDoorQmbi
import Derived.Maps.RangeRun
import Derived.Maps.RangeWalk
import Derived.Test.YtmjneoaciopioaaDoorQmbj
import Derived.Shelf.SlSortCmp.WholeK
import Derived.Shelf.SlSortCmp.NoneTotal
import Derived.Ground.SlsfProg
namespace Go.Proofs.YtmjneoaciopioaaDoor
open Go.RowKit

def rowZ (l : List Int) : List Value := l.map fun z => Value.int .i64 z
theorem rowZ_add (l m : List Int) : rowZ (l ++ m) = rowZ l ++ rowZ m := by simp [rowZ]
/-- Four cells that may be written. -/
def RZ (w : World) (g : Nat) : Prop := ∀ j, j < 4 → (∃ v, w.cell? ⟨g, j, none⟩ = some v) ∧ w.frozen? ⟨g, j, none⟩ = false
theorem RZ.grown {w w' : World} {g : Nat} {row : Option Nat} (h : RZ w g) (hg : w.grownBy w' row) (hne : some g ≠ row) : RZ w' g := fun j hj => by
  obtain ⟨⟨v, hv⟩, hf⟩ := h j hj
  exact ⟨⟨v, hg.cell hv hne⟩, (World.frozen?_of_block (a := ⟨g, j, none⟩) (hg.block g (World.block_lt_of_cell? _ _ hv) hne)).trans hf⟩
/-- A star in memory while its lists grow; the block ahead of it waits for the answer. -/
structure SS (w wx : World) (B : Nat) (px py : Int) (vD vK : Value) (lD lK : List Int) : Prop where
  c0 : wx.cell? ⟨B, 0, none⟩ = some (.int .i64 px)
  c1 : wx.cell? ⟨B, 1, none⟩ = some (.int .i64 py)
  c2 : wx.cell? ⟨B, 2, none⟩ = some vD
  c3 : wx.cell? ⟨B, 3, none⟩ = some vK
  f2 : wx.frozen? ⟨B, 2, none⟩ = false
  f3 : wx.frozen? ⟨B, 3, none⟩ = false
  d : wx.ownsRow (B + 1) 3 1 vD lD.length (rowZ lD)
  k : wx.ownsRow (B + 1) 3 1 vK lK.length (rowZ lK)
  ne : vD.ownBlock = none ∨ vD.ownBlock ≠ vK.ownBlock
  b : Below w.heap.size w wx
  hB : w.heap.size < B
  r : RZ wx (B - 1)
theorem SS.lt {w wx : World} {B : Nat} {px py : Int} {vD vK : Value} {lD lK : List Int} (h : SS w wx B px py vD vK lD lK) : B < wx.heap.size := World.block_lt_of_cell? _ _ h.c0
theorem fr_kept {w wx : World} {a : Addr} {v : Value} (hb : Below w.heap.size w wx) (h : w.cell? a = some v) (hf : w.frozen? a = false) : wx.frozen? a = false := (hb.frozen (p := a) (World.block_lt_of_cell? _ _ h)).trans hf
theorem SS.kept {w wx w' : World} {B : Nat} {px py : Int} {vD vK : Value} {lD lK : List Int} (h : SS w wx B px py vD vK lD lK) (hb : Below wx.heap.size wx w') : SS w w' B px py vD vK lD lK :=
  ⟨cl_kept hb h.c0, cl_kept hb h.c1, cl_kept hb h.c2, cl_kept hb h.c3, fr_kept hb h.c2 h.f2, fr_kept hb h.c3 h.f3, own_below h.d hb, own_below h.k hb, h.ne, bl_via h.b hb, h.hB, h.r.grown (bl_grown hb) (by simp)⟩
theorem fr_grown {w w' : World} {g o : Nat} {v : Value} {row : Option Nat} (hg : w.grownBy w' row) (hne : some g ≠ row) (h : w.cell? ⟨g, o, none⟩ = some v) (hf : w.frozen? ⟨g, o, none⟩ = false) : w'.frozen? ⟨g, o, none⟩ = false :=
  (World.frozen?_of_block (a := ⟨g, o, none⟩) (hg.block g (World.block_lt_of_cell? _ _ h) hne)).trans hf
/-- A direction more. -/
theorem SS.putD {w wx w3 : World} {B : Nat} {px py : Int} {vD vK v' : Value} {lD lK lD' : List Int} (h : SS w wx B px py vD vK lD lK) (hg : wx.grownBy w3 vD.ownBlock) (ho : w3.ownsRow (B + 1) 3 1 v' lD'.length (rowZ lD')) (hv : v'.ownBlock = vD.ownBlock ∨ v'.ownBlock = some wx.heap.size) :
    SS w (w3.setCell ⟨B, 2, none⟩ v') B px py v' vK lD' lK := by
  have hbD : some B ≠ vD.ownBlock := fun e => by
    have := own_base h.d B e.symm
    omega
  have hbn : ∀ {u : Value} {l : List Int} {n : Nat}, w3.ownsRow (B + 1) 3 1 u n (rowZ l) → u.ownBlock = none ∨ u.ownBlock ≠ some B := fun {u l n} hu => by
    cases e : u.ownBlock with
    | none => exact Or.inl rfl
    | some q =>
      refine Or.inr (fun e1 => ?_)
      have := own_base hu q e
      simp at e1
      omega
  have hk3 : w3.ownsRow (B + 1) 3 1 vK lK.length (rowZ lK) := h.k.kept hg (by
    rcases h.ne with e | e
    · rw [e]
      cases e2 : vK.ownBlock with
      | none => exact Or.inl rfl
      | some q => exact Or.inr (by simp)
    · cases e2 : vK.ownBlock with
      | none => exact Or.inl rfl
      | some q => exact Or.inr (fun e3 => e (by rw [e2, e3])))
  refine ⟨?_, ?_, ?_, ?_, ?_, ?_, ?_, ?_, ?_, ?_, h.hB, ?_⟩
  · rw [World.cell?_setCell_other _ _ _ _ (by simp)]
    exact hg.cell h.c0 hbD
  · rw [World.cell?_setCell_other _ _ _ _ (by simp)]
    exact hg.cell h.c1 hbD
  · exact World.cell?_setCell_same _ _ _ (hg.cell h.c2 hbD)
  · rw [World.cell?_setCell_other _ _ _ _ (by simp)]
    exact hg.cell h.c3 hbD
  · rw [World.frozen?_setCell]
    exact fr_grown hg hbD h.c2 h.f2
  · rw [World.frozen?_setCell]
    exact fr_grown hg hbD h.c3 h.f3
  · exact ho.kept (grown_cell _ _ _ _) (hbn ho)
  · exact hk3.kept (grown_cell _ _ _ _) (hbn hk3)
  · rcases hv with e | e
    · rw [e]
      exact h.ne
    · refine Or.inr (fun e2 => ?_)
      rw [e] at e2
      have := (h.k.lt _ e2.symm).2
      omega
  · exact bl_set (h.b.grown hg h.b.size (fun q hq => by have := own_base h.d q hq; have := h.hB; omega)) (Nat.le_of_lt h.hB)
  · refine (h.r.grown hg (fun e => ?_)).grown (grown_cell _ _ _ _) (fun e => ?_)
    · have := own_base h.d _ e.symm
      omega
    · have := h.hB
      simp at e
      omega
/-- A kind more. -/
theorem SS.putK {w wx w3 : World} {B : Nat} {px py : Int} {vD vK v' : Value} {lD lK lK' : List Int} (h : SS w wx B px py vD vK lD lK) (hg : wx.grownBy w3 vK.ownBlock) (ho : w3.ownsRow (B + 1) 3 1 v' lK'.length (rowZ lK')) (hv : v'.ownBlock = vK.ownBlock ∨ v'.ownBlock = some wx.heap.size) :
    SS w (w3.setCell ⟨B, 3, none⟩ v') B px py vD v' lD lK' := by
  have hbD : some B ≠ vK.ownBlock := fun e => by
    have := own_base h.k B e.symm
    omega
  have hbn : ∀ {u : Value} {l : List Int} {n : Nat}, w3.ownsRow (B + 1) 3 1 u n (rowZ l) → u.ownBlock = none ∨ u.ownBlock ≠ some B := fun {u l n} hu => by
    cases e : u.ownBlock with
    | none => exact Or.inl rfl
    | some q =>
      refine Or.inr (fun e1 => ?_)
      have := own_base hu q e
      simp at e1
      omega
  have hd3 : w3.ownsRow (B + 1) 3 1 vD lD.length (rowZ lD) := h.d.kept hg h.ne
  refine ⟨?_, ?_, ?_, ?_, ?_, ?_, ?_, ?_, ?_, ?_, h.hB, ?_⟩
  · rw [World.cell?_setCell_other _ _ _ _ (by simp)]
    exact hg.cell h.c0 hbD
  · rw [World.cell?_setCell_other _ _ _ _ (by simp)]
    exact hg.cell h.c1 hbD
  · rw [World.cell?_setCell_other _ _ _ _ (by simp)]
    exact hg.cell h.c2 hbD
  · exact World.cell?_setCell_same _ _ _ (hg.cell h.c3 hbD)
  · rw [World.frozen?_setCell]
    exact fr_grown hg hbD h.c2 h.f2
  · rw [World.frozen?_setCell]
    exact fr_grown hg hbD h.c3 h.f3
  · exact hd3.kept (grown_cell _ _ _ _) (hbn hd3)
  · exact ho.kept (grown_cell _ _ _ _) (hbn ho)
  · rcases hv with e | e
    · rw [e]
      exact h.ne
    · rw [e]
      cases e2 : vD.ownBlock with
      | none => exact Or.inl rfl
      | some q =>
        refine Or.inr (fun e3 => ?_)
        have := (h.d.lt _ e2).2
        simp at e3
        omega
  · exact bl_set (h.b.grown hg h.b.size (fun q hq => by have := own_base h.k q hq; have := h.hB; omega)) (Nat.le_of_lt h.hB)
  · refine (h.r.grown hg (fun e => ?_)).grown (grown_cell _ _ _ _) (fun e => ?_)
    · have := own_base h.k _ e.symm
      omega
    · have := h.hB
      simp at e
      omega
theorem own_slice {w : World} {base : Nat} {e size : Nat} {v : Value} {n : Nat} {xs : List Value} (h : w.ownsRow base e size v n xs) : ∃ a c, v = .slice a n c := by
  rcases h.2 with ⟨rfl, h0⟩ | ⟨g, cap, cur, rfl, _⟩
  · exact ⟨none, 0, by rw [h0]⟩
  · exact ⟨_, cap, rfl⟩
theorem own_Row {w : World} {base : Nat} {e : Nat} {v : Value} {n : Nat} {l : List Int} (h : w.ownsRow base e 1 v n (rowZ l)) (hn : n = l.length) : ∃ a c, v = .slice a l.length c ∧ Row w a l := by
  subst hn
  rcases h.2 with ⟨rfl, h0⟩ | ⟨g, cap, cur, rfl, _⟩
  · exact ⟨none, 0, by rw [h0], fun i hi => by omega⟩
  · refine ⟨some ⟨g, 0, none⟩, cap, rfl, fun i hi => ⟨g, 0, rfl, ?_⟩⟩
    have := h.cellAt i (by omega)
    simp [rowZ, hi] at this
    simpa using this
theorem own_set {w : World} {base g o : Nat} {e size : Nat} {v u : Value} {n : Nat} {xs : List Value} (h : w.ownsRow base e size v n xs) (hg : g < base) : (w.setCell ⟨g, o, none⟩ u).ownsRow base e size v n xs := by
  refine h.kept (grown_cell _ _ _ _) ?_
  cases e2 : v.ownBlock with
  | none => exact Or.inl rfl
  | some q =>
    refine Or.inr (fun e1 => ?_)
    have := own_base h q e2
    simp at e1
    omega
theorem own_set4 {w : World} {base g : Nat} {e size : Nat} {v u0 u1 u2 u3 : Value} {n : Nat} {xs : List Value} (h : w.ownsRow base e size v n xs) (hg : g < base) : ((((w.setCell ⟨g, 0, none⟩ u0).setCell ⟨g, 1, none⟩ u1).setCell ⟨g, 2, none⟩ u2).setCell ⟨g, 3, none⟩ u3).ownsRow base e size v n xs :=
  own_set (own_set (own_set (own_set h hg) hg) hg) hg
theorem row_of_own {w : World} {base e c : Nat} {a : Option Addr} {l : List Int} (h : w.ownsRow base e 1 (.slice a l.length c) l.length (rowZ l)) : Row w a l := by
  obtain ⟨a0, _, e0, r0⟩ := own_Row h rfl
  simp only [Value.slice.injEq] at e0
  rw [e0.1]
  exact r0
theorem inf3' : (Tryd.prog.info? 3).map (fun i => (i.zero, i.size, i.bytes)) = some (some (.int .i64 0), 1, 8) := by kernel_rfl
theorem ix8 (b : Nat → Bool) (k : Nat → Int) (W : World) (i : Nat) (hi : i < 8) : (Instr.index 117 (arv b k) (.int .i64 (i : Int))).run Tryd.prog W = .ok (.agg #[.bool (b i), .int .i64 (k i)]) W := by
  rcases eight hi with rfl | rfl | rfl | rfl | rfl | rfl | rfl | rfl <;> kernel_rfl
/-- A star with its lists. -/
def StarR (k : Nat → Int) (px py : Int) (w w' : World) (e : Ending) : Prop := ∃ aD cD aK cK, e = .returned (.agg #[.int .i64 px, .int .i64 py, .slice aD (sdirs k 8).length cD, .slice aK (skinds k 8).length cK]) ∧ Row w' aD (sdirs k 8) ∧ Row w' aK (skinds k 8) ∧ Below w.heap.size w w' ∧ (∀ a : Addr, aD = some a → w.heap.size ≤ a.block) ∧ (∀ a : Addr, aK = some a → w.heap.size ≤ a.block)
set_option maxRecDepth 100000 in
set_option maxHeartbeats 1600000 in
theorem star_any (b : Nat → Bool) (k : Nat → Int) (px py : Int) (w : World) :
    Calls Tryd.prog 64 #[arv b k, .agg #[.int .i64 px, .int .i64 py]] w fun e w' => StarR k px py w w' e := by
  obtain ⟨i3, hI⟩ := info_parts inf3'
  have HI : Hid (Tryd.prog.info? 3 = some i3 ∧ i3.zero = some (.int .i64 0) ∧ i3.size = 1 ∧ i3.bytes = 8) := hI
  clear hI
  have HX : Hid (∀ (W : World) (i : Nat), i < 8 → (Instr.index 117 (arv b k) (.int .i64 (i : Int))).run Tryd.prog W = .ok (.agg #[.bool (b i), .int .i64 (k i)]) W) := ix8 b k
  unfold arv at HX ⊢
  go_enter Tryd.func64, Tryd.ntmps64
  go_wp2
  refine wp_named (fun W1 hW1 => ?_)
  obtain ⟨B, hBB⟩ : ∃ B, B = w.heap.size + 1 + 1 + 1 := ⟨_, rfl⟩
  have HB1 : Hid (B - 1 = w.heap.size + 1 + 1) := by
    have : B - 1 = w.heap.size + 1 + 1 := by omega
    exact this
  have HS : Hid (SS w W1 B px py (.slice none 0 0) (.slice none 0 0) (sdirs k 0) (skinds k 0)) := by
    have hz : W1.heap.size = B + 1 := by
      rw [hW1, hBB]
      simp
    have : SS w W1 B px py (.slice none 0 0) (.slice none 0 0) (sdirs k 0) (skinds k 0) := by
      refine ⟨?_, ?_, ?_, ?_, ?_, ?_, ⟨rfl, Or.inl ⟨rfl, rfl⟩⟩, ⟨rfl, Or.inl ⟨rfl, rfl⟩⟩, Or.inl rfl, ?_, by omega, ?_⟩
      · rw [hW1, hBB]; simp [go_sem]
      · rw [hW1, hBB]; simp [go_sem]
      · rw [hW1, hBB]; simp [go_sem]
      · rw [hW1, hBB]; simp [go_sem]
      · rw [hW1, hBB]; simp [go_sem]
      · rw [hW1, hBB]; simp [go_sem]
      · rw [hW1]
        exact bl_alloc (bl_alloc (bl_alloc (bl_alloc (bl_refl _))))
      · intro j hj
        rw [hW1, HB1.out]
        have h4 : j = 0 ∨ j = 1 ∨ j = 2 ∨ j = 3 := by omega
        rcases h4 with rfl | rfl | rfl | rfl <;> exact ⟨by simp [go_sem], by simp [go_sem]⟩
    exact this
  rw [← hBB]
  clear hW1
  have HBB : Hid (B = w.heap.size + 1 + 1 + 1) := hBB
  clear hBB
  go_wp2
  go_loopg [11] 8 (fun gk s11 wx => ∃ (i : Nat) (vD vK : Value), i ≤ 8 ∧ gk = 8 - i ∧ s11 = .int .i64 (i : Int) ∧ SS w wx B px py vD vK (sdirs k i) (skinds k i))
  case atStart => exact ⟨0, _, _, by omega, rfl, rfl, HS.out⟩
  case round =>
    clear HS
    obtain ⟨i, vD, vK, hi, rfl, rfl, hS⟩ := hrel
    obtain ⟨aD, cD, rfl⟩ := own_slice hS.d
    obtain ⟨aK, cK, rfl⟩ := own_slice hS.k
    have HS : Hid (SS w wr B px py (.slice aD (sdirs k i).length cD) (.slice aK (skinds k i).length cK) (sdirs k i) (skinds k i)) := hS
    have zB : B < wr.heap.size := hS.lt
    by_cases h1 : i < 8
    · have i1 : (i : Int) < 8 := by omega
      have i0 : (0 : Int) ≤ (i : Int) := by omega
      have hx1 := fun W => HX.out W i h1
      obtain ⟨ki, hki⟩ : ∃ x, x = k i := ⟨_, rfl⟩
      have HKI : Hid (ki = k i) := hki
      rw [← hki] at hx1
      clear hki
      have hlD := (sdirs_len k i).2
      have hlK : (skinds k i).length ≤ i := by rw [← (sdirs_len k i).1]; exact hlD
      by_cases q : ki = 0
      · have qb : (ki != 0) = false := by simpa using q
        have HQ : Hid (sdirs k (i + 1) = sdirs k i ∧ skinds k (i + 1) = skinds k i) := by
          have e : k i = 0 := HKI.out.symm.trans q
          have : sdirs k (i + 1) = sdirs k i ∧ skinds k (i + 1) = skinds k i := ⟨by rw [sdirs_succ, if_neg (by simp [e])], by rw [skinds_succ, if_neg (by simp [e])]⟩
          exact this
        clear q hS
        go_wp2
        go_roundg (8 - (i + 1))
        case measure => omega
        case rel =>
          refine ⟨i + 1, .slice aD (sdirs k i).length cD, .slice aK (skinds k i).length cK, by omega, rfl, by go_num, ?_⟩
          rw [HQ.out.1, HQ.out.2]
          exact HS.out.kept (by with_reducible repeat' (first | exact bl_refl _ | refine bl_alloc ?_))
      · have qb : (ki != 0) = true := by simpa using q
        have HQ : Hid (sdirs k (i + 1) = sdirs k i ++ [(i : Int)] ∧ skinds k (i + 1) = skinds k i ++ [ki]) := by
          have e : ¬ k i = 0 := fun h => q (HKI.out.trans h)
          have : sdirs k (i + 1) = sdirs k i ++ [(i : Int)] ∧ skinds k (i + 1) = skinds k i ++ [ki] := ⟨by rw [sdirs_succ, if_pos (by simp [e])], by rw [skinds_succ, if_pos (by simp [e]), HKI.out]⟩
          exact this
        clear q
        have c2 := hS.c2
        clear hS
        have HS2 : Hid (SS w ((wr.alloc (.cells #[.bool (b i), .int .i64 ki] 115)).alloc (.cells #[.int .i64 (i : Int)] 3)) B px py (.slice aD (sdirs k i).length cD) (.slice aK (skinds k i).length cK) (sdirs k i) (skinds k i)) := HS.out.kept (bl_alloc (bl_alloc (bl_refl _)))
        have HC7 : Hid (((wr.alloc (.cells #[.bool (b i), .int .i64 ki] 115)).alloc (.cells #[.int .i64 (i : Int)] 3)).cell? ⟨wr.heap.size, 1, none⟩ = some (.int .i64 ki)) := by
          have : ((wr.alloc (.cells #[.bool (b i), .int .i64 ki] 115)).alloc (.cells #[.int .i64 (i : Int)] 3)).cell? ⟨wr.heap.size, 1, none⟩ = some (.int .i64 ki) := by simp [go_sem]
          exact this
        go_wp2_with (at_builtin; refine wpList_append_own_at _ rfl (.tmp 19) (.tmp 21) 22 rfl (B + 1) 3 i3 (.int .i64 0) 1 8 Tryd.underlying22 HI.out.1 HI.out.2.1 HI.out.2.2.1 HI.out.2.2.2 rfl (by decide) (.slice aD (sdirs k i).length cD) (sdirs k i).length (rowZ (sdirs k i)) rfl HS2.out.d ⟨wr.heap.size + 1, 0, none⟩ 1 1 [.int .i64 (i : Int)] rfl rfl (cell_one _ (by simp [go_sem])) (one_cell _) (by unfold maxLen; omega) (by omega) (by simp; omega) ?growA)
        case growA =>
          intro v' w3 hown hgrow _ hblk
          obtain ⟨a', c', rfl⟩ := own_slice hown
          have hbD : some B ≠ (Value.slice aD (sdirs k i).length cD).ownBlock := fun e => by
            have := own_base HS2.out.d B e.symm
            omega
          have c2 := hgrow.cell HS2.out.c2 hbD
          have f2 := fr_grown hgrow hbD HS2.out.c2 HS2.out.f2
          have z3 : B < w3.heap.size := World.block_lt_of_cell? _ _ c2
          have HS4 : Hid (SS w (w3.setCell ⟨B, 2, none⟩ (.slice a' ((sdirs k i).length + 1) c')) B px py (.slice a' ((sdirs k i).length + 1) c') (.slice aK (skinds k i).length cK) (sdirs k (i + 1)) (skinds k i)) := by
            refine HS2.out.putD hgrow ?_ (hblk.imp id (fun e => e.trans (by simp)))
            rw [HQ.out.1, rowZ_add, List.length_append]
            exact hown
          have HC4 : Hid ((w3.setCell ⟨B, 2, none⟩ (.slice a' ((sdirs k i).length + 1) c')).cell? ⟨wr.heap.size, 1, none⟩ = some (.int .i64 ki)) := by
            have hne : some wr.heap.size ≠ (Value.slice aD (sdirs k i).length cD).ownBlock := fun e => by
              have := (HS.out.d.lt _ e.symm).2
              omega
            have : (w3.setCell ⟨B, 2, none⟩ (.slice a' ((sdirs k i).length + 1) c')).cell? ⟨wr.heap.size, 1, none⟩ = some (.int .i64 ki) := by
              rw [World.cell?_setCell_other _ _ _ _ (by simp <;> omega)]
              exact hgrow.cell HC7.out hne
            exact this
          clear hown hgrow hblk HS2 HC7 hbD
          go_upto_region 7 with (fail)
          refine wp_named (fun W4 hW4 => ?_)
          rw [← hW4] at HS4 HC4
          have c3 := HS4.out.c3
          have z4 : B < W4.heap.size := HS4.out.lt
          have c7 := HC4.out
          have z7 : wr.heap.size < W4.heap.size := World.block_lt_of_cell? _ _ c7
          clear hW4 c2 f2 z3 HC4
          have HS5 : Hid (SS w (W4.alloc (.cells #[.int .i64 ki] 3)) B px py (.slice a' ((sdirs k i).length + 1) c') (.slice aK (skinds k i).length cK) (sdirs k (i + 1)) (skinds k i)) := HS4.out.kept (bl_alloc (bl_refl _))
          go_wp2_with (at_builtin; refine wpList_append_own_at _ rfl (.tmp 25) (.tmp 28) 22 rfl (B + 1) 3 i3 (.int .i64 0) 1 8 Tryd.underlying22 HI.out.1 HI.out.2.1 HI.out.2.2.1 HI.out.2.2.2 rfl (by decide) (.slice aK (skinds k i).length cK) (skinds k i).length (rowZ (skinds k i)) rfl HS5.out.k ⟨W4.heap.size, 0, none⟩ 1 1 [.int .i64 ki] rfl rfl (cell_one _ (by simp [go_sem])) (one_cell _) (by unfold maxLen; omega) (by omega) (by simp; omega) ?growB)
          case growB =>
            intro v2 w5 hown2 hgrow2 _ hblk2
            obtain ⟨a2, c2', rfl⟩ := own_slice hown2
            have hbK : some B ≠ (Value.slice aK (skinds k i).length cK).ownBlock := fun e => by
              have := own_base HS5.out.k B e.symm
              omega
            have c3 := hgrow2.cell HS5.out.c3 hbK
            have f3 := fr_grown hgrow2 hbK HS5.out.c3 HS5.out.f3
            have z5 : B < w5.heap.size := World.block_lt_of_cell? _ _ c3
            have HS6 : Hid (SS w (w5.setCell ⟨B, 3, none⟩ (.slice a2 ((skinds k i).length + 1) c2')) B px py (.slice a' ((sdirs k i).length + 1) c') (.slice a2 ((skinds k i).length + 1) c2') (sdirs k (i + 1)) (skinds k (i + 1))) := by
              refine HS5.out.putK hgrow2 ?_ (hblk2.imp id (fun e => e.trans (by simp)))
              rw [HQ.out.2, rowZ_add, List.length_append]
              exact hown2
            clear hown2 hgrow2 hblk2 HS5 hbK
            go_wp2
            go_roundg (8 - (i + 1))
            case measure => omega
            case rel => exact ⟨i + 1, _, _, by omega, rfl, by go_num, HS6.out⟩
    · have i1 : ¬ (i : Int) < 8 := by omega
      obtain rfl : i = 8 := by omega
      obtain ⟨b0, b1, b2, b3⟩ : (∃ v, wr.cell? ⟨B - 1, 0, none⟩ = some v) ∧ (∃ v, wr.cell? ⟨B - 1, 1, none⟩ = some v) ∧ (∃ v, wr.cell? ⟨B - 1, 2, none⟩ = some v) ∧ (∃ v, wr.cell? ⟨B - 1, 3, none⟩ = some v) := ⟨(hS.r 0 (by omega)).1, (hS.r 1 (by omega)).1, (hS.r 2 (by omega)).1, (hS.r 3 (by omega)).1⟩
      obtain ⟨y0, x0⟩ := b0
      obtain ⟨y1, x1⟩ := b1
      obtain ⟨y2, x2⟩ := b2
      obtain ⟨y3, x3⟩ := b3
      have g0 := (hS.r 0 (by omega)).2
      have g1 := (hS.r 1 (by omega)).2
      have g2 := (hS.r 2 (by omega)).2
      have g3 := (hS.r 3 (by omega)).2
      rw [HB1.out] at x0 x1 x2 x3 g0 g1 g2 g3
      have c0 := hS.c0
      have c1 := hS.c1
      have c2 := hS.c2
      have c3 := hS.c3
      have zr : w.heap.size + 1 + 1 < wr.heap.size := World.block_lt_of_cell? _ _ x0
      have HF : Hid (wr.ownsRow (B + 1) 3 1 (.slice aD (sdirs k 8).length cD) (sdirs k 8).length (rowZ (sdirs k 8)) ∧ wr.ownsRow (B + 1) 3 1 (.slice aK (skinds k 8).length cK) (skinds k 8).length (rowZ (skinds k 8)) ∧ Below w.heap.size w wr) := ⟨hS.d, hS.k, hS.b⟩
      clear hS
      go_wp2
      refine bodyPost_ret (v := .agg #[.int .i64 px, .int .i64 py, .slice aD (sdirs k 8).length cD, .slice aK (skinds k 8).length cK]) (by simp [results, Tryd.results64, go_sem, x0, x1, x2, x3]) rfl ⟨aD, cD, aK, cK, rfl, ?_, ?_, ?_, ?_, ?_⟩
      · exact row_of_own (own_set4 HF.out.1 (by have := HBB.out; omega))
      · exact row_of_own (own_set4 HF.out.2.1 (by have := HBB.out; omega))
      · with_reducible repeat (first | exact HF.out.2.2 | refine bl_set ?_ ?_)
        all_goals (dsimp only; omega)
      · intro a e
        have h1 := HF.out.1
        rw [e] at h1
        have := own_base h1 a.block rfl
        have := HBB.out
        omega
      · intro a e
        have h1 := HF.out.2.1
        rw [e] at h1
        have := own_base h1 a.block rfl
        have := HBB.out
        omega
end Go.Proofs.YtmjneoaciopioaaDoor
namespace Go.Proofs.YtmjneoaciopioaaDoor
open Go.RowKit Go.ChangeMaps

def PtK (w wx : World) (rm : Nat) (P : List ((Int × Int) × Nat × Nat)) (f : Int × Int → Nat → Int) : Prop := (∃ ls c, Pm.EM wx rm ls c ∧ Pm.Good ls c ∧ ∀ pt, (Pm.lk ls pt).getD (arv (fun _ => false) (fun _ => 0)) = arv (bitsOf P pt) (f pt)) ∧ Below w.heap.size w wx ∧ w.heap.size ≤ rm
theorem PtM.k {w wx : World} {rm : Nat} {P : List ((Int × Int) × Nat × Nat)} (h : PtM w wx rm P) : PtK w wx rm P (fun _ _ => 0) := by
  obtain ⟨⟨ls, c, h1, h2, h3⟩, h4⟩ := h
  exact ⟨⟨ls, c, h1, h2, fun pt => by rw [h3 pt, pv_getD]⟩, h4⟩
theorem PtK.lt {w wx : World} {rm : Nat} {P : List ((Int × Int) × Nat × Nat)} {f : Int × Int → Nat → Int} (h : PtK w wx rm P f) : rm < wx.heap.size := by
  obtain ⟨ls, c, h1, _⟩ := h.1
  exact (Array.getElem?_eq_some_iff.1 h1).1
theorem PtK.kept {w wx w' : World} {rm : Nat} {P : List ((Int × Int) × Nat × Nat)} {f : Int × Int → Nat → Int} (h : PtK w wx rm P f) (hb : Below wx.heap.size wx w') : PtK w w' rm P f := by
  obtain ⟨⟨ls, c, h1, h2, h3⟩, h4, h5⟩ := h
  exact ⟨⟨ls, c, h1.grown (bl_grown hb) (by simp), h2, h3⟩, bl_via h4 hb, h5⟩
theorem PtK.look {w wx : World} {rm : Nat} {P : List ((Int × Int) × Nat × Nat)} {f : Int × Int → Nat → Int} (h : PtK w wx rm P f) (a b : Int) (wy : World) (hb : Below wx.heap.size wx wy) : (Instr.lookup 68 (.map (some rm)) (.agg #[.int .i64 a, .int .i64 b]) false).run Tryd.prog wy = .ok (arv (bitsOf P (a, b)) (f (a, b))) wy := by
  obtain ⟨⟨ls, c, h1, h2, h3⟩, _, _⟩ := h
  have := Pm.lookup27 Tryd.underlying68 zeroA (h1.grown (bl_grown hb) (by simp)) h2 (a, b)
  rw [h3] at this
  exact this
/-- At one point another list of kinds. -/
def putP (f : Int × Int → Nat → Int) (pt : Int × Int) (g : Nat → Int) : Int × Int → Nat → Int := fun q => if q = pt then g else f q
theorem PtK.update {w wx : World} {rm : Nat} {P : List ((Int × Int) × Nat × Nat)} {f : Int × Int → Nat → Int} (h : PtK w wx rm P f) (a b : Int) (g : Nat → Int) : ∃ W', (Instr.mapUpdate 68 (.map (some rm)) (.agg #[.int .i64 a, .int .i64 b]) (arv (bitsOf P (a, b)) g)).run Tryd.prog wx = .ok () W' ∧ wx.grownBy W' (some rm) ∧ PtK w W' rm P (putP f (a, b) g) := by
  obtain ⟨⟨ls, c, h1, h2, h3⟩, h4, h5⟩ := h
  obtain ⟨ls', c', hu, hg, hl, _⟩ := Pm.update27 Tryd.underlying68 h1 h2 (a, b) (arv (bitsOf P (a, b)) g)
  have hgr : wx.grownBy (setBlock wx rm (.map (ls'.map Pm.toE).toArray c')) (some rm) := grown_set h1 _
  refine ⟨_, hu, hgr, ⟨ls', c', ?_, hg, fun pt => ?_⟩, h4.grown hgr h4.size (fun k hk => by simp at hk; omega), h5⟩
  · unfold Pm.EM
    exact (heap_setBlock_same h1 _)
  · rw [hl pt]
    unfold putP
    by_cases e : pt = (a, b)
    · subst e
      simp
    · rw [if_neg e, if_neg e]
      exact h3 pt
theorem put2 (f : Int × Int → Nat → Int) (p q : Int × Int) (hne : p ≠ q) (D1 D2 : Nat) (v : Int) : putP (putP f p (putK (f p) D1 v)) q (putK (putP f p (putK (f p) D1 v) q) D2 v) = fun pt d => if pt = q ∧ d = D2 then v else if pt = p ∧ d = D1 then v else f pt d := by
  funext pt d
  by_cases e1 : pt = q
  · subst e1
    have hne' : ¬ pt = p := fun h => hne h.symm
    by_cases e2 : d = D2 <;> simp [putP, putK, e2, hne']
  · by_cases e3 : pt = p
    · subst e3
      by_cases e2 : d = D1 <;> simp [putP, putK, e1, e2]
    · simp [putP, e1, e3]
/-- One crease more, at both its ends. -/
theorem kc_put (ks : List Int) (i : Nat) (hne : (ck ks i 0, ck ks i 1) ≠ (ck ks i 2, ck ks i 3)) : putP (putP (kc ks i) (ck ks i 0, ck ks i 1) (putK (kc ks i (ck ks i 0, ck ks i 1)) (dnum (ck ks i 0) (ck ks i 1) (ck ks i 2) (ck ks i 3)) (ck ks i 4))) (ck ks i 2, ck ks i 3) (putK (putP (kc ks i) (ck ks i 0, ck ks i 1) (putK (kc ks i (ck ks i 0, ck ks i 1)) (dnum (ck ks i 0) (ck ks i 1) (ck ks i 2) (ck ks i 3)) (ck ks i 4)) (ck ks i 2, ck ks i 3)) (dnum (ck ks i 2) (ck ks i 3) (ck ks i 0) (ck ks i 1)) (ck ks i 4)) = kc ks (i + 1) := by
  rw [put2 _ _ _ hne]
  rfl
theorem blk_same {w : World} {r : Nat} (h : r < w.heap.size) (o : Obj) : (setBlock w r o).heap[r]? = some o := by
  simp [setBlock, h]
theorem blk_other {w : World} {r i : Nat} (h : i ≠ r) (o : Obj) : (setBlock w r o).heap[i]? = w.heap[i]? := by
  simp [setBlock, Ne.symm h]
theorem blk_grown (w : World) (r : Nat) (o : Obj) : w.grownBy (setBlock w r o) (some r) :=
  ⟨rfl, rfl, rfl, by simp [setBlock], fun k _ hk => blk_other (fun e => hk (by rw [e])) o⟩
def AllCome (ls : List ((Int × Int) × Value × Nat)) (seen : List Nat) : Prop := ∀ x ∈ ls, x.2.2 ∈ seen
def OneCame (ls : List ((Int × Int) × Value × Nat)) (seen : List Nat) (px py : Int) (xv : Value) (st : Nat) : Prop := ((px, py), xv, st) ∈ ls ∧ st ∉ seen
def Stept (w w' : World) (rm r c : Nat) (ls : List ((Int × Int) × Value × Nat)) (seen : List Nat) (st : Nat) : Prop := Pm.EM w' rm ls c ∧ w'.heap[r]? = some (.mapIter (some rm) c (seen ++ [st]).toArray c) ∧ w.grownBy w' (some r)
/-- A step of a range over a map of points: all have come, or one that has not. -/
theorem wpList_next_pm {w : World} {ops : Array Oper} {rest : List Oper} {o : Oper} {a : Act} {Q : Exit → Act → World → Prop} (hg : o.guard = none) (it : Operand) (hop : o.op = Op.next it false) (rm r c : Nat) (ls : List ((Int × Int) × Value × Nat)) (seen : List Nat)
    (hit : a.eval it = .pointer (some ⟨r, 0, none⟩)) (hm : Pm.EM w rm ls c) (hr : w.heap[r]? = some (.mapIter (some rm) c seen.toArray c)) (hG : Pm.Good ls c) (hne : r ≠ rm)
    (hDone : AllCome ls seen → wpList Tryd.prog ops Q rest (a.put o.dst (.tuple #[.bool false])) w)
    (hMore : ∀ (px py : Int) (xv : Value) (st : Nat) (w' : World), OneCame ls seen px py xv st → Stept w w' rm r c ls seen st → (Instr.entry (.pointer (some ⟨r, 0, none⟩))).run Tryd.prog w' = .ok (.tuple #[.agg #[.int .i64 px, .int .i64 py], xv]) w' →
      wpList Tryd.prog ops Q rest (a.put o.dst (.tuple #[.bool true, .agg #[.int .i64 px, .int .i64 py], xv])) w') : wpList Tryd.prog ops Q (o :: rest) a w := by
  refine wpList_plain hg fun K' hK' => ?_
  unfold Oper.wp
  have hold : ∀ x ∈ ((ls.map Pm.toE).toArray).toList, x.born < c := fun x hx => by
    simp only [List.mem_map] at hx
    obtain ⟨y, hy, rfl⟩ := hx
    exact hG.2.2 y hy
  rcases run_next_at (P := Tryd.prog) w o.type r rm c c seen.toArray _ c hr hm hold (Nat.le_refl _) with ⟨h0, hrun⟩ | ⟨e, he, w1, hw1, hrun⟩
  · simp [execOp, hop, hit, hrun, Result.andThen]
    refine hK' _ _ (hDone (fun x hx => ?_))
    have : leftOf (ls.map Pm.toE).toArray seen.toArray = #[] := Array.eq_empty_of_size_eq_zero h0
    unfold leftOf at this
    rw [Array.filter_eq_empty_iff] at this
    have := this (Pm.toE x) (by rw [List.mem_toArray]; exact List.mem_map.2 ⟨x, hx, rfl⟩)
    simpa [Pm.toE] using this
  · have hel : ∃ x ∈ ls, x.2.2 ∉ seen ∧ Pm.toE x = e := by
      unfold leftOf at he
      simp only [Array.toList_filter, List.mem_filter, List.mem_map] at he
      obtain ⟨⟨x, hx, rfl⟩, hs⟩ := he
      exact ⟨x, hx, by simpa [Pm.toE] using hs, rfl⟩
    obtain ⟨x, hx, hxs, rfl⟩ := hel
    have hm1 : Pm.EM w1 rm ls c ∧ w1.heap[r]? = some (.mapIter (some rm) c seen.toArray c) ∧ w.grownBy w1 none := by
      rcases hw1 with rfl | rfl
      · exact ⟨hm, hr, bl_grown (bl_refl _)⟩
      · exact ⟨hm, hr, bl_grown (bl_drew (bl_refl _))⟩
    obtain ⟨m1, r1, g1⟩ := hm1
    simp [execOp, hop, hit, hrun, Result.andThen]
    obtain ⟨⟨px, py⟩, xv, st⟩ := x
    refine hK' _ _ (hMore px py xv st _ ⟨hx, hxs⟩ ⟨?_, ?_, ?_⟩ ?_)
    · exact (blk_other (Ne.symm hne) _).trans m1
    · have := blk_same (w := w1) (Array.getElem?_eq_some_iff.1 r1).1 (.mapIter (some rm) c (seen ++ [st]).toArray c)
      exact this
    · have g2 := blk_grown w1 r (.mapIter (some rm) c (seen ++ [st]).toArray c)
      exact ⟨g2.os.trans g1.os, g2.tape.trans g1.tape, g2.output.trans g1.output, Nat.le_trans g1.size g2.size, fun k hk hne2 => (g2.block k (Nat.lt_of_lt_of_le hk g1.size) hne2).trans (g1.block k hk (by simp))⟩
    · have e1 := run_entry_at (P := Tryd.prog) (setBlock w1 r (.mapIter (some rm) c (seen ++ [st]).toArray c)) r rm c seen.toArray (ls.map Pm.toE).toArray c (Pm.toE ((px, py), xv, st)) (by
        have := blk_same (w := w1) (Array.getElem?_eq_some_iff.1 r1).1 (.mapIter (some rm) c (seen ++ [st]).toArray c)
        rw [this]
        simp [Pm.toE]) ((blk_other (Ne.symm hne) _).trans m1) (by simpa using List.mem_map.2 ⟨_, hx, rfl⟩) (by
        have := hG.2.1
        simpa [List.map_map, Pm.toE, Function.comp_def] using this)
      exact e1

/-- A star as it lies: its point, and its two lists. -/
abbrev SA := (Int × Int) × Value × Value
def encS (a : SA) : List Value := [.int .i64 a.1.1, .int .i64 a.1.2, a.2.1, a.2.2]
theorem encS_len (A : List SA) : (A.flatMap encS).length = A.length * 4 := by
  induction A with
  | nil => rfl
  | cons a r ih =>
    rw [List.flatMap_cons, List.length_append, ih, List.length_cons]
    simp [encS]
    omega
/-- Its lists are there, behind block r, and not where the stars' own row lies. -/
def StarOK (wx : World) (r : Nat) (own : Option Nat) (f : Int × Int → Nat → Int) (a : SA) : Prop :=
  (∃ g o c, a.2.1 = .slice (some ⟨g, o, none⟩) (sdirs (f a.1) 8).length c ∧ Row wx (some ⟨g, o, none⟩) (sdirs (f a.1) 8) ∧ r < g ∧ g < wx.heap.size ∧ some g ≠ own) ∧
  (∃ g o c, a.2.2 = .slice (some ⟨g, o, none⟩) (skinds (f a.1) 8).length c ∧ Row wx (some ⟨g, o, none⟩) (skinds (f a.1) 8) ∧ r < g ∧ g < wx.heap.size ∧ some g ≠ own)
theorem Row.grown {w w' : World} {g o : Nat} {l : List Int} {row : Option Nat} (h : Row w (some ⟨g, o, none⟩) l) (hg : w.grownBy w' row) (hne : some g ≠ row) : Row w' (some ⟨g, o, none⟩) l := fun i hi => by
  obtain ⟨b, off, e, hc⟩ := h i hi
  refine ⟨b, off, e, ?_⟩
  simp only [Option.some.injEq, Addr.mk.injEq] at e
  obtain ⟨rfl, _⟩ := e
  exact hg.cell hc hne
theorem StarOK.grown {w w' : World} {r : Nat} {own own' row : Option Nat} {f : Int × Int → Nat → Int} {a : SA} (h : StarOK w r own f a) (hg : w.grownBy w' row) (h1 : ∀ g, r < g → g < w.heap.size → some g ≠ own → some g ≠ row) (h2 : ∀ g, g < w.heap.size → some g ≠ own → some g ≠ own') : StarOK w' r own' f a := by
  obtain ⟨⟨g, o, c, e, hr, hl, hz, hn⟩, ⟨g', o', c', e', hr', hl', hz', hn'⟩⟩ := h
  exact ⟨⟨g, o, c, e, hr.grown hg (h1 g hl hz hn), hl, Nat.lt_of_lt_of_le hz hg.size, h2 g hz hn⟩, ⟨g', o', c', e', hr'.grown hg (h1 g' hl' hz' hn'), hl', Nat.lt_of_lt_of_le hz' hg.size, h2 g' hz' hn'⟩⟩
/-- The state of the gathering. -/
structure ST (w wx : World) (rm r c : Nat) (ls : List ((Int × Int) × Value × Nat)) (seen : List Nat) (v : Value) (f : Int × Int → Nat → Int) (A : List SA) : Prop where
  em : Pm.EM wx rm ls c
  it : wx.heap[r]? = some (.mapIter (some rm) c seen.toArray c)
  own : wx.ownsRow (r + 1) 45 4 v A.length (A.flatMap encS)
  ok : ∀ a ∈ A, StarOK wx r v.ownBlock f a
  b : Below w.heap.size w wx
  lo : w.heap.size ≤ rm
  hr : rm < r
theorem ST.lt {w wx : World} {rm r c : Nat} {ls : List ((Int × Int) × Value × Nat)} {seen : List Nat} {v : Value} {f : Int × Int → Nat → Int} {A : List SA} (h : ST w wx rm r c ls seen v f A) : r < wx.heap.size := (Array.getElem?_eq_some_iff.1 h.it).1
theorem ST.kept {w wx w' : World} {rm r c : Nat} {ls : List ((Int × Int) × Value × Nat)} {seen : List Nat} {v : Value} {f : Int × Int → Nat → Int} {A : List SA} (h : ST w wx rm r c ls seen v f A) (hb : Below wx.heap.size wx w') : ST w w' rm r c ls seen v f A :=
  ⟨h.em.grown (bl_grown hb) (by simp), (hb.block r h.lt).trans h.it, own_below h.own hb, fun a ha => (h.ok a ha).grown (bl_grown hb) (fun g _ _ _ => by simp) (fun g _ hn => hn), bl_via h.b hb, h.lo, h.hr⟩
theorem ST.next {w wx w' : World} {rm r c x : Nat} {ls : List ((Int × Int) × Value × Nat)} {seen : List Nat} {v : Value} {f : Int × Int → Nat → Int} {A : List SA} (h : ST w wx rm r c ls seen v f A) (hm : Pm.EM w' rm ls c) (hi : w'.heap[r]? = some (.mapIter (some rm) c (seen ++ [x]).toArray c)) (hg : wx.grownBy w' (some r)) : ST w w' rm r c ls (seen ++ [x]) v f A := by
  refine ⟨hm, hi, h.own.kept hg ?_, fun a ha => (h.ok a ha).grown hg (fun g hl _ _ e => by simp at e; omega) (fun g _ hn => hn), h.b.grown hg h.b.size (fun k hk => by have := h.lo; have := h.hr; simp at hk; omega), h.lo, h.hr⟩
  cases e2 : v.ownBlock with
  | none => exact Or.inl rfl
  | some q =>
    refine Or.inr (fun e1 => ?_)
    have := own_base h.own q e2
    simp at e1
    omega
/-- A star more. -/
theorem ST.more {w wx w3 : World} {rm r c : Nat} {ls : List ((Int × Int) × Value × Nat)} {seen : List Nat} {v v' : Value} {f : Int × Int → Nat → Int} {A : List SA} {a : SA} (h : ST w wx rm r c ls seen v f A) (hg : wx.grownBy w3 v.ownBlock) (ho : w3.ownsRow (r + 1) 45 4 v' (A.length + 1) (A.flatMap encS ++ encS a)) (hv : v'.ownBlock = v.ownBlock ∨ v'.ownBlock = some wx.heap.size) (ha : StarOK wx r v.ownBlock f a) :
    ST w w3 rm r c ls seen v' f (A ++ [a]) := by
  have hb : ∀ q, v.ownBlock = some q → r < q := fun q hq => by
    have := own_base h.own q hq
    omega
  have hn1 : some rm ≠ v.ownBlock := fun e => by
    have := hb rm e.symm
    have := h.hr
    omega
  have hn2 : some r ≠ v.ownBlock := fun e => by
    have := hb r e.symm
    omega
  have hok : ∀ a, StarOK wx r v.ownBlock f a → StarOK w3 r v'.ownBlock f a := fun a ha => ha.grown hg (fun g _ _ hn => hn) (fun g hz hn => by
    rcases hv with e | e
    · rw [e]
      exact hn
    · rw [e]
      simp
      omega)
  refine ⟨h.em.grown hg hn1, (hg.block r h.lt hn2).trans h.it, ?_, fun a' ha' => ?_, h.b.grown hg h.b.size (fun q hq => by have := hb q hq; have := h.hr; have := h.lo; omega), h.lo, h.hr⟩
  · rw [List.length_append, List.flatMap_append]
    simpa using ho
  · rcases List.mem_append.1 ha' with ha' | ha'
    · exact hok a' (h.ok a' ha')
    · simp at ha'
      subst ha'
      exact hok _ ha
theorem four_cells (x y : Int) (d k : Value) (h1 : d.oneCell' = true) (h2 : k.oneCell' = true) : ∀ u ∈ [Value.int .i64 x, .int .i64 y, d, k], u.oneCell' = true := by
  intro u hu
  simp only [List.mem_cons, List.not_mem_nil, or_false] at hu
  rcases hu with rfl | rfl | rfl | rfl
  · rfl
  · rfl
  · exact h1
  · exact h2
theorem infStr : (Tryd.prog.info? 45).map (fun i => (i.zero, i.size, i.bytes)) = some (some (.agg #[.int .i64 0, .int .i64 0, .slice none 0 0, .slice none 0 0]), 4, 64) := by kernel_rfl
/-- Is it one of the stars? -/
def gstar (P : List ((Int × Int) × Nat × Nat)) (f : Int × Int → Nat → Int) (pt : Int × Int) : Bool := decide (0 < (sdirs (f pt) 8).length) && (List.range 8).all (bitsOf P pt)
theorem run_range_pm {w : World} {rm c : Nat} {ls : List ((Int × Int) × Value × Nat)} (h : Pm.EM w rm ls c) : (Instr.range 68 (.map (some rm))).run Tryd.prog w = .ok (.pointer (some ⟨w.heap.size, 0, none⟩)) (w.alloc (.mapIter (some rm) c #[] c)) := by
  unfold Pm.EM at h
  simp [Instr.range, run_underlying Tryd.underlying68, MapKept.run_getObj_map h, Result.andThen]
theorem ST.start {w wx : World} {rm c : Nat} {ls : List ((Int × Int) × Value × Nat)} {f : Int × Int → Nat → Int} (h : Pm.EM wx rm ls c) (hb : Below w.heap.size w wx) (hlo : w.heap.size ≤ rm) : ST w (wx.alloc (.mapIter (some rm) c #[] c)) rm wx.heap.size c ls [] (.slice none 0 0) f [] :=
  ⟨h.grown (bl_grown (bl_alloc (bl_refl _))) (by simp), heap_alloc_new wx _, ⟨rfl, Or.inl ⟨rfl, rfl⟩⟩, fun a ha => (by cases ha), bl_alloc hb, hlo, (Array.getElem?_eq_some_iff.1 h).1⟩
def stamps (vis : List ((Int × Int) × Value × Nat)) : List Nat := vis.map (fun x => x.2.2)
/-- What has come, and the stars among it. -/
def VisOK (P : List ((Int × Int) × Nat × Nat)) (f : Int × Int → Nat → Int) (ls vis : List ((Int × Int) × Value × Nat)) (A : List SA) : Prop := (∀ x ∈ vis, x ∈ ls) ∧ (stamps vis).Nodup ∧ A.map (fun a => a.1) = (vis.filter (fun x => gstar P f x.1)).map (fun x => x.1)
theorem VisOK.nil (P : List ((Int × Int) × Nat × Nat)) (f : Int × Int → Nat → Int) (ls : List ((Int × Int) × Value × Nat)) : VisOK P f ls [] [] := ⟨fun x hx => (by cases hx), List.nodup_nil, rfl⟩
theorem VisOK.len {P : List ((Int × Int) × Nat × Nat)} {f : Int × Int → Nat → Int} {ls vis : List ((Int × Int) × Value × Nat)} {A : List SA} (h : VisOK P f ls vis A) : vis.length ≤ ls.length := by
  have := sub_len (stamps vis) (stamps ls) h.2.1 (fun x hx => by
    obtain ⟨y, hy, rfl⟩ := List.mem_map.1 hx
    exact List.mem_map.2 ⟨y, h.1 y hy, rfl⟩)
  simpa [stamps] using this
theorem stamps_add (vis : List ((Int × Int) × Value × Nat)) (x : (Int × Int) × Value × Nat) : stamps (vis ++ [x]) = stamps vis ++ [x.2.2] := by simp [stamps]
/-- One more has come; it is no star. -/
theorem VisOK.no {P : List ((Int × Int) × Nat × Nat)} {f : Int × Int → Nat → Int} {ls vis : List ((Int × Int) × Value × Nat)} {A : List SA} {px py : Int} {xv : Value} {st : Nat} (h : VisOK P f ls vis A) (ho : OneCame ls (stamps vis) px py xv st) (hg : gstar P f (px, py) = false) : VisOK P f ls (vis ++ [((px, py), xv, st)]) A := by
  refine ⟨fun x hx => ?_, ?_, ?_⟩
  · rcases List.mem_append.1 hx with hx | hx
    · exact h.1 x hx
    · simp at hx
      rw [hx]
      exact ho.1
  · rw [stamps_add, List.nodup_append]
    refine ⟨h.2.1, by simp, fun a ha b hb => ?_⟩
    simp at hb
    subst hb
    exact fun e => ho.2 (e ▸ ha)
  · rw [List.filter_append]
    simp [hg, h.2.2]
theorem VisOK.yes {P : List ((Int × Int) × Nat × Nat)} {f : Int × Int → Nat → Int} {ls vis : List ((Int × Int) × Value × Nat)} {A : List SA} {px py : Int} {xv : Value} {st : Nat} {u v : Value} (h : VisOK P f ls vis A) (ho : OneCame ls (stamps vis) px py xv st) (hg : gstar P f (px, py) = true) : VisOK P f ls (vis ++ [((px, py), xv, st)]) (A ++ [((px, py), u, v)]) := by
  refine ⟨fun x hx => ?_, ?_, ?_⟩
  · rcases List.mem_append.1 hx with hx | hx
    · exact h.1 x hx
    · simp at hx
      rw [hx]
      exact ho.1
  · rw [stamps_add, List.nodup_append]
    refine ⟨h.2.1, by simp, fun a ha b hb => ?_⟩
    simp at hb
    subst hb
    exact fun e => ho.2 (e ▸ ha)
  · rw [List.filter_append, List.map_append, List.map_append, h.2.2]
    simp [hg]
theorem StarOK.of {wx : World} {r m : Nat} {own : Option Nat} {f : Int × Int → Nat → Int} {px py : Int} {aD aK : Option Addr} {cD cK : Nat} (hD : Row wx aD (sdirs (f (px, py)) 8)) (hK : Row wx aK (skinds (f (px, py)) 8)) (h0 : 0 < (sdirs (f (px, py)) 8).length) (lD : ∀ a : Addr, aD = some a → m ≤ a.block) (lK : ∀ a : Addr, aK = some a → m ≤ a.block) (hm : r < m) (ho : ∀ q, own = some q → q < m) :
    StarOK wx r own f ((px, py), .slice aD (sdirs (f (px, py)) 8).length cD, .slice aK (skinds (f (px, py)) 8).length cK) := by
  have h1 : 0 < (skinds (f (px, py)) 8).length := by rw [← (sdirs_len (f (px, py)) 8).1]; exact h0
  obtain ⟨g, o, e, hc⟩ := hD 0 h0
  obtain ⟨g', o', e', hc'⟩ := hK 0 h1
  subst e
  subst e'
  have l1 := lD _ rfl
  have l2 := lK _ rfl
  simp only at l1 l2
  refine ⟨⟨g, o, cD, rfl, hD, by omega, World.block_lt_of_cell? _ _ hc, fun e => ?_⟩, ⟨g', o', cK, rfl, hK, by omega, World.block_lt_of_cell? _ _ hc', fun e => ?_⟩⟩
  · have := ho g e.symm
    omega
  · have := ho g' e.symm
    omega
theorem key_inj {ls : List ((Int × Int) × Value × Nat)} (h : (ls.map (fun x => x.1)).Nodup) : ∀ {a b}, a ∈ ls → b ∈ ls → a.1 = b.1 → a = b := by
  induction ls with
  | nil => intro a b ha; cases ha
  | cons x l ih =>
    intro a b ha hb e
    rw [List.map_cons, List.nodup_cons] at h
    rcases List.mem_cons.1 ha with e1 | ha2
    · rcases List.mem_cons.1 hb with e2 | hb2
      · rw [e1, e2]
      · exact absurd (List.mem_map.2 ⟨b, hb2, by rw [← e, e1]⟩) h.1
    · rcases List.mem_cons.1 hb with e2 | hb2
      · exact absurd (List.mem_map.2 ⟨a, ha2, by rw [e, e2]⟩) h.1
      · exact ih h.2 ha2 hb2 e
theorem VisOK.keys {P : List ((Int × Int) × Nat × Nat)} {f : Int × Int → Nat → Int} {ls vis : List ((Int × Int) × Value × Nat)} {A : List SA} {c : Nat} (h : VisOK P f ls vis A) (hG : Pm.Good ls c) : (A.map (fun a => a.1)).Nodup := by
  have h1 : vis.Pairwise (fun a b => a.1 ≠ b.1) := by
    have h2 : vis.Pairwise (fun a b => a.2.2 ≠ b.2.2) := List.pairwise_map.1 h.2.1
    refine h2.imp_of_mem (fun {a b} ha hb hne e => hne ?_)
    rw [key_inj hG.1 (h.1 a ha) (h.1 b hb) e]
  rw [h.2.2]
  exact List.pairwise_map.2 (h1.filter _)
/-- There are no more stars than corners. -/
theorem VisOK.bound {P : List ((Int × Int) × Nat × Nat)} {f : Int × Int → Nat → Int} {ls vis : List ((Int × Int) × Value × Nat)} {A : List SA} {c : Nat} (h : VisOK P f ls vis A) (hG : Pm.Good ls c) : A.length ≤ P.length := by
  have := sub_len (A.map (fun a => a.1)) (P.map (fun x => x.1)) (h.keys hG) (fun pt hpt => by
    rw [h.2.2] at hpt
    obtain ⟨x, hx, rfl⟩ := List.mem_map.1 hpt
    have hg := (List.mem_filter.1 hx).2
    rw [gstar, Bool.and_eq_true, List.all_eq_true] at hg
    have hb := hg.2 0 (by simp)
    unfold bitsOf at hb
    rw [List.any_eq_true] at hb
    obtain ⟨y, hy, h9⟩ := hb
    rw [Bool.and_eq_true, decide_eq_true_eq] at h9
    exact List.mem_map.2 ⟨y, hy, h9.1⟩)
  simpa using this
theorem cell_four_new (w : World) (a b c d : Value) (T : TypeId) : ∀ j u, ([a, b, c, d])[j]? = some u → (w.alloc (.cells #[a, b, c, d] T)).cell? ((⟨w.heap.size, 0, none⟩ : Addr).add j) = some u := by
  intro j u hu
  match j, hu with
  | 0, hu => simp at hu; subst hu; simp [Addr.add, go_sem]
  | 1, hu => simp at hu; subst hu; simp [Addr.add, go_sem]
  | 2, hu => simp at hu; subst hu; simp [Addr.add, go_sem]
  | 3, hu => simp at hu; subst hu; simp [Addr.add, go_sem]

/-- Triangles at a point. -/
def cntC (L : List (Int × Int × Int)) (pt : Int × Int) : Nat := L.countP fun t => decide (pt ∈ cnr t)
theorem cntC_succ {L : List (Int × Int × Int)} {i : Nat} (h : i < L.length) (pt : Int × Int) : cntC (L.take (i + 1)) pt = cntC (L.take i) pt + if pt ∈ cnr L[i] then 1 else 0 := by
  unfold cntC
  rw [List.take_succ_eq_append_getElem h, List.countP_append, List.countP_singleton]
  simp
theorem cntC_le (L : List (Int × Int × Int)) (pt : Int × Int) : cntC L pt ≤ L.length := List.countP_le_length
theorem PRow.kept {w wx : World} {a : Option Addr} {l : List (Int × Int)} (h : PRow w a l) (hb : Below w.heap.size w wx) : PRow wx a l := fun i hi => by
  obtain ⟨g, e, h0, h1⟩ := h i hi
  exact ⟨g, e, cl_kept hb h0, cl_kept hb h1⟩
/-- Is it one of the reference's stars? -/
def gref (L : List (Int × Int × Int)) (f : Int × Int → Nat → Int) (pt : Int × Int) : Bool := decide (cntC L pt = if pt.1 % 2 = 0 then 8 else 4) && decide (0 < (sdirs (f pt) 8).length)
/-- What is kept while the reference gathers. -/
structure RT (w wx : World) (r : Nat) (v : Value) (f : Int × Int → Nat → Int) (A : List SA) : Prop where
  own : wx.ownsRow w.heap.size 45 4 v A.length (A.flatMap encS)
  ok : ∀ a ∈ A, StarOK wx r v.ownBlock f a
  b : Below w.heap.size w wx
theorem RT.kept {w wx w' : World} {r : Nat} {v : Value} {f : Int × Int → Nat → Int} {A : List SA} (h : RT w wx r v f A) (hb : Below wx.heap.size wx w') : RT w w' r v f A :=
  ⟨own_below h.own hb, fun a ha => (h.ok a ha).grown (bl_grown hb) (fun g _ _ _ => by simp) (fun g _ hn => hn), bl_via h.b hb⟩
theorem RT.start (w : World) (r : Nat) (f : Int × Int → Nat → Int) : RT w w r (.slice none 0 0) f [] := ⟨⟨rfl, Or.inl ⟨rfl, rfl⟩⟩, fun a ha => (by cases ha), bl_refl _⟩
theorem RT.more {w wx w3 : World} {r : Nat} {v v' : Value} {f : Int × Int → Nat → Int} {A : List SA} {a : SA} (h : RT w wx r v f A) (hg : wx.grownBy w3 v.ownBlock) (ho : w3.ownsRow w.heap.size 45 4 v' (A.length + 1) (A.flatMap encS ++ encS a)) (hv : v'.ownBlock = v.ownBlock ∨ v'.ownBlock = some wx.heap.size) (ha : StarOK wx r v.ownBlock f a) :
    RT w w3 r v' f (A ++ [a]) := by
  have hok : ∀ a, StarOK wx r v.ownBlock f a → StarOK w3 r v'.ownBlock f a := fun a ha => ha.grown hg (fun g _ _ hn => hn) (fun g hz hn => by
    rcases hv with e | e
    · rw [e]
      exact hn
    · rw [e]
      simp
      omega)
  refine ⟨?_, fun a' ha' => ?_, h.b.grown hg h.b.size (fun q hq => own_base h.own q hq)⟩
  · rw [List.length_append, List.flatMap_append]
    simpa using ho
  · rcases List.mem_append.1 ha' with ha' | ha'
    · exact hok a' (h.ok a' ha')
    · simp at ha'
      subst ha'
      exact hok _ ha
/-- What StarsOf tells: the stars as they lie. -/
def RefA (L : List (Int × Int × Int)) (f : Int × Int → Nat → Int) (w w' : World) (e : Ending) : Prop := ∃ a c A pts r w2, e = .returned (.slice a (List.length A) c) ∧ RT w2 w' r (.slice a A.length c) f A ∧ A.map (fun a => a.1) = pts.filter (gref L f) ∧ SPt pts (L.flatMap cnr) ∧ Below w.heap.size w w2

/-- A star in memory while its lists grow. -/
structure SX (w wx : World) (B : Nat) (px py : Int) (vD vK : Value) (lD lK : List Int) : Prop where
  c0 : wx.cell? ⟨B, 0, none⟩ = some (.int .i64 px)
  c1 : wx.cell? ⟨B, 1, none⟩ = some (.int .i64 py)
  c2 : wx.cell? ⟨B, 2, none⟩ = some vD
  c3 : wx.cell? ⟨B, 3, none⟩ = some vK
  f2 : wx.frozen? ⟨B, 2, none⟩ = false
  f3 : wx.frozen? ⟨B, 3, none⟩ = false
  d : wx.ownsRow (B + 1) 3 1 vD lD.length (rowZ lD)
  k : wx.ownsRow (B + 1) 3 1 vK lK.length (rowZ lK)
  ne : vD.ownBlock = none ∨ vD.ownBlock ≠ vK.ownBlock
  b : Below w.heap.size w wx
  hB : w.heap.size ≤ B
theorem SX.lt {w wx : World} {B : Nat} {px py : Int} {vD vK : Value} {lD lK : List Int} (h : SX w wx B px py vD vK lD lK) : B < wx.heap.size := World.block_lt_of_cell? _ _ h.c0
theorem SX.kept {w wx w' : World} {B : Nat} {px py : Int} {vD vK : Value} {lD lK : List Int} (h : SX w wx B px py vD vK lD lK) (hb : Below wx.heap.size wx w') : SX w w' B px py vD vK lD lK :=
  ⟨cl_kept hb h.c0, cl_kept hb h.c1, cl_kept hb h.c2, cl_kept hb h.c3, fr_kept hb h.c2 h.f2, fr_kept hb h.c3 h.f3, own_below h.d hb, own_below h.k hb, h.ne, bl_via h.b hb, h.hB⟩
/-- A direction more. -/
theorem SX.putD {w wx w3 : World} {B : Nat} {px py : Int} {vD vK v' : Value} {lD lK lD' : List Int} (h : SX w wx B px py vD vK lD lK) (hg : wx.grownBy w3 vD.ownBlock) (ho : w3.ownsRow (B + 1) 3 1 v' lD'.length (rowZ lD')) (hv : v'.ownBlock = vD.ownBlock ∨ v'.ownBlock = some wx.heap.size) :
    SX w (w3.setCell ⟨B, 2, none⟩ v') B px py v' vK lD' lK := by
  have hbD : some B ≠ vD.ownBlock := fun e => by
    have := own_base h.d B e.symm
    omega
  have hbn : ∀ {u : Value} {l : List Int} {n : Nat}, w3.ownsRow (B + 1) 3 1 u n (rowZ l) → u.ownBlock = none ∨ u.ownBlock ≠ some B := fun {u l n} hu => by
    cases e : u.ownBlock with
    | none => exact Or.inl rfl
    | some q =>
      refine Or.inr (fun e1 => ?_)
      have := own_base hu q e
      simp at e1
      omega
  have hk3 : w3.ownsRow (B + 1) 3 1 vK lK.length (rowZ lK) := h.k.kept hg (by
    rcases h.ne with e | e
    · rw [e]
      cases e2 : vK.ownBlock with
      | none => exact Or.inl rfl
      | some q => exact Or.inr (by simp)
    · cases e2 : vK.ownBlock with
      | none => exact Or.inl rfl
      | some q => exact Or.inr (fun e3 => e (by rw [e2, e3])))
  refine ⟨?_, ?_, ?_, ?_, ?_, ?_, ?_, ?_, ?_, ?_, h.hB⟩
  · rw [World.cell?_setCell_other _ _ _ _ (by simp)]
    exact hg.cell h.c0 hbD
  · rw [World.cell?_setCell_other _ _ _ _ (by simp)]
    exact hg.cell h.c1 hbD
  · exact World.cell?_setCell_same _ _ _ (hg.cell h.c2 hbD)
  · rw [World.cell?_setCell_other _ _ _ _ (by simp)]
    exact hg.cell h.c3 hbD
  · rw [World.frozen?_setCell]
    exact fr_grown hg hbD h.c2 h.f2
  · rw [World.frozen?_setCell]
    exact fr_grown hg hbD h.c3 h.f3
  · exact ho.kept (grown_cell _ _ _ _) (hbn ho)
  · exact hk3.kept (grown_cell _ _ _ _) (hbn hk3)
  · rcases hv with e | e
    · rw [e]
      exact h.ne
    · refine Or.inr (fun e2 => ?_)
      rw [e] at e2
      have := (h.k.lt _ e2.symm).2
      omega
  · exact bl_set (h.b.grown hg h.b.size (fun q hq => by have := own_base h.d q hq; have := h.hB; omega)) h.hB
/-- A kind more. -/
theorem SX.putK {w wx w3 : World} {B : Nat} {px py : Int} {vD vK v' : Value} {lD lK lK' : List Int} (h : SX w wx B px py vD vK lD lK) (hg : wx.grownBy w3 vK.ownBlock) (ho : w3.ownsRow (B + 1) 3 1 v' lK'.length (rowZ lK')) (hv : v'.ownBlock = vK.ownBlock ∨ v'.ownBlock = some wx.heap.size) :
    SX w (w3.setCell ⟨B, 3, none⟩ v') B px py vD v' lD lK' := by
  have hbD : some B ≠ vK.ownBlock := fun e => by
    have := own_base h.k B e.symm
    omega
  have hbn : ∀ {u : Value} {l : List Int} {n : Nat}, w3.ownsRow (B + 1) 3 1 u n (rowZ l) → u.ownBlock = none ∨ u.ownBlock ≠ some B := fun {u l n} hu => by
    cases e : u.ownBlock with
    | none => exact Or.inl rfl
    | some q =>
      refine Or.inr (fun e1 => ?_)
      have := own_base hu q e
      simp at e1
      omega
  have hd3 : w3.ownsRow (B + 1) 3 1 vD lD.length (rowZ lD) := h.d.kept hg h.ne
  refine ⟨?_, ?_, ?_, ?_, ?_, ?_, ?_, ?_, ?_, ?_, h.hB⟩
  · rw [World.cell?_setCell_other _ _ _ _ (by simp)]
    exact hg.cell h.c0 hbD
  · rw [World.cell?_setCell_other _ _ _ _ (by simp)]
    exact hg.cell h.c1 hbD
  · rw [World.cell?_setCell_other _ _ _ _ (by simp)]
    exact hg.cell h.c2 hbD
  · exact World.cell?_setCell_same _ _ _ (hg.cell h.c3 hbD)
  · rw [World.frozen?_setCell]
    exact fr_grown hg hbD h.c2 h.f2
  · rw [World.frozen?_setCell]
    exact fr_grown hg hbD h.c3 h.f3
  · exact hd3.kept (grown_cell _ _ _ _) (hbn hd3)
  · exact ho.kept (grown_cell _ _ _ _) (hbn ho)
  · rcases hv with e | e
    · rw [e]
      exact h.ne
    · rw [e]
      cases e2 : vD.ownBlock with
      | none => exact Or.inl rfl
      | some q =>
        refine Or.inr (fun e3 => ?_)
        have := (h.d.lt _ e2).2
        simp at e3
        omega
  · exact bl_set (h.b.grown hg h.b.size (fun q hq => by have := own_base h.k q hq; have := h.hB; omega)) h.hB
theorem SX.start (W : World) (px py : Int) (f : Nat → Int) : SX W (W.alloc (.cells #[.int .i64 px, .int .i64 py, .slice none 0 0, .slice none 0 0] 45)) W.heap.size px py (.slice none 0 0) (.slice none 0 0) (sdirs f 0) (skinds f 0) := by
  refine ⟨?_, ?_, ?_, ?_, ?_, ?_, ⟨rfl, Or.inl ⟨rfl, rfl⟩⟩, ⟨rfl, Or.inl ⟨rfl, rfl⟩⟩, Or.inl rfl, bl_alloc (bl_refl _), Nat.le_refl _⟩ <;> simp [go_sem]
/-- Its lists, behind all that was there. -/
theorem SX.ok {W wx : World} {r B cD cK : Nat} {px py : Int} {aD aK : Option Addr} {f : Int × Int → Nat → Int} {own : Option Nat} (h : SX W wx B px py (.slice aD (sdirs (f (px, py)) 8).length cD) (.slice aK (skinds (f (px, py)) 8).length cK) (sdirs (f (px, py)) 8) (skinds (f (px, py)) 8)) (h0 : 0 < (sdirs (f (px, py)) 8).length) (hr : r ≤ B) (ho : ∀ q, own = some q → q < B) :
    StarOK wx r own f ((px, py), .slice aD (sdirs (f (px, py)) 8).length cD, .slice aK (skinds (f (px, py)) 8).length cK) := by
  refine StarOK.of (m := B + 1) (row_of_own h.d) (row_of_own h.k) h0 (fun a e => ?_) (fun a e => ?_) (by omega) (fun q hq => by have := ho q hq; omega)
  · have h1 := h.d
    rw [e] at h1
    exact own_base h1 a.block rfl
  · have h1 := h.k
    rw [e] at h1
    exact own_base h1 a.block rfl

/-- Stars in memory, told by their points. -/
def SRk (w : World) (a : Option Addr) (K : List (Int × Int)) (F : Int × Int → Nat → Int) : Prop := ∀ i (h : i < K.length), ∃ g dA dC kA kC, a = some ⟨g, 0, none⟩ ∧ w.cell? ⟨g, i * 4, none⟩ = some (.int .i64 K[i].1) ∧ w.cell? ⟨g, i * 4 + 1, none⟩ = some (.int .i64 K[i].2) ∧ w.cell? ⟨g, i * 4 + 2, none⟩ = some (.slice dA (sdirs (F K[i]) 8).length dC) ∧ w.cell? ⟨g, i * 4 + 3, none⟩ = some (.slice kA (skinds (F K[i]) 8).length kC) ∧ Row w dA (sdirs (F K[i]) 8) ∧ Row w kA (skinds (F K[i]) 8)
theorem SRk.kept {w wx : World} {a : Option Addr} {K : List (Int × Int)} {F : Int × Int → Nat → Int} (h : SRk w a K F) (hb : Below w.heap.size w wx) : SRk wx a K F := fun i hi => by
  obtain ⟨g, dA, dC, kA, kC, e, c0, c1, c2, c3, r0, r1⟩ := h i hi
  exact ⟨g, dA, dC, kA, kC, e, cl_kept hb c0, cl_kept hb c1, cl_kept hb c2, cl_kept hb c3, r0.kept hb, r1.kept hb⟩
theorem SRk.kept' {w wx : World} {a : Option Addr} {K : List (Int × Int)} {F : Int × Int → Nat → Int} (h : SRk w a K F) (hb : Below w.heap.size w wx) : Hid (SRk wx a K F) := h.kept hb
theorem neqP_same (a b : Int) (w : World) : (binOp .neq 43 (.agg #[.int .i64 a, .int .i64 b]) (.agg #[.int .i64 a, .int .i64 b])).run Tryd.prog w = .ok (.bool false) w := by
  simp [go_sem]
end Go.Proofs.YtmjneoaciopioaaDoor
namespace Go.Proofs.YtmjneoaciopioaaDoor
open Go.RowKit Go.Shelf Go.Lib
open Go.Sort hiding Below

/-- Draws, and new blocks: nothing else. -/
def GD (w w' : World) : Prop := ∃ q os, w' = grow (w.drewN q) os
theorem gd_refl (w : World) : GD w w := ⟨0, #[], by rw [grow_empty]; rfl⟩
theorem gd_alloc {w v : World} {o : Obj} (h : GD w v) : GD w (v.alloc o) := by
  obtain ⟨q, os, rfl⟩ := h
  exact ⟨q, os ++ #[o], by rw [alloc_eq_grow, grow_grow]⟩
theorem gd_drew {w v : World} (h : GD w v) : GD w v.drew := by
  obtain ⟨q, os, rfl⟩ := h
  exact ⟨q + 1, os, rfl⟩
set_option maxRecDepth 100000 in
set_option maxHeartbeats 1600000 in
theorem comparePoints_gd (a b p q : Int) (w : World) :
    Calls Tryd.prog 68 #[.agg #[.int .i64 a, .int .i64 b], .agg #[.int .i64 p, .int .i64 q]] w fun e w' => e = .returned (.int .i64 (cmpP a b p q)) ∧ GD w w' := by
  go_enter Tryd.func68, Tryd.ntmps68
  go_wp2
  go_region_held3 (fun w' => w'.cell? ⟨w.heap.size, 0, none⟩ = some (.int .i64 a) ∧ w'.cell? ⟨w.heap.size, 1, none⟩ = some (.int .i64 b) ∧ w'.cell? ⟨w.heap.size + 1, 0, none⟩ = some (.int .i64 p) ∧ w'.cell? ⟨w.heap.size + 1, 1, none⟩ = some (.int .i64 q))
    ((refine ⟨?_, ?_, ?_, ?_⟩ <;> (repeat' (first | (with_reducible assumption) | (dsimp only; omega) | (simp [go_sem]; done) | (with_reducible refine al_old ?_) | (with_reducible refine dr_old ?_)))))
    (first | (go_at_call 84; refine (compare_any _ _ _).mono ?_; rintro e w2 ⟨rfl, rfl⟩) | (go_at_call 88; refine (or2_any (cmp3 a p) (cmp3 b q) _ _ _ (by first | (simp [go_sem]; done) | (simp [go_sem, World.cell?_alloc_past]; done)) (by first | (simp [go_sem]; done) | (simp [go_sem, World.cell?_alloc_past]; done))).mono ?_; rintro e w3 ⟨rfl, rfl⟩))
  all_goals
    go_wp2
    go_ret
    refine ⟨rfl, ?_⟩
    with_reducible repeat' (first | exact gd_refl _ | refine gd_alloc ?_ | refine gd_drew ?_)
theorem gd_via {w v u : World} (h : GD w v) (k : GD v u) : GD w u := by
  obtain ⟨q, os, rfl⟩ := h
  obtain ⟨q2, os2, rfl⟩ := k
  refine ⟨q + q2, os ++ os2, ?_⟩
  rw [← grow_grow]
  have e : (grow (w.drewN q) os).drewN q2 = grow (w.drewN (q + q2)) os := by
    simp [grow, World.drewN, Nat.add_assoc]
  rw [e]
/-- A star as it lies: its point, and where its two lists lie. -/
abbrev SB := (Int × Int) × (Option Addr × Nat × Nat) × (Option Addr × Nat × Nat)
def encB (a : SB) : List Value := [.int .i64 a.1.1, .int .i64 a.1.2, .slice a.2.1.1 a.2.1.2.1 a.2.1.2.2, .slice a.2.2.1 a.2.2.2.1 a.2.2.2.2]
def cmpB (x y : SB) : Int := cmpP x.1.1 x.1.2 y.1.1 y.1.2
theorem cmpB_lt (x y : SB) : ltOf cmpB x y = true ↔ ltP x.1 y.1 := by
  unfold ltOf cmpB cmpP or2 cmp3 ltP
  rw [decide_eq_true_eq]
  repeat' split
  all_goals omega
theorem cmpB_not (x y : SB) : ltOf cmpB x y = false ↔ ¬ ltP x.1 y.1 := by
  rw [← cmpB_lt, Bool.not_eq_true]
theorem swoB : SWO (ltOf cmpB) := {
  irrefl := fun x => by rw [cmpB_not]; simp [ltP]
  trans := fun x y z h1 h2 => by
    rw [cmpB_lt] at *
    unfold ltP at *
    omega
  ntrans := fun x y z h1 h2 => by
    rw [cmpB_not] at *
    unfold ltP at *
    omega }
set_option maxRecDepth 100000 in
theorem closure_gd (x y : SB) (W : World) : Calls Tryd.prog 67 #[.agg (encB x).toArray, .agg (encB y).toArray] W fun e w' => e = .returned (.int .i64 (cmpB x y)) ∧ ∃ q os', w' = grow (W.drewN q) os' := by
  have C : Hid (∀ W' : World, Calls Tryd.prog 68 #[.agg #[.int .i64 x.1.1, .int .i64 x.1.2], .agg #[.int .i64 y.1.1, .int .i64 y.1.2]] W' fun e w' => e = .returned (.int .i64 (cmpB x y)) ∧ GD W' w') := fun W' => comparePoints_gd _ _ _ _ W'
  generalize cmpB x y = r at C ⊢
  unfold encB
  go_enter Tryd.func67, Tryd.ntmps67
  go_wp2_with (go_at_call 68; refine (C.out _).mono ?_; rintro e w1 ⟨rfl, hg⟩; have HG : Hid (GD W w1) := gd_via (gd_alloc (gd_alloc (gd_refl _))) hg; clear hg)
  go_ret
  exact ⟨rfl, HG.out⟩
end Go.Proofs.YtmjneoaciopioaaDoor
namespace Go.Proofs
open Go.Shelf
def Tryd.sortStars_ren : Go.Shelf.Ren := ⟨fun | 6 => 66 | 15 => 87 | 14 => 86 | 28 => 108 | 29 => 109 | 20 => 100 | 21 => 101 | 22 => 102 | 23 => 103 | 24 => 104 | 25 => 105 | 26 => 106 | 27 => 107 | 46 => 121 | 47 => 122 | 48 => 123 | 49 => 124 | 50 => 125 | 57 => 133 | n => n, fun | 22 => 38 | 24 => 45 | 25 => 126 | 3 => 3 | 39 => 147 | 0 => 0 | 53 => 169 | 55 => 171 | 4 => 4 | 46 => 162 | 45 => 161 | 50 => 166 | 5 => 5 | 9 => 9 | 66 => 183 | 70 => 187 | 76 => 191 | 77 => 192 | n => n, fun | n => n⟩
theorem Tryd.sortStars : Go.Proofs.SlLaysF0.n6 Tryd.prog Tryd.sortStars_ren := {
  mixed := by kernel_rfl
  f6 := ⟨Tryd.f66.name, by decide, Tryd.func66.trans (congrArg some (by kernel_rfl))⟩
  f14 := ⟨Tryd.f86.name, by decide, Tryd.func86.trans (congrArg some (by kernel_rfl))⟩
  f15 := Tryd.func87.trans (congrArg some (by kernel_rfl))
  f20 := ⟨Tryd.f100.name, by decide, Tryd.func100.trans (congrArg some (by kernel_rfl))⟩
  f21 := ⟨Tryd.f101.name, by decide, Tryd.func101.trans (congrArg some (by kernel_rfl))⟩
  f22 := ⟨Tryd.f102.name, by decide, Tryd.func102.trans (congrArg some (by kernel_rfl))⟩
  f23 := ⟨Tryd.f103.name, by decide, Tryd.func103.trans (congrArg some (by kernel_rfl))⟩
  f24 := ⟨Tryd.f104.name, by decide, Tryd.func104.trans (congrArg some (by kernel_rfl))⟩
  f25 := ⟨Tryd.f105.name, by decide, Tryd.func105.trans (congrArg some (by kernel_rfl))⟩
  f26 := ⟨Tryd.f106.name, by decide, Tryd.func106.trans (congrArg some (by kernel_rfl))⟩
  f27 := ⟨Tryd.f107.name, by decide, Tryd.func107.trans (congrArg some (by kernel_rfl))⟩
  f28 := Tryd.func108.trans (congrArg some (by kernel_rfl))
  f29 := Tryd.func109.trans (congrArg some (by kernel_rfl))
  f46 := ⟨Tryd.f121.name, by decide, Tryd.func121.trans (congrArg some (by kernel_rfl))⟩
  f47 := Tryd.func122.trans (congrArg some (by kernel_rfl))
  f48 := Tryd.func123.trans (congrArg some (by kernel_rfl))
  f49 := ⟨Tryd.f124.name, by decide, Tryd.func124.trans (congrArg some (by kernel_rfl))⟩
  f50 := ⟨Tryd.f125.name, by decide, Tryd.func125.trans (congrArg some (by kernel_rfl))⟩
  f57 := ⟨Tryd.f133.name, by decide, Tryd.func133.trans (congrArg some (by kernel_rfl))⟩
  t0 := Tryd.underlying0
  a0 := Tryd.isAgg0
  z0 := Tryd.sizeOf0
  v0 := Tryd.zeroValue0
  t3 := Tryd.underlying3
  a3 := Tryd.isAgg3
  z3 := Tryd.sizeOf3
  v3 := Tryd.zeroValue3
  t4 := Tryd.underlying4
  a4 := Tryd.isAgg4
  z4 := Tryd.sizeOf4
  v4 := Tryd.zeroValue4
  t5 := Tryd.underlying5
  a5 := Tryd.isAgg5
  z5 := Tryd.sizeOf5
  v5 := Tryd.zeroValue5
  t9 := Tryd.underlying9
  a9 := Tryd.isAgg9
  z9 := Tryd.sizeOf9
  v9 := Tryd.zeroValue9
  t22 := Tryd.underlying38
  a22 := Tryd.isAgg38
  z22 := Tryd.sizeOf38
  v22 := Tryd.zeroValue38
  t25 := Tryd.underlying126
  a25 := Tryd.isAgg126
  z25 := Tryd.sizeOf126
  v25 := Tryd.zeroValue126
  t39 := Tryd.underlying147
  a39 := Tryd.isAgg147
  z39 := Tryd.sizeOf147
  v39 := Tryd.zeroValue147
  t45 := Tryd.underlying161
  a45 := Tryd.isAgg161
  z45 := Tryd.sizeOf161
  v45 := Tryd.zeroValue161
  t46 := Tryd.underlying162
  a46 := Tryd.isAgg162
  z46 := Tryd.sizeOf162
  v46 := Tryd.zeroValue162
  t50 := Tryd.underlying166
  a50 := Tryd.isAgg166
  z50 := Tryd.sizeOf166
  v50 := Tryd.zeroValue166
  t53 := Tryd.underlying169
  a53 := Tryd.isAgg169
  z53 := Tryd.sizeOf169
  v53 := Tryd.zeroValue169
  t55 := Tryd.underlying171
  a55 := Tryd.isAgg171
  z55 := Tryd.sizeOf171
  v55 := Tryd.zeroValue171
  t66 := Tryd.underlying183
  a66 := Tryd.isAgg183
  z66 := Tryd.sizeOf183
  v66 := Tryd.zeroValue183
  t70 := Tryd.underlying187
  a70 := Tryd.isAgg187
  z70 := Tryd.sizeOf187
  v70 := Tryd.zeroValue187
  t76 := Tryd.underlying191
  a76 := Tryd.isAgg191
  z76 := Tryd.sizeOf191
  v76 := Tryd.zeroValue191
  t77 := Tryd.underlying192
  a77 := Tryd.isAgg192
  z77 := Tryd.sizeOf192
  v77 := Tryd.zeroValue192 }
end Go.Proofs
namespace Go.Proofs.YtmjneoaciopioaaDoor
open Go.RowKit Go.Shelf Go.Lib
open Go.Sort hiding Below

theorem flat_at : ∀ (Bs : List SB) (j : Nat), j < Bs.length * 4 → (Bs.flatMap encB)[j]? = some ((encB (Bs.getD (j / 4) default))[j % 4]!)
  | [], j, h => by simp at h
  | x :: r, j, h => by
    rw [List.flatMap_cons]
    by_cases hj : j < 4
    · rw [List.getElem?_append_left (by simpa [encB] using hj), show j / 4 = 0 by omega, show j % 4 = j by omega]
      have h4 : j = 0 ∨ j = 1 ∨ j = 2 ∨ j = 3 := by omega
      rcases h4 with rfl | rfl | rfl | rfl <;> rfl
    · rw [List.getElem?_append_right (by simp [encB]; omega), show (encB x).length = 4 from rfl]
      have ih := flat_at r (j - 4) (by simp at h; omega)
      rw [ih, show j / 4 = (j - 4) / 4 + 1 by omega, show j % 4 = (j - 4) % 4 by omega]
      rfl
theorem holdsB {w : World} {base g n c : Nat} {Bs : List SB} (h : w.ownsRow base 45 4 (.slice (some ⟨g, 0, none⟩) n c) n (Bs.flatMap encB)) (hn : n = Bs.length) : HoldsK encB 4 w g 0 Bs.toArray := by
  subst hn
  intro j hj
  rw [size_flatK] at hj
  simp only [List.size_toArray] at hj
  rw [get_flatK _ _ _ _ (by simpa using hj)]
  refine ⟨?_, ?_⟩
  · have hc := h.cellAt j (by omega)
    rw [Nat.zero_add, hc, flat_at Bs j hj]
    simp
  · rcases h.2 with ⟨h1, _⟩ | ⟨g', cap, cur, h1, _, h3, _⟩
    · cases h1
    · cases h1
      simp [World.frozen?, h3]
theorem grown_sorted {w : World} {g m : Nat} {os : Array Obj} (d : Array SB) : w.grownBy (sortWorldK encB 4 w g 0 m d os) (some g) := by
  refine ⟨rfl, rfl, rfl, size_sortWorldK_c _ _ _ _ _ _ _ _, fun k hk hne => ?_⟩
  unfold sortWorldK putRowK
  rw [heap_grow_old _ _ (by simpa using hk)]
  have : g ≠ k := fun e => hne (by rw [e])
  simp [putRow, mapBlock, Sort.ahead, Array.getElem?_modify, this]
/-- Stars in memory. -/
def STR (w : World) (v : Value) (Bs : List SB) : Prop := ∃ a c, v = .slice a Bs.length c ∧ ∀ i (h : i < Bs.length), ∃ g, a = some ⟨g, 0, none⟩ ∧ ∀ c, c < 4 → w.cell? ⟨g, i * 4 + c, none⟩ = some ((encB Bs[i])[c]!)
set_option maxRecDepth 100000 in
theorem sortStars_any (w : World) (base c8 : Nat) (a8 : Option Addr) (Bs : List SB) (h : w.ownsRow base 45 4 (.slice a8 Bs.length c8) Bs.length (Bs.flatMap encB)) (hz : Bs.length < 4611686018427387904) :
    Calls Tryd.prog 66 #[.slice a8 Bs.length c8, .func (.func 67) #[] #[]] w fun e w' => e = .returned (.tuple #[]) ∧ ∃ Bs', Bs'.Perm Bs ∧ Bs'.Pairwise (fun x y => ¬ ltP y.1 x.1) ∧ STR w' (.slice a8 Bs.length c8) Bs' ∧ w.grownBy w' (Value.slice a8 Bs.length c8).ownBlock := by
  by_cases h0 : Bs = []
  · subst h0
    have hc := AnyF.slices_SortFunc_none Tryd.sortStars a8 c8 (.func (.func 67) #[] #[]) w
    refine hc.mono ?_
    rintro e w' ⟨rfl, rfl⟩
    exact ⟨rfl, [], List.Perm.refl _, List.Pairwise.nil, ⟨a8, c8, rfl, fun i hi => by simp at hi⟩, ⟨rfl, rfl, rfl, Nat.le_refl _, fun _ _ _ => rfl⟩⟩
  · have hpos : 0 < Bs.length := List.length_pos_iff.2 h0
    obtain ⟨g, rfl⟩ : ∃ g, a8 = some ⟨g, 0, none⟩ := by
      rcases h.2 with ⟨h1, h2⟩ | ⟨g, cap, cur, h1, _⟩
      · omega
      · cases h1
        exact ⟨g, rfl⟩
    have hH := holdsB h rfl
    have hg : g < w.heap.size := (h.lt g rfl).2
    have hcon := AnyQ.slices_SortFunc Tryd.sortStars 4 Tryd.isAgg45 Tryd.sizeOf45 encB (fun _ => rfl) (fun x v hv => by simp [encB] at hv; rcases hv with rfl | rfl | rfl | rfl <;> rfl) cmpB swoB 67 #[] g 0 c8 Bs.toArray w (enters_of Tryd.func67 (by kernel_rfl) rfl) (fun _ _ _ _ x y => closure_gd x y _) hH hg (by simpa using hz)
    change Calls Tryd.prog 66 _ _ _ at hcon
    rw [List.size_toArray] at hcon
    refine hcon.mono ?_
    rintro e w' ⟨rfl, d', m, os, hp, hs, rfl⟩
    have hsz : d'.size = Bs.length := by simpa using hp.1
    refine ⟨rfl, d'.toList, ?_, ?_, ?_, grown_sorted d'⟩
    · have h3 := hp.2.2
      have e1 : (d'.extract 0 Bs.length).toList = d'.toList := by
        rw [← hsz]
        simp
      have e2 : (Bs.toArray.extract 0 Bs.length).toList = Bs := by simp
      rw [e1, e2] at h3
      exact h3
    · rw [List.pairwise_iff_getElem]
      intro i j hi hj hij
      have := hs i j (Nat.zero_le _) hij (by simpa [hsz] using hj)
      rw [cmpB_not] at this
      have hi2 : i < d'.size := by simpa using hi
      have hj2 : j < d'.size := by simpa using hj
      rw [getElem!_pos d' i hi2, getElem!_pos d' j hj2] at this
      simpa using this
    · have e5 : Value.slice (some ⟨g, 0, none⟩) Bs.length c8 = .slice (some ⟨g, 0, none⟩) d'.toList.length c8 := by
        have e6 : d'.toList.length = Bs.length := by simpa using hsz
        rw [e6]
      refine ⟨some ⟨g, 0, none⟩, c8, e5, fun i hi => ⟨g, rfl, fun c hc => ?_⟩⟩
      have hi2 : i < d'.size := by simpa using hi
      have h9 := holdsK_sortWorldK_c encB 4 w g 0 Bs.toArray d' m os hH hg (by simpa using hsz)
      have := (h9.cell hi2 hc).1
      rw [Nat.zero_add] at this
      rw [this, getElem!_pos d' i hi2]
      simp
end Go.Proofs.YtmjneoaciopioaaDoor
namespace Go.Proofs.YtmjneoaciopioaaDoor
open Go.RowKit Go.ChangeMaps

def slp : Value → Option Addr × Nat × Nat
  | .slice a n c => (a, n, c)
  | _ => (none, 0, 0)
def toSB (a : SA) : SB := (a.1, slp a.2.1, slp a.2.2)
theorem encB_of {wx : World} {r : Nat} {own : Option Nat} {f : Int × Int → Nat → Int} {a : SA} (h : StarOK wx r own f a) : encB (toSB a) = encS a := by
  obtain ⟨⟨g, o, c, e, _⟩, ⟨g', o', c', e', _⟩⟩ := h
  unfold encB encS toSB
  rw [e, e']
  rfl
theorem flat_of {wx : World} {r : Nat} {own : Option Nat} {f : Int × Int → Nat → Int} : ∀ {A : List SA}, (∀ a ∈ A, StarOK wx r own f a) → (A.map toSB).flatMap encB = A.flatMap encS
  | [], _ => rfl
  | a :: l, h => by
    rw [List.map_cons, List.flatMap_cons, List.flatMap_cons, encB_of (h a (by simp)), flat_of (A := l) (fun b hb => h b (by simp [hb]))]
/-- A star's lists are there. -/
def BOK (w : World) (f : Int × Int → Nat → Int) (b : SB) : Prop := (Row w b.2.1.1 (sdirs (f b.1) 8) ∧ b.2.1.2.1 = (sdirs (f b.1) 8).length) ∧ (Row w b.2.2.1 (skinds (f b.1) 8) ∧ b.2.2.2.1 = (skinds (f b.1) 8).length)
theorem BOK.of {w : World} {r : Nat} {own : Option Nat} {f : Int × Int → Nat → Int} {a : SA} (h : StarOK w r own f a) : BOK w f (toSB a) := by
  obtain ⟨⟨g, o, c, e, hr, _⟩, ⟨g', o', c', e', hr', _⟩⟩ := h
  unfold BOK toSB
  rw [e, e']
  exact ⟨⟨hr, rfl⟩, ⟨hr', rfl⟩⟩
theorem stamp_inj {ls : List ((Int × Int) × Value × Nat)} (h : (ls.map (fun x => x.2.2)).Nodup) : ∀ {a b}, a ∈ ls → b ∈ ls → a.2.2 = b.2.2 → a = b := by
  induction ls with
  | nil => intro a b ha; cases ha
  | cons x l ih =>
    intro a b ha hb e
    rw [List.map_cons, List.nodup_cons] at h
    rcases List.mem_cons.1 ha with e1 | ha2
    · rcases List.mem_cons.1 hb with e2 | hb2
      · rw [e1, e2]
      · exact absurd (List.mem_map.2 ⟨b, hb2, by rw [← e, e1]⟩) h.1
    · rcases List.mem_cons.1 hb with e2 | hb2
      · exact absurd (List.mem_map.2 ⟨a, ha2, by rw [e, e2]⟩) h.1
      · exact ih h.2 ha2 hb2 e
theorem arv_bits {b b' : Nat → Bool} {k k' : Nat → Int} (h : arv b k = arv b' k') : b 0 = b' 0 := by
  unfold arv at h
  simp only [Value.agg.injEq] at h
  have := congrArg (fun a => a[0]?) h
  simpa using this
/-- All have come: the stars are just these. -/
theorem VisOK.all {P : List ((Int × Int) × Nat × Nat)} {f : Int × Int → Nat → Int} {ls vis : List ((Int × Int) × Value × Nat)} {A : List SA} {c : Nat} (h : VisOK P f ls vis A) (hG : Pm.Good ls c) (hl : ∀ pt, (Pm.lk ls pt).getD (arv (fun _ => false) (fun _ => 0)) = arv (bitsOf P pt) (f pt)) (hd : AllCome ls (stamps vis)) (pt : Int × Int) : pt ∈ A.map (fun a => a.1) ↔ gstar P f pt = true := by
  rw [h.2.2, List.mem_map]
  constructor
  · rintro ⟨x, hx, rfl⟩
    exact (List.mem_filter.1 hx).2
  · intro hg
    have hb : bitsOf P pt 0 = true := by
      rw [gstar, Bool.and_eq_true, List.all_eq_true] at hg
      exact hg.2 0 (by simp)
    cases hk : Pm.lk ls pt with
    | none =>
      have := hl pt
      rw [hk] at this
      rw [Option.getD_none] at this
      have := arv_bits this
      rw [hb] at this
      cases this
    | some v =>
      obtain ⟨b, hm⟩ := Pm.lk_mem hk
      have hst := hd _ hm
      obtain ⟨y, hy, e⟩ := List.mem_map.1 hst
      have : y = (pt, v, b) := stamp_inj hG.2.1 (h.1 y hy) hm e
      subst this
      exact ⟨_, List.mem_filter.2 ⟨hy, hg⟩, rfl⟩
/-- What starsOf tells. -/
def StarsR (P : List ((Int × Int) × Nat × Nat)) (f : Int × Int → Nat → Int) (w w' : World) (e : Ending) : Prop := ∃ a c Bs, e = .returned (.slice a (List.length Bs) c) ∧ STR w' (.slice a Bs.length c) Bs ∧ (∀ b ∈ Bs, BOK w' f b) ∧ (Bs.map (fun b => b.1)).Pairwise ltP ∧ (∀ pt, pt ∈ Bs.map (fun b => b.1) ↔ gstar P f pt = true) ∧ Below w.heap.size w w'
theorem StarsR.of {w wr w9 : World} {rm r c c8 : Nat} {a8 : Option Addr} {P : List ((Int × Int) × Nat × Nat)} {f : Int × Int → Nat → Int} {ls vis : List ((Int × Int) × Value × Nat)} {A : List SA} {Bs : List SB} (hS : ST w wr rm r c ls (stamps vis) (.slice a8 A.length c8) f A) (hV : VisOK P f ls vis A) (hG : Pm.Good ls c) (hl : ∀ pt, (Pm.lk ls pt).getD (arv (fun _ => false) (fun _ => 0)) = arv (bitsOf P pt) (f pt)) (hd : AllCome ls (stamps vis))
    (hp : Bs.Perm (A.map toSB)) (hs : Bs.Pairwise (fun x y => ¬ ltP y.1 x.1)) (hst : STR w9 (.slice a8 A.length c8) Bs) (hg : wr.grownBy w9 (Value.slice a8 A.length c8).ownBlock) : StarsR P f w w9 (.returned (.slice a8 A.length c8)) := by
  have hlen : Bs.length = A.length := by rw [hp.length_eq, List.length_map]
  have hkeys : (Bs.map (fun b => b.1)).Perm (A.map (fun a => a.1)) := by
    have := hp.map (fun b : SB => b.1)
    rw [List.map_map] at this
    exact this
  refine ⟨a8, c8, Bs, by rw [hlen], by rw [hlen]; exact hst, fun b hb => ?_, ?_, fun pt => ?_, ?_⟩
  · obtain ⟨a, ha, rfl⟩ := List.mem_map.1 (hp.mem_iff.1 hb)
    exact BOK.of ((hS.ok a ha).grown hg (own' := none) (fun g _ _ hn => hn) (fun g _ _ => by simp))
  · have hnd : (Bs.map (fun b => b.1)).Nodup := hkeys.nodup_iff.2 (hV.keys hG)
    have h1 : Bs.Pairwise (fun x y => x.1 ≠ y.1) := List.pairwise_map.1 hnd
    refine List.pairwise_map.2 ((hs.and h1).imp (fun {x y} hxy => ?_))
    obtain ⟨⟨x0, x1⟩, x2⟩ := x
    obtain ⟨⟨y0, y1⟩, y2⟩ := y
    simp only [ltP, ne_eq, Prod.mk.injEq] at hxy ⊢
    omega
  · rw [hkeys.mem_iff]
    exact hV.all hG hl hd pt
  · exact hS.b.grown hg hS.b.size (fun q hq => by
      have := own_base hS.own q hq
      have := hS.hr
      have := hS.lo
      omega)

/-- What StarsOf tells. -/
def RefR (L : List (Int × Int × Int)) (f : Int × Int → Nat → Int) (w w' : World) (e : Ending) : Prop := ∃ a c Bs pts, e = .returned (.slice a (List.length Bs) c) ∧ STR w' (.slice a Bs.length c) Bs ∧ (∀ b ∈ Bs, BOK w' f b) ∧ Bs.map (fun b => b.1) = pts.filter (gref L f) ∧ SPt pts (L.flatMap cnr) ∧ Below w.heap.size w w'
theorem RefR.of {w wx : World} {r c8 : Nat} {a8 : Option Addr} {f : Int × Int → Nat → Int} {A : List SA} {L : List (Int × Int × Int)} {pts : List (Int × Int)} (h : RT w wx r (.slice a8 A.length c8) f A) (hk : A.map (fun a => a.1) = pts.filter (gref L f)) (hp : SPt pts (L.flatMap cnr)) : RefR L f w wx (.returned (.slice a8 A.length c8)) := by
  have hlen : (A.map toSB).length = A.length := List.length_map ..
  refine ⟨a8, c8, A.map toSB, pts, by rw [hlen], ?_, fun b hb => ?_, ?_, hp, h.b⟩
  · refine ⟨a8, c8, rfl, fun i hi => ?_⟩
    have hi2 : i < A.length := by omega
    have ho := h.own
    rw [← flat_of h.ok] at ho
    rcases ho.2 with ⟨e, h0⟩ | ⟨g, cap, cur, e, _⟩
    · exfalso
      omega
    · simp only [Value.slice.injEq] at e
      refine ⟨g, e.1, fun cc hc => ?_⟩
      rw [e.1] at ho
      have h1 := ho.cellAt (i * 4 + cc) (by omega)
      rw [h1, flat_at _ _ (by omega), show (i * 4 + cc) / 4 = i by omega, show (i * 4 + cc) % 4 = cc by omega, List.getD_eq_getElem?_getD, List.getElem?_eq_getElem hi, Option.getD_some]
  · obtain ⟨a, ha, rfl⟩ := List.mem_map.1 hb
    exact BOK.of (h.ok a ha)
  · rw [List.map_map, ← hk]
    rfl
theorem RefR.ofA {w w' : World} {e : Ending} {f : Int × Int → Nat → Int} {L : List (Int × Int × Int)} (h : RefA L f w w' e) : RefR L f w w' e := by
  obtain ⟨a, c, A, pts, r, w2, rfl, h1, h2, h3, h4⟩ := h
  obtain ⟨ra, rc, rB, rp, r1, r2, r3, r4, r5, r6⟩ := RefR.of h1 h2 h3
  exact ⟨ra, rc, rB, rp, r1, r2, r3, r4, r5, bl_via h4 r6⟩
/-- Two lists in order with the same members are one. -/
theorem sorted_eq : ∀ {l m : List (Int × Int)}, l.Pairwise ltP → m.Pairwise ltP → (∀ p, p ∈ l ↔ p ∈ m) → l = m
  | [], [], _, _, _ => rfl
  | [], b :: m, _, _, h => absurd ((h b).2 (by simp)) (by simp)
  | a :: l, [], _, _, h => absurd ((h a).1 (by simp)) (by simp)
  | a :: l, b :: m, h1, h2, h => by
    rw [List.pairwise_cons] at h1 h2
    have irr : ∀ {p q : Int × Int}, ltP p q → ltP q p → False := fun {p q} x y => by
      unfold ltP at x y
      omega
    have e : a = b := by
      rcases List.mem_cons.1 ((h a).1 (by simp)) with e | e
      · exact e
      · rcases List.mem_cons.1 ((h b).2 (by simp)) with e' | e'
        · exact e'.symm
        · exact (irr (h1.1 b e') (h2.1 a e)).elim
    subst e
    refine congrArg (a :: ·) (sorted_eq h1.2 h2.2 (fun p => ?_))
    have hp := h p
    rw [List.mem_cons, List.mem_cons] at hp
    constructor
    · intro q
      rcases hp.1 (Or.inr q) with e | e
      · subst e
        exact (irr (h1.1 p q) (h1.1 p q)).elim
      · exact e
    · intro q
      rcases hp.2 (Or.inr q) with e | e
      · subst e
        exact (irr (h2.1 p q) (h2.1 p q)).elim
      · exact e
/-- A star of the code is a star of the reference. -/
theorem gstar_iff {L : List (Int × Int × Int)} {ks : List Int} {n : Nat} {pts : List (Int × Int)} (hn : L.Nodup) (hL : ∀ t ∈ L, Kd t) (hC : ∀ i, i < n → GE (ck ks i 0, ck ks i 1, ck ks i 2, ck ks i 3)) (hp : SPt pts (L.flatMap cnr)) (pt : Int × Int) : gstar (L.flatMap tps) (kc ks n) pt = true ↔ pt ∈ pts.filter (gref L fun pt d => kdn ks n (eP pt d)) := by
  have hs : sdirs (kc ks n pt) 8 = sdirs (fun d => kdn ks n (eP pt d)) 8 := (sdirs_congr 8 (fun d hd => kc_kdn hC hd n (Nat.le_refl n))).1
  rw [List.mem_filter, hp.2 pt, gstar, gref, Bool.and_eq_true, Bool.and_eq_true, decide_eq_true_eq, decide_eq_true_eq, decide_eq_true_eq, List.all_eq_true, hs]
  unfold cntC
  constructor
  · rintro ⟨h1, h2⟩
    have hb := h2 0 (by simp)
    obtain ⟨t, ht, hb⟩ := bits_flat.1 hb
    have hc := (corner_iff (hL t ht)).2 ⟨0, by omega, hb⟩
    refine ⟨List.mem_flatMap.2 ⟨t, ht, hc⟩, (within_iff hn hL (cnr_gp (hL t ht) hc)).1 (fun d hd => h2 d (by simpa using hd)), h1⟩
  · rintro ⟨h0, h1, h2⟩
    obtain ⟨t, ht, hc⟩ := List.mem_flatMap.1 h0
    refine ⟨h2, fun d hd => (within_iff hn hL (cnr_gp (hL t ht) hc)).2 h1 d (by simpa using hd)⟩
end Go.Proofs.YtmjneoaciopioaaDoor
