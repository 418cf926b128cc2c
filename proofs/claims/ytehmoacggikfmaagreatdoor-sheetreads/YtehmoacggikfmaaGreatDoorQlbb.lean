/- A part of the proof of sheetReads_holds. -/
import Derived.Test.YtehmoacggikfmaaGreatDoorQlaw
import Derived.Test.YtehmoacggikfmaaGreatDoorQlab
import Derived.Test.YtehmoacggikfmaaGreatDoorQlba
import Derived.Laws.MakeOwn
namespace Go.Proofs.YtehmoacggikfmaaGreatDoor
open Go.RowKit

/-- The reader's text lies, and what start-up laid. -/
structure BASE (w : World) (rb lb cap : Nat) (Ls : List (List UInt8)) : Prop where
  mx : MX w
  st : Steps w
  c0 : w.cell? ⟨rb, 0, none⟩ = some (.slice (some ⟨lb, 0, none⟩) Ls.length cap)
  sr : SR w lb Ls
  fz : ∀ o, w.frozen? ⟨rb, o, none⟩ = false
  r3 : 3 < rb
  ne : lb ≠ rb
  lt : rb < w.heap.size
  ln : Ls.length ≤ 8001
  sz : ∀ x ∈ Ls, x.length ≤ 8000
theorem Steps.grown {w wx : World} {r : Nat} (hs : Steps w) (hg : w.grownBy wx (some r)) (hne : 3 ≠ r) : Steps wx := by
  obtain ⟨s0, s1, s2, s3, s4, s5, s6, s7⟩ := hs
  exact ⟨grown_cl hg hne s0, grown_cl hg hne s1, grown_cl hg hne s2, grown_cl hg hne s3, grown_cl hg hne s4, grown_cl hg hne s5, grown_cl hg hne s6, grown_cl hg hne s7⟩
theorem BASE.chg {w wx : World} {rb lb cap : Nat} {Ls : List (List UInt8)} {os : List Nat} (h : BASE w rb lb cap Ls) (hc : Chg w wx rb os) (h0 : 0 ∉ os) : BASE wx rb lb cap Ls := {
  mx := h.mx.grown hc.1 (by have := h.r3; omega),
  st := h.st.grown hc.1 (by have := h.r3; omega),
  c0 := (hc.2.1 0 h0).trans h.c0,
  sr := h.sr.grown hc.1 h.ne,
  fz := fun o => (hc.2.2.1 o).trans (h.fz o),
  r3 := h.r3,
  ne := h.ne,
  lt := Nat.lt_of_lt_of_le h.lt hc.1.size,
  ln := h.ln,
  sz := h.sz }
theorem Chg.refl {w : World} {rb : Nat} (h : rb < w.heap.size) : Chg w w rb [] := ⟨⟨rfl, rfl, rfl, Nat.le_refl _, fun _ _ _ => rfl⟩, fun _ _ => rfl, fun _ => rfl, h⟩
theorem BASE.kept {w wx : World} {rb lb cap : Nat} {Ls : List (List UInt8)} (h : BASE w rb lb cap Ls) (hb : Below w.heap.size w wx) : BASE wx rb lb cap Ls := h.chg ((Chg.refl h.lt).kept hb) (by simp)
theorem words_b {w : World} {rb lb cap a : Nat} {Ls : List (List UInt8)} (hcut : CUT) (hwrd : WRD) (h : BASE w rb lb cap Ls) (hc : w.cell? ⟨rb, 1, none⟩ = some (.int .i64 (a : Int))) (ha : a ≤ Ls.length) :
    Calls Tryz.prog 22 #[.pointer (some ⟨rb, 0, none⟩)] w fun e w' => WdTo w w' rb Ls.length (nx a (Ls.drop a)) e :=
  words_any rb lb cap a Ls w hcut hwrd h.mx (by have := h.r3; omega) h.ne h.c0 hc (h.fz 1) h.sr h.ln ha h.sz
theorem words_n {w : World} {rb lb cap a : Nat} {Ls : List (List UInt8)} (hcut : CUT) (hwrd : WRD) (h : BASE w rb lb cap Ls) (hc : w.cell? ⟨rb, 1, none⟩ = some (.int .i64 (a : Int))) (ha : a ≤ Ls.length) (hn : nx a (Ls.drop a) = none) : C22N w rb ((Ls.length : Int) + 1) := by
  have := words_b hcut hwrd h hc ha
  rw [hn] at this
  exact this
theorem words_s {w : World} {rb lb cap a j : Nat} {ws : List (List UInt8)} {Ls : List (List UInt8)} (hcut : CUT) (hwrd : WRD) (h : BASE w rb lb cap Ls) (hc : w.cell? ⟨rb, 1, none⟩ = some (.int .i64 (a : Int))) (ha : a ≤ Ls.length) (hn : nx a (Ls.drop a) = some (j, ws)) : C22S w rb ((j : Int) + 1) ws := by
  have := words_b hcut hwrd h hc ha
  rw [hn] at this
  exact this

set_option maxRecDepth 100000 in
set_option maxHeartbeats 1600000 in
theorem parts_any (x : Nat) (w : World) : Calls Tryz.prog 69 #[.int .i32 (x : Int)] w fun e w' => e = .returned (.bool (sepR x)) ∧ w' = w := by
  have e9 : ((x : Int) == 9) = (x == 9) := by rw [Bool.eq_iff_iff]; simp; omega
  have e13 : ((x : Int) == 13) = (x == 13) := by rw [Bool.eq_iff_iff]; simp; omega
  have e32 : ((x : Int) == 32) = (x == 32) := by rw [Bool.eq_iff_iff]; simp; omega
  have HR : Hid (sepR x = (x == 9 || x == 13 || x == 32)) := rfl
  rcases h9 : (x == 9) with _ | _ <;> rcases h13 : (x == 13) with _ | _ <;> rcases h32 : (x == 32) with _ | _ <;> rw [h9] at e9 HR <;> rw [h13] at e13 HR <;> rw [h32] at e32 HR <;> clear h9 h13 h32 <;> (
    have HR2 := HR.out
    simp only [Bool.or_false, Bool.or_true] at HR2
    clear HR
    have HR : Hid (sepR x = _) := HR2
    clear HR2
    go_enter Tryz.func69, Tryz.ntmps69
    go_wp2_with (fail)
    go_ret
    exact ⟨by rw [HR.out]; rfl, rfl⟩)
theorem row_sr {w' : World} {A b : Nat} {l : List ByteArray} (h : w'.ownsRow b 9 1 (.slice (some ⟨A, 0, none⟩) l.length l.length) l.length (l.map Value.string)) : SR w' A (l.map fun x => x.data.toList) := by
  intro i hi
  have hi2 : i < l.length := by simpa using hi
  have hc := h.cellAt i (by omega)
  rw [hc]
  simp only [List.getElem?_map, List.getElem?_eq_getElem hi2, Option.map_some, List.getElem_map]
  rfl
set_option maxRecDepth 100000 in
set_option maxHeartbeats 1600000 in
theorem wrd_any : WRD := by
  intro s W hs
  have hC := Tryz.strings_FieldsFunc_runes 69 #[] (fun args w => enters_of Tryz.func69 (by kernel_rfl) rfl args w) sepR s W (by omega) (fun W' x hx hb => (parts_any x W').mono (fun e w' h => ⟨h.1, 0, h.2⟩))
  have C : Hid (Calls Tryz.prog 68 #[.string s, .func (.func 69) #[] #[]] W fun e w' => ∃ A, e = .returned (.slice (some ⟨A, 0, none⟩) (wd s.data.toList).length (wd s.data.toList).length) ∧ W.heap.size ≤ A ∧ SR w' A (wd s.data.toList) ∧ Below W.heap.size W w') := by
    refine Calls.mono hC ?_
    rintro e w' ⟨A, rfl, hA, ho, hb⟩
    have hsr := row_sr ho
    rw [fields_wd] at hsr
    refine ⟨A, ?_, hA, hsr, hb⟩
    rw [← fields_wd, List.length_map]
  clear hC
  go_enter Tryz.func42, Tryz.ntmps42
  go_wp2_with (first
    | (go_at_call 68; (with_reducible refine Calls.mono C.out ?_); rintro e w1 ⟨A, rfl, hA, hS, hb⟩; have HR : Hid (W.heap.size ≤ A ∧ SR w1 A (wd s.data.toList) ∧ Below W.heap.size W w1) := ⟨hA, hS, hb⟩; clear hA hS hb)
    | fail)
  go_ret
  exact ⟨A, rfl, HR.out.1, HR.out.2.1, HR.out.2.2⟩
theorem cut_any : CUT := by
  rintro s W hs ⟨m, hm⟩
  have hC := Tryz.strings_Cut s ⟨#[35]⟩ m W (by omega) hm
  refine Calls.mono hC ?_
  rintro e w' ⟨rfl, n, rfl⟩
  refine ⟨⟨(Lib.cut s.data.toList [35]).2.1.toArray⟩, (Lib.cut s.data.toList [35]).2.2, ?_, bl_drewN (bl_refl _)⟩
  show Ending.returned (.tuple #[.string ⟨(Lib.cut s.data.toList [35]).1.toArray⟩, _, _]) = _
  rw [cut_ahd]
  rfl
/-- The code's lines, as Split gives them. -/
theorem ln_cases (l : List UInt8) : ∃ G : List (List UInt8), lnG l [] = G ∧ G ≠ [] ∧ ((G.getLast? = some [] ∧ ln l = G.dropLast) ∨ (G.getLast? ≠ some [] ∧ ln l = G)) := by
  refine ⟨_, rfl, lnG_ne _ _, ?_⟩
  by_cases h : (lnG l []).getLast? = some []
  · left
    refine ⟨h, ?_⟩
    unfold ln
    rw [lnF_G, if_pos h]
  · right
    refine ⟨h, ?_⟩
    unfold ln
    rw [lnF_G, if_neg h]
theorem sr_take {w : World} {A : Nat} {l : List (List UInt8)} (h : SR w A l) : SR w A l.dropLast := by
  intro i hi
  have hi2 : i < l.length := by rw [List.length_dropLast] at hi; omega
  rw [List.getElem_dropLast]
  exact h i hi2
set_option maxRecDepth 100000 in
set_option maxHeartbeats 1600000 in
theorem linesOf_any (s : ByteArray) (w : World) (hs : s.size ≤ 8000) (hx : MX w) : Calls Tryz.prog 8 #[.string s] w fun e w' => ∃ cap, e = .returned (.slice (some ⟨w.heap.size, 0, none⟩) (ln s.data.toList).length cap) ∧ SR w' w.heap.size (ln s.data.toList) ∧ Below w.heap.size w w' ∧ w.heap.size < w'.heap.size := by
  obtain ⟨m, hm⟩ := hx
  obtain ⟨G, hG, hne, hcs⟩ := ln_cases s.data.toList
  have hC := Tryz.strings_Split s ⟨#[10]⟩ m w (by omega) hm (by decide)
  obtain ⟨N, hN⟩ : ∃ N : Nat, N = Lib.countB s ⟨#[10]⟩ := ⟨_, rfl⟩
  have hsp := split_ln N s hN.symm
  rw [hG] at hsp
  have hlen : G.length = N + 1 := by
    rw [← hsp, List.length_map, hN]
    exact Lib.splitB_all ⟨#[10]⟩ (by decide) 0 _ s rfl
  have hNs : N ≤ s.size := by rw [hN]; exact Lib.countB_le ⟨#[10]⟩ (by decide) _ s (Nat.le_refl _)
  have C : Hid (Calls Tryz.prog 21 #[.string s, .string ⟨#[10]⟩] w fun e w' => e = .returned (.slice (some ⟨w.heap.size, 0, none⟩) (N + 1) (N + 1)) ∧ SR w' w.heap.size G ∧ Below w.heap.size w w' ∧ w.heap.size < w'.heap.size) := by
    refine Calls.mono hC ?_
    rintro e w' ⟨rfl, rfl⟩
    refine ⟨by rw [hN], ?_, bl_alloc (bl_refl _), by simp⟩
    intro i hi
    rw [World.cell?_alloc_new]
    have hi2 : i < (Lib.splitB ⟨#[10]⟩ 0 N s).length := by rw [← List.length_map (f := fun x : ByteArray => x.data.toList), hsp]; exact hi
    rw [← hN]
    simp only [List.getElem?_toArray, List.getElem?_map, List.getElem?_eq_getElem hi2, Option.map_some]
    simp only [← hsp, List.getElem_map]
    rfl
  clear hC hsp hG hm
  have HLE : Hid (G.length = N + 1) := hlen
  have i0 : (0 : Int) ≤ (N : Int) := by omega
  have i1 : (N : Int) < (N : Int) + 1 := by omega
  have i2 : (N : Int) + 1 - 1 = (N : Int) := by omega
  have i3 : IntKind.i64.wrap ((N : Int) + 1 - 1) = (N : Int) := by rw [IntKind.wrap_i64]; omega
  have i4 : (N : Int) ≤ (N : Int) + 1 := by omega
  have hlast : G.getLast? = some (G[N]'(by omega)) := by
    rw [List.getLast?_eq_getElem?, show G.length - 1 = N by omega]
    exact List.getElem?_eq_getElem (by omega)
  obtain ⟨x, hxx⟩ : ∃ x, x = G[N]'(by omega) := ⟨_, rfl⟩
  rw [← hxx] at hlast
  have HX : Hid (∀ W : World, SR W w.heap.size G → W.cell? ⟨w.heap.size, N, none⟩ = some (.string (bs x))) := fun W h => by rw [hxx]; exact h N (by omega)
  clear hxx hN hlen hne
  rcases hcs with ⟨h1, h2⟩ | ⟨h1, h2⟩
  · have hx0 : x = [] := by rw [hlast] at h1; exact Option.some.inj h1
    subst hx0
    have he := bs_emp []
    rw [decide_eq_true rfl] at he
    have HE : Hid (ln s.data.toList = G.dropLast) := h2
    clear h1 h2 hlast
    go_enter Tryz.func8, Tryz.ntmps8
    go_wp2_with (first
      | (go_at_call 21; (with_reducible refine Calls.mono C.out ?_); rintro e w1 ⟨rfl, hS, hb, hl⟩; have hcl := HX.out _ hS; have HR : Hid (SR w1 w.heap.size G ∧ Below w.heap.size w w1 ∧ w.heap.size < w1.heap.size) := ⟨hS, hb, hl⟩; clear hS hb hl)
      | fail)
    go_ret
    refine ⟨N + 1, ?_, by rw [HE.out]; exact sr_take HR.out.1, HR.out.2⟩
    rw [HE.out, List.length_dropLast, HLE.out]
    rfl
  · have hx0 : x ≠ [] := by rw [hlast] at h1; exact fun e => h1 (by rw [e])
    have he := bs_emp x
    rw [decide_eq_false hx0] at he
    have HE : Hid (ln s.data.toList = G) := h2
    clear h1 h2 hlast hx0
    go_enter Tryz.func8, Tryz.ntmps8
    go_wp2_with (first
      | (go_at_call 21; (with_reducible refine Calls.mono C.out ?_); rintro e w1 ⟨rfl, hS, hb, hl⟩; have hcl := HX.out _ hS; have HR : Hid (SR w1 w.heap.size G ∧ Below w.heap.size w w1 ∧ w.heap.size < w1.heap.size) := ⟨hS, hb, hl⟩; clear hS hb hl)
      | fail)
    go_ret
    refine ⟨N + 1, ?_, by rw [HE.out]; exact HR.out.1, HR.out.2⟩
    rw [HE.out, HLE.out]
    rfl

theorem rd_none (inn : Nat → Nat → List Int → E4 → Bool) {st : RS} {Ls : List (List UInt8)} {a : Nat} (ha : a ≤ Ls.length) (hn : nx a (Ls.drop a) = none) : rdF inn st a (Ls.drop a) = rdF inn st Ls.length [] := by
  rw [rdF_none inn _ a st hn, List.length_drop, show a + (Ls.length - a) = Ls.length by omega]
theorem nx_lt {Ls : List (List UInt8)} {a j : Nat} {ws : List (List UInt8)} (ha : a ≤ Ls.length) (hn : nx a (Ls.drop a) = some (j, ws)) : a ≤ j ∧ j < Ls.length ∧ ws ≠ [] := by
  have h := nx_le _ _ _ _ hn
  rw [List.length_drop] at h
  exact ⟨h.1, by omega, h.2.2⟩
theorem rd_some (inn : Nat → Nat → List Int → E4 → Bool) {st : RS} {Ls : List (List UInt8)} {a j : Nat} {ws : List (List UInt8)} (ha : a ≤ Ls.length) (hn : nx a (Ls.drop a) = some (j, ws)) : rdF inn st a (Ls.drop a) = if (stp inn st ws).1 = 0 then rdF inn (stp inn st ws).2 (j + 1) (Ls.drop (j + 1)) else ((stp inn st ws).1, j + 1, st) := by
  have h := nx_lt ha hn
  rw [rdF_some inn _ a j ws st hn, List.drop_drop, show a + (j + 1 - a) = j + 1 by omega]
theorem row_none (inn : Nat → Nat → List Int → E4 → Bool) {W H k a : Nat} {m : List Int} {cs : List C5} {Ls : List (List UInt8)} (ha : a ≤ Ls.length) (hk : k < H) (hn : nx a (Ls.drop a) = none) : rdF inn ⟨W, H, k, m, cs⟩ a (Ls.drop a) = (1, Ls.length + 1, ⟨W, H, k, m, cs⟩) := by
  rw [rd_none inn ha hn, rdF, if_pos (Or.inr hk)]
theorem row_stp (inn : Nat → Nat → List Int → E4 → Bool) {W H k : Nat} {m : List Int} {cs : List C5} (hW : 1 ≤ W) (hk : k < H) (ws : List (List UInt8)) : stp inn ⟨W, H, k, m, cs⟩ ws = (if rowOk W ws then 0 else 1, ⟨W, H, k + 1, stM m ((H - 1 - k) * W) (getW ws 0), cs⟩) := by
  unfold stp
  rw [if_neg (show ¬ W = 0 by omega), if_pos hk]
theorem row_bad (inn : Nat → Nat → List Int → E4 → Bool) {W H k a j : Nat} {m : List Int} {cs : List C5} {Ls ws : List (List UInt8)} (ha : a ≤ Ls.length) (hW : 1 ≤ W) (hk : k < H) (hn : nx a (Ls.drop a) = some (j, ws)) (hr : rowOk W ws = false) : rdF inn ⟨W, H, k, m, cs⟩ a (Ls.drop a) = (1, j + 1, ⟨W, H, k, m, cs⟩) := by
  rw [rd_some inn ha hn, row_stp inn hW hk, hr]
  simp
theorem row_good (inn : Nat → Nat → List Int → E4 → Bool) {W H k a j : Nat} {m : List Int} {cs : List C5} {Ls ws : List (List UInt8)} (ha : a ≤ Ls.length) (hW : 1 ≤ W) (hk : k < H) (hn : nx a (Ls.drop a) = some (j, ws)) (hr : rowOk W ws = true) : rdF inn ⟨W, H, k, m, cs⟩ a (Ls.drop a) = rdF inn ⟨W, H, k + 1, stM m ((H - 1 - k) * W) (getW ws 0), cs⟩ (j + 1) (Ls.drop (j + 1)) := by
  rw [rd_some inn ha hn, row_stp inn hW hk, hr]
  simp
theorem rowOk_len {W : Nat} {ws : List (List UInt8)} (h : ws.length ≠ 1) : rowOk W ws = false := by simp [rowOk, h]
theorem rowOk_wide {W : Nat} {x : List UInt8} (h : x.length ≠ W) : rowOk W [x] = false := by simp [rowOk, getW, h]
theorem rowOk_bad {W : Nat} {x : List UInt8} {i : Nat} (hi : i < x.length) (h : ltr x[i] = none) : rowOk W [x] = false := by
  have hn : (x.all fun c => (ltr c).isSome) = false := by
    rw [List.all_eq_false]
    exact ⟨x[i], List.getElem_mem hi, by rw [h]; decide⟩
  simp only [rowOk, getW, List.getD_cons_zero, hn, Bool.and_false]
theorem rowOk_yes {W : Nat} {x : List UInt8} (hl : x.length = W) (h : ∀ i (hi : i < x.length), (ltr x[i]).isSome = true) : rowOk W [x] = true := by
  have hn : (x.all fun c => (ltr c).isSome) = true := by
    rw [List.all_eq_true]
    intro c hc
    obtain ⟨i, hi, rfl⟩ := List.mem_iff_getElem.1 hc
    exact h i hi
  simp [rowOk, getW, hl, hn]
/-- A mask in memory. -/
def MI (w : World) (mb : Nat) (m : List Int) : Prop := ∀ i (h : i < m.length), w.cell? ⟨mb, i, none⟩ = some (.int .i64 m[i]) ∧ w.frozen? ⟨mb, i, none⟩ = false
theorem MI.kept {w wx : World} {mb : Nat} {m : List Int} (h : MI w mb m) (hb : Below w.heap.size w wx) : MI wx mb m := fun i hi => ⟨cl_kept hb (h i hi).1, (hb.frozen (p := ⟨mb, i, none⟩) (World.block_lt_of_cell? _ _ (h i hi).1)).trans (h i hi).2⟩
theorem MI.grown {w wx : World} {mb r : Nat} {m : List Int} (h : MI w mb m) (hg : w.grownBy wx (some r)) (hne : mb ≠ r) : MI wx mb m := fun i hi => by
  have hlt := World.block_lt_of_cell? _ _ (h i hi).1
  refine ⟨grown_cl hg hne (h i hi).1, ?_⟩
  have hb := hg.block mb hlt (fun e => hne (by simpa using e))
  have := (h i hi).2
  unfold World.frozen? at *
  rw [hb]
  exact this
theorem MI.set {w : World} {mb i : Nat} {m : List Int} (h : MI w mb m) (v : Int) (hi : i < m.length) : MI (w.setCell ⟨mb, i, none⟩ (.int .i64 v)) mb (m.set i v) := by
  intro j hj0
  have hj : j < m.length := by rw [List.length_set] at hj0; exact hj0
  refine ⟨?_, by rw [World.frozen?_setCell]; exact (h j hj).2⟩
  by_cases e : j = i
  · subst e
    rw [World.cell?_setCell_same _ _ _ (h j hj).1]
    simp
  · rw [World.cell?_setCell_other _ _ _ _ (by simp <;> omega), (h j hj).1, List.getElem_set_ne (fun e2 => e e2.symm)]
theorem MI.row {w : World} {mb : Nat} {m : List Int} (h : MI w mb m) : Row w (some ⟨mb, 0, none⟩) m := fun i hi => ⟨mb, 0, rfl, by rw [Nat.zero_add]; exact (h i hi).1⟩
theorem make22 (N : Nat) (hN : N ≤ 64) : ∃ CC : Array Value, (∀ i, i < N → CC[i]? = some (.int .i64 0)) ∧ ∀ V : World, (Instr.makeSlice 22 (.int .i64 (N : Int)) (.int .i64 (N : Int))).run Tryz.prog V = .ok (.slice (some ⟨V.heap.size, 0, none⟩) N N) (V.alloc (.cells CC 3)) := by
  have inf3 : (Tryz.prog.info? 3).map (fun i => (i.zero, i.size, i.bytes)) = some (some (.int .i64 0), 1, 8) := by kernel_rfl
  obtain ⟨i3, hi, hz0, hz1, hz2⟩ := info_parts inf3
  refine ⟨madeCells (Value.int .i64 0).cells (N * 1), fun i h => ?_, fun V => ?_⟩
  · simp [madeCells, Value.cells, h, Nat.mod_one]
  · have := run_make (P := Tryz.prog) (w := V) 22 3 i3 (.int .i64 0) Tryz.underlying22 hi hz0 .i64 .i64 (N : Int) (N : Int) (by omega) (by omega) (by rw [hz2]; omega) (by omega)
    rw [this, hz1, Int.toNat_natCast]
end Go.Proofs.YtehmoacggikfmaaGreatDoor
