/- Rows of cells are read. -/
import Derived.Test.YtehmoacggikfmaaGreatDoorQlbb
namespace Go.Proofs.YtehmoacggikfmaaGreatDoor
open Go.RowKit

/-- What rows leave in memory while they are read. -/
def RI (w wx : World) (rb mb N a : Nat) (m : List Int) : Prop :=
  Chg w wx rb [4, 1] ∧ wx.cell? ⟨rb, 1, none⟩ = some (.int .i64 (a : Int)) ∧ wx.cell? ⟨rb, 4, none⟩ = some (.slice (some ⟨mb, 0, none⟩) N N) ∧ MI wx mb m ∧ w.heap.size ≤ mb ∧ mb < wx.heap.size
theorem RI.ne {w wx : World} {rb mb N a : Nat} {m : List Int} (h : RI w wx rb mb N a m) : mb ≠ rb := by
  have h1 := h.1.2.2.2
  have h2 := h.2.2.2.2.1
  omega
theorem RI.kept {w wr wx : World} {rb mb N a : Nat} {m : List Int} (h : RI w wr rb mb N a m) (hb : Below wr.heap.size wr wx) : RI w wx rb mb N a m :=
  ⟨h.1.kept hb, cl_kept hb h.2.1, cl_kept hb h.2.2.1, h.2.2.2.1.kept hb, h.2.2.2.2.1, Nat.lt_of_lt_of_le h.2.2.2.2.2 hb.size⟩
theorem RI.adv {w wr wx : World} {rb mb N a b : Nat} {m : List Int} (h : RI w wr rb mb N a m) (k : Adv wr wx rb (b : Int)) : RI w wx rb mb N b m := by
  have hl : rb < wr.heap.size := Nat.lt_of_lt_of_le h.1.2.2.2 h.1.1.size
  refine ⟨(h.1.then (k.chg hl)).mono (by simp), k.2.1, (k.2.2.1 4 (by decide)).trans h.2.2.1, h.2.2.2.1.grown k.1 h.ne, h.2.2.2.2.1, Nat.lt_of_lt_of_le h.2.2.2.2.2 k.1.size⟩
theorem Chg.other {w wx : World} {rb mb i : Nat} {os : List Nat} (h : Chg w wx rb os) (hm : w.heap.size ≤ mb) (v : Value) : Chg w (wx.setCell ⟨mb, i, none⟩ v) rb os := by
  have hne : rb ≠ mb := by have := h.2.2.2; omega
  refine ⟨⟨h.1.os, h.1.tape, h.1.output, ?_, fun k hk hn => ?_⟩, fun o ho => ?_, fun o => ?_, h.2.2.2⟩
  · have := h.1.size
    simpa using this
  · rw [← h.1.block k hk hn]
    exact Below.heap_setCell _ _ _ k (fun e => by simp at e; omega)
  · rw [World.cell?_setCell_other _ _ _ _ (by first | (simp; done) | (simp; exact Or.inl hne)), h.2.1 o ho]
  · rw [World.frozen?_setCell]
    exact h.2.2.1 o
theorem RI.put {w wx : World} {rb mb N a i : Nat} {m : List Int} (h : RI w wx rb mb N a m) (v : Int) (hi : i < m.length) : RI w (wx.setCell ⟨mb, i, none⟩ (.int .i64 v)) rb mb N a (m.set i v) := by
  have hne := h.ne
  have c : ∀ o, (wx.setCell ⟨mb, i, none⟩ (.int .i64 v)).cell? ⟨rb, o, none⟩ = wx.cell? ⟨rb, o, none⟩ := fun o => World.cell?_setCell_other _ _ _ _ (by first | (simp; done) | (simp; exact Or.inl (Ne.symm hne)))
  refine ⟨h.1.other h.2.2.2.2.1 _, (c 1).trans h.2.1, (c 4).trans h.2.2.1, h.2.2.2.1.set v hi, h.2.2.2.2.1, ?_⟩
  have := h.2.2.2.2.2
  simpa using this
/-- What is known of the rows so far. -/
def RJ (inn : Nat → Nat → List Int → E4 → Bool) (W H a : Nat) (Ls : List (List UInt8)) (q b : Nat) (m : List Int) : Prop :=
  q ≤ H ∧ b ≤ Ls.length ∧ m.length = W * H ∧ (∀ z ∈ m, 0 ≤ z ∧ z ≤ 15) ∧ rdF inn ⟨W, H, 0, List.replicate (W * H) 0, []⟩ a (Ls.drop a) = rdF inn ⟨W, H, H - q, m, []⟩ b (Ls.drop b)
/-- What readRows answers. -/
def RowsTo (inn : Nat → Nat → List Int → E4 → Bool) (W H a rb : Nat) (Ls : List (List UInt8)) (wf w w' : World) (e : Ending) : Prop :=
  (∃ (c : Int) (n : Nat) (st : RS), e = PF c (n : Int) ∧ c ≠ 0 ∧ rdF inn ⟨W, H, 0, List.replicate (W * H) 0, []⟩ a (Ls.drop a) = (c, n, st) ∧ w.grownBy w' (some rb)) ∨
  (∃ (m : List Int) (b mb : Nat) (ad : Option Addr) (cc base pb ra rk : Nat), e = .returned (.tuple #[]) ∧ RJ inn W H a Ls 0 b m ∧ Chg w w' rb [7, 6, 5, 4, 1] ∧ w'.cell? ⟨rb, 1, none⟩ = some (.int .i64 (b : Int)) ∧ w'.cell? ⟨rb, 4, none⟩ = some (.slice (some ⟨mb, 0, none⟩) (W * H) (W * H)) ∧ MI w' mb m ∧ w.heap.size ≤ mb ∧ mb < w'.heap.size ∧
    w'.cell? ⟨rb, 5, none⟩ = some (.slice ad (ty m W H).length cc) ∧ w'.cell? ⟨rb, 6, none⟩ = some (.map (some ra)) ∧ w'.cell? ⟨rb, 7, none⟩ = some (.map (some rk)) ∧ PP wf w' base pb ra rk (.slice ad (ty m W H).length cc) (ty m W H) (gix (ty m W H)) ∧ rb < base)
theorem bs_get (x : List UInt8) (i : Nat) (_h : i < x.length) (h2 : i < (bs x).size) : (bs x)[i] = x[i] := rfl
theorem rows_die {inn : Nat → Nat → List Int → E4 → Bool} {W H a rb q b n : Nat} {Ls : List (List UInt8)} {wf w w' : World} {m : List Int} {st : RS} (hj : RJ inn W H a Ls q b m) (hd : rdF inn ⟨W, H, H - q, m, []⟩ b (Ls.drop b) = (1, n, st)) (hg : w.grownBy w' (some rb)) : RowsTo inn W H a rb Ls wf w w' (PF 1 (n : Int)) :=
  Or.inl ⟨1, n, st, rfl, by decide, hj.2.2.2.2.trans hd, hg⟩
/-- All letters before a place are letters. -/
def LOK (x : List UInt8) (i : Nat) : Prop := ∀ k (h : k < x.length), k < i → (ltr x[k]).isSome = true
theorem LOK.next {x : List UInt8} {i v : Nat} (h : LOK x i) (hi : i < x.length) (hv : ltr x[i] = some v) : LOK x (i + 1) := fun k hk hki => by
  by_cases e : k = i
  · subst e
    rw [hv]
    rfl
  · exact h k hk (by omega)
theorem stM_take {x : List UInt8} {i v : Nat} (m : List Int) (B : Nat) (hi : i < x.length) (hv : ltr x[i] = some v) : stM m B (x.take (i + 1)) = (stM m B (x.take i)).set (B + i) (v : Int) := by
  rw [List.take_succ_eq_append_getElem hi, stM_snoc, List.length_take, Nat.min_eq_left (Nat.le_of_lt hi)]
  unfold ltI
  rw [hv]
  rfl
theorem idx_letter (c : UInt8) : Lib.indexByte ltrs (c.toNat : Int).toNat.toUInt8 = leI c := by
  have h : (c.toNat : Int).toNat.toUInt8 = c := by simp
  rw [h]
  exact ltr_index c
theorem leI_some {c : UInt8} {v : Nat} (h : ltr c = some v) : leI c = (v : Int) := by unfold leI; rw [h]
theorem leI_none {c : UInt8} (h : ltr c = none) : leI c = -1 := by unfold leI; rw [h]
theorem RJ.row {inn : Nat → Nat → List Int → E4 → Bool} {W H a y b j : Nat} {Ls : List (List UInt8)} {m : List Int} {x : List UInt8} (h : RJ inn W H a Ls (y + 1) b m) (hW : 1 ≤ W) (hn : nx b (Ls.drop b) = some (j, [x])) (hx : x.length = W) (hl : LOK x W) (hj : j < Ls.length) : RJ inn W H a Ls y (j + 1) (stM m (y * W) x) := by
  obtain ⟨h1, h2, h3, h4, h5⟩ := h
  refine ⟨by omega, by omega, by rw [stM_length, h3], stM_bd _ _ _ h4, h5.trans ?_⟩
  rw [row_good inn h2 hW (by omega) hn (rowOk_yes hx (fun i hi => hl i hi (by omega))), show H - 1 - (H - (y + 1)) = y by omega, show H - (y + 1) + 1 = H - y by omega]
  rfl
theorem gb_dr {rb : Nat} (w : World) : w.grownBy w.drew (some rb) := ⟨rfl, rfl, rfl, Nat.le_refl _, fun _ _ _ => rfl⟩
theorem gb_adv {w wr wx : World} {rb mb N a : Nat} {n : Int} {m : List Int} (h : RI w wr rb mb N a m) (k : Adv wr wx rb n) : w.grownBy wx (some rb) := gb_then h.1.1 k.1
set_option maxRecDepth 100000 in
set_option maxHeartbeats 12800000 in
theorem readRows_any (inn : Nat → Nat → List Int → E4 → Bool) (W H a rb lb cap : Nat) (Ls : List (List UInt8)) (v4 v5 v6 v7 : Value) (wf w : World) (hB : BASE w rb lb cap Ls) (hwf : Below wf.heap.size wf w) (hwr : wf.heap.size ≤ rb)
    (hc1 : w.cell? ⟨rb, 1, none⟩ = some (.int .i64 (a : Int))) (hc2 : w.cell? ⟨rb, 2, none⟩ = some (.int .i64 (W : Int))) (hc3 : w.cell? ⟨rb, 3, none⟩ = some (.int .i64 (H : Int))) (hc4 : w.cell? ⟨rb, 4, none⟩ = some v4) (hc5 : w.cell? ⟨rb, 5, none⟩ = some v5) (hc6 : w.cell? ⟨rb, 6, none⟩ = some v6) (hc7 : w.cell? ⟨rb, 7, none⟩ = some v7)
    (hW : 1 ≤ W ∧ W ≤ 8) (hH : 1 ≤ H ∧ H ≤ 8) (ha : a ≤ Ls.length) : Calls Tryz.prog 10 #[.pointer (some ⟨rb, 0, none⟩)] w fun e w' => RowsTo inn W H a rb Ls wf w w' e := by
  obtain ⟨N, hN⟩ : ∃ N, N = W * H := ⟨_, rfl⟩
  have hN64 : N ≤ 64 := by rw [hN]; exact Nat.le_trans (Nat.mul_le_mul hW.2 hH.2) (by decide)
  have hwh : IntKind.i64.wrap ((W : Int) * (H : Int)) = (N : Int) := by
    rw [← Int.natCast_mul, ← hN, IntKind.wrap_i64]
    omega
  obtain ⟨CC, hCC, hmk⟩ := make22 N hN64
  have HB : Hid (BASE w rb lb cap Ls) := hB
  have HN : Hid (N = W * H) := hN
  have HWF : Hid (Below wf.heap.size wf w ∧ wf.heap.size ≤ rb) := ⟨hwf, hwr⟩
  have hrl : rb < w.heap.size := hB.lt
  have hf4 := hB.fz 4
  have hrn : ¬ rb = w.heap.size := by omega
  have hrn2 : ¬ w.heap.size = rb := by omega
  have HC5 : Hid (w.cell? ⟨rb, 5, none⟩ = some v5 ∧ w.cell? ⟨rb, 6, none⟩ = some v6 ∧ w.cell? ⟨rb, 7, none⟩ = some v7) := ⟨hc5, hc6, hc7⟩
  have HC2 : Hid (w.cell? ⟨rb, 2, none⟩ = some (.int .i64 (W : Int)) ∧ w.cell? ⟨rb, 3, none⟩ = some (.int .i64 (H : Int))) := ⟨hc2, hc3⟩
  obtain ⟨w0, hw0⟩ : ∃ v, v = ((w.setCell ⟨rb, 4, none⟩ (.slice (some ⟨w.heap.size, 0, none⟩) N N)).alloc (.cells CC 3)).drew := ⟨_, rfl⟩
  have HI0 : Hid (RI w w0 rb w.heap.size N a (List.replicate N 0)) := by
    obtain ⟨ws, hws⟩ : ∃ v, v = w.setCell ⟨rb, 4, none⟩ (.slice (some ⟨w.heap.size, 0, none⟩) N N) := ⟨_, rfl⟩
    have hz : ws.heap.size = w.heap.size := by rw [hws]; simp
    have hb0 : Below ws.heap.size ws (ws.alloc (.cells CC 3)).drew := bl_drew (bl_alloc (bl_refl _))
    have hch : Chg w ws rb [4] := by rw [hws]; exact (Chg.refl hrl).set 4 _
    show RI w w0 rb w.heap.size N a (List.replicate N 0)
    rw [hw0, ← hws]
    refine ⟨(hch.kept hb0).mono (by simp), cl_kept hb0 ?_, cl_kept hb0 ?_, ?_, Nat.le_refl _, ?_⟩
    · exact (hch.2.1 1 (by decide)).trans hc1
    · rw [hws]
      exact World.cell?_setCell_same _ _ _ hc4
    · intro i hi
      have hi2 : i < N := by simpa using hi
      refine ⟨?_, ?_⟩
      · show (ws.alloc (.cells CC 3)).cell? ⟨w.heap.size, i, none⟩ = _
        rw [← hz, World.cell?_alloc_new, hCC i hi2]
        simp
      · rw [← hz]
        simp [go_sem]
    · show w.heap.size < (ws.alloc (.cells CC 3)).heap.size
      rw [← hz]
      simp
  have HJ0 : Hid (RJ inn W H a Ls H a (List.replicate N 0)) := ⟨Nat.le_refl _, ha, by rw [List.length_replicate, HN.out], fun z hz => by have := List.eq_of_mem_replicate hz; omega, by rw [Nat.sub_self, HN.out]⟩
  clear hB hwf hwr hc5 hc6 hc7 hCC hN
  go_enter Tryz.func10, Tryz.ntmps10
  go_wp2
  go_region_held3 (fun w' => w'.cell? ⟨rb, 2, none⟩ = some (.int .i64 (W : Int)) ∧ w'.cell? ⟨rb, 3, none⟩ = some (.int .i64 (H : Int)))
    (first | exact ⟨dr_old hc2, dr_old hc3⟩ | (refine ⟨?_, ?_⟩ <;> (simp [go_sem, *]; done)))
    (fail)
  rw [← hw0]
  clear hw0 hmk hwh hc4 hf4 hc1
  have p3 : w0.cell? ⟨rb, 3, none⟩ = some (.int .i64 (H : Int)) := (HI0.out.1.2.1 3 (by decide)).trans HC2.out.2
  clear hc2 hc3
  go_wp2
  go_loopg [2] H (fun g s2 wx => ∃ (q b : Nat) (t : Int) (m : List Int), q = g ∧ s2 = .int .i64 t ∧ t = (q : Int) - 1 ∧ RJ inn W H a Ls q b m ∧ RI w wx rb w.heap.size N b m)
  case atStart => exact ⟨H, a, (H : Int) - 1, List.replicate N 0, rfl, rfl, rfl, HJ0.out, HI0.out⟩
  case round =>
    clear HI0 HJ0 p3
    obtain ⟨q, b, t, m, rfl, rfl, ht, hj, hi⟩ := hrel
    have HJ : Hid (RJ inn W H a Ls q b m) := hj
    have HI : Hid (RI w wr rb w.heap.size N b m) := hi
    clear hj hi
    have HBr : Hid (BASE wr rb lb cap Ls) := HB.out.chg HI.out.1 (by simp)
    have p1 := HI.out.2.1
    have p2 : wr.cell? ⟨rb, 2, none⟩ = some (.int .i64 (W : Int)) := (HI.out.1.2.1 2 (by decide)).trans HC2.out.1
    have p3 : wr.cell? ⟨rb, 3, none⟩ = some (.int .i64 (H : Int)) := (HI.out.1.2.1 3 (by decide)).trans HC2.out.2
    have p4 := HI.out.2.2.1
    by_cases hq : q = 0
    · subst hq
      obtain rfl : t = -1 := by omega
      clear ht
      have hml : m.length = N := by rw [HJ.out.2.2.1, HN.out]
      have C27 : Hid (∀ V : World, Below wr.heap.size wr V → Calls Tryz.prog 27 #[.int .i64 (W : Int), .int .i64 (H : Int), .slice (some ⟨w.heap.size, 0, none⟩) N N] V fun e w' => ∃ ad cc base pb ra rk, e = .returned (.agg #[.slice ad (ty m W H).length cc, .map (some ra), .map (some rk)]) ∧ PP V w' base pb ra rk (.slice ad (ty m W H).length cc) (ty m W H) (gix (ty m W H))) := fun V hb => by
        have h2 := of_any W H w.heap.size 0 N m V (HBr.out.st.kept hb) (HI.out.2.2.2.1.row.kept hb) hW hH HJ.out.2.2.1 (by simpa [maskB] using HJ.out.2.2.2.1)
        rw [hml] at h2
        exact h2
      have r5 : wr.cell? ⟨rb, 5, none⟩ = some v5 := (HI.out.1.2.1 5 (by decide)).trans HC5.out.1
      have r6 : wr.cell? ⟨rb, 6, none⟩ = some v6 := (HI.out.1.2.1 6 (by decide)).trans HC5.out.2.1
      have r7 : wr.cell? ⟨rb, 7, none⟩ = some v7 := (HI.out.1.2.1 7 (by decide)).trans HC5.out.2.2
      have hrr : rb < wr.heap.size := World.block_lt_of_cell? _ _ r5
      have f5 := HBr.out.fz 5
      have f6 := HBr.out.fz 6
      have f7 := HBr.out.fz 7
      clear hml
      go_wp2
      go_region_held3 (fun w' => w'.cell? ⟨rb, 2, none⟩ = some (.int .i64 (W : Int)) ∧ w'.cell? ⟨rb, 3, none⟩ = some (.int .i64 (H : Int)) ∧ w'.cell? ⟨rb, 4, none⟩ = some (.slice (some ⟨w.heap.size, 0, none⟩) N N))
        (first | exact ⟨dr_old p2, dr_old p3, dr_old p4⟩ | exact ⟨q2, q3, q4⟩ | (refine ⟨?_, ?_, ?_⟩ <;> (simp [go_sem, *]; done)))
        ((go_at_call 27; (with_reducible refine (C27.out _ (bl_drew (bl_refl _))).mono ?_); rintro e w5 ⟨ad, cc, base, pb, ra, rk, rfl, hpp⟩; have hb5 := bl_via (bl_drew (bl_refl _)) hpp.2.2.2.2.2; have q2 := cl_kept hb5 p2; have q3 := cl_kept hb5 p3; have q4 := cl_kept hb5 p4; have q5 := cl_kept hb5 r5; have q6 := cl_kept hb5 r6; have q7 := cl_kept hb5 r7; have g5 : w5.frozen? ⟨rb, 5, none⟩ = false := (hb5.frozen (p := ⟨rb, 5, none⟩) hrr).trans f5; have g6 : w5.frozen? ⟨rb, 6, none⟩ = false := (hb5.frozen (p := ⟨rb, 6, none⟩) hrr).trans f6; have g7 : w5.frozen? ⟨rb, 7, none⟩ = false := (hb5.frozen (p := ⟨rb, 7, none⟩) hrr).trans f7; have HPP : Hid (PP wr.drew w5 base pb ra rk (.slice ad (ty m W H).length cc) (ty m W H) (gix (ty m W H))) := hpp; have HB5 : Hid (Below wr.heap.size wr w5) := hb5; clear hpp hb5))
      clear p1 p2 p3 p4 r5 r6 r7 f5 f6 f7
      go_wp2
      first | go_ret | go_end0
      have hch5 : Chg w w5 rb [4, 1] := HI.out.1.kept HB5.out
      have q1 := cl_kept HB5.out HI.out.2.1
      have hgr : w5.grownBy (((w5.setCell ⟨rb, 5, none⟩ (.slice ad (ty m W H).length cc)).setCell ⟨rb, 6, none⟩ (.map (some ra))).setCell ⟨rb, 7, none⟩ (.map (some rk))) (some rb) := gb_then (gb_then (grown_cell _ rb 5 _) (grown_cell _ rb 6 _)) (grown_cell _ rb 7 _)
      have hpp := HPP.out
      obtain ⟨-, -, -, -, ⟨a1, a2, a3, a4, a5, a6, a7, a8⟩, -⟩ := HPP.out
      have hsd : wr.drew.heap.size = wr.heap.size := rfl
      rw [hsd] at a1 a3 a5
      have hwfr : Below wf.heap.size wf wr.drew := by
        have h2 := HWF.out
        have h3 := (h2.1.grown HI.out.1.1 h2.1.size (fun k hk => by simp at hk; omega))
        exact ⟨h3.os, h3.tape, h3.output, h3.size, h3.block⟩
      refine Or.inr ⟨m, b, w.heap.size, ad, cc, base, pb, ra, rk, rfl, HJ.out, ((hch5.set 5 _).set 6 _).set 7 _, ?_, ?_, (HI.out.2.2.2.1.kept HB5.out).grown hgr HI.out.ne, Nat.le_refl _, ?_, ?_, ?_, ?_, hpp.rebase hwfr hgr HWF.out.2 (by omega) (by omega) (by omega) (by omega), by omega⟩
      · simp [go_sem, q1]
      · rw [← HN.out]
        simp [go_sem, q4]
      · have h2 := HI.out.2.2.2.2.2
        have h3 := HB5.out.size
        simp
        omega
      · simp [go_sem, q5]
      · simp [go_sem, q6]
      · simp [go_sem, q7]
    · obtain ⟨y, rfl⟩ : ∃ y, q = y + 1 := ⟨q - 1, by omega⟩
      obtain rfl : t = (y : Int) := by omega
      clear ht hq
      have y0 : (0 : Int) ≤ (y : Int) := by omega
      have hyH : y + 1 ≤ H := HJ.out.1
      have hkk : H - (y + 1) < H := by omega
      cases hnx : nx b (Ls.drop b) with
      | none =>
        have C : Hid (C22N wr rb ((Ls.length : Int) + 1)) := words_n cut_any wrd_any HBr.out p1 HJ.out.2.1 hnx
        have HD : Hid (rdF inn ⟨W, H, H - (y + 1), m, []⟩ b (Ls.drop b) = (1, Ls.length + 1, ⟨W, H, H - (y + 1), m, []⟩)) := row_none inn HJ.out.2.1 hkk hnx
        clear hnx
        go_wp2_with (first
          | (go_at_call 22; (with_reducible refine Calls.mono C.out ?_); rintro e w1 ⟨rfl, hA⟩; have hc := hA.2.1; have HA : Hid (Adv wr w1 rb ((Ls.length : Int) + 1)) := hA; clear hA)
          | fail)
        refine wp_region_held_drew (S := fun w' => w'.cell? ⟨rb, 1, none⟩ = some (.int .i64 ((Ls.length : Int) + 1))) (by kernel_rfl) (dr_old hc) (fun hHeld => ?_)
        try simp only [Act.put, List.getElem_toArray, List.getElem_cons_succ, List.getElem_cons_zero, List.setIfInBounds_toArray, List.set_cons_zero, List.set_cons_succ]
        refine wpAnyH_take (i := 0) (v := .pointer (some ⟨rb, 0, none⟩)) rfl (by kernel_rfl) (by kernel_rfl) (by kernel_rfl) (fun _ _ _ h => h) (Or.inl ⟨by rfl, ?hyy⟩) (by assumption) ?_
        case hyy => (intro w' hSw; (try dsimp only at hSw); go_simp)
        try simp only [Act.put, List.getElem_toArray, List.getElem_cons_zero, List.setIfInBounds_toArray, List.set_cons_zero, List.set_cons_succ]
        refine wpAnyH_take (i := 1) (v := .slice none 0 0) rfl (by kernel_rfl) (by kernel_rfl) (by kernel_rfl) (fun _ _ _ h => h) (Or.inl ⟨by rfl, ?hyy⟩) (by assumption) ?_
        case hyy => (intro w' hSw; (try dsimp only at hSw); go_simp)
        try simp only [Act.put, List.getElem_toArray, List.getElem_cons_succ, List.getElem_cons_zero, List.setIfInBounds_toArray, List.set_cons_zero, List.set_cons_succ]
        refine wpAnyH_take (i := 2) (v := .int .i64 0) rfl (by kernel_rfl) (by kernel_rfl) (by kernel_rfl) (fun _ _ _ h => h) (Or.inl ⟨by rfl, ?hyy⟩) (by assumption) ?_
        case hyy => (intro w' hSw; (try dsimp only at hSw); go_simp)
        try simp only [Act.put, List.getElem_toArray, List.getElem_cons_succ, List.getElem_cons_zero, List.setIfInBounds_toArray, List.set_cons_zero, List.set_cons_succ]
        refine wpAnyH_take (i := 3) (v := .bool true) rfl (by kernel_rfl) (by kernel_rfl) (by kernel_rfl) (fun _ _ _ h => h) (Or.inl ⟨by rfl, ?hyy⟩) (by assumption) ?_
        case hyy => (intro w' hSw; (try dsimp only at hSw); go_simp)
        try simp only [Act.put, List.getElem_toArray, List.getElem_cons_succ, List.getElem_cons_zero, List.setIfInBounds_toArray, List.set_cons_zero, List.set_cons_succ]
        refine wpAnyH_take (i := 4) (v := .bool true) rfl (by kernel_rfl) (by kernel_rfl) (by kernel_rfl) (fun _ _ _ h => h) (Or.inl ⟨by rfl, ?hyy⟩) (by assumption) ?_
        case hyy => (intro w' hSw; (try dsimp only at hSw); go_simp)
        try simp only [Act.put, List.getElem_toArray, List.getElem_cons_succ, List.getElem_cons_zero, List.setIfInBounds_toArray, List.set_cons_zero, List.set_cons_succ]
        refine wpAnyH_take (i := 5) (v := undef) rfl (by kernel_rfl) (by kernel_rfl) (by kernel_rfl) (fun _ _ _ h => h) (Or.inr ⟨by rfl, rfl⟩) (by assumption) ?_
        try simp only [Act.put, List.getElem_toArray, List.getElem_cons_succ, List.getElem_cons_zero, List.setIfInBounds_toArray, List.set_cons_zero, List.set_cons_succ]
        refine wpAnyH_take (i := 6) (v := undef) rfl (by kernel_rfl) (by kernel_rfl) (by kernel_rfl) (fun _ _ _ h => h) (Or.inr ⟨by rfl, rfl⟩) (by assumption) ?_
        try simp only [Act.put, List.getElem_toArray, List.getElem_cons_succ, List.getElem_cons_zero, List.setIfInBounds_toArray, List.set_cons_zero, List.set_cons_succ]
        refine wpAnyH_take (i := 7) (v := undef) rfl (by kernel_rfl) (by kernel_rfl) (by kernel_rfl) (fun _ _ _ h => h) (Or.inr ⟨by rfl, rfl⟩) (by assumption) ?_
        try simp only [Act.put, List.getElem_toArray, List.getElem_cons_succ, List.getElem_cons_zero, List.setIfInBounds_toArray, List.set_cons_zero, List.set_cons_succ]
        refine wpAnyH_take (i := 8) (v := undef) rfl (by kernel_rfl) (by kernel_rfl) (by kernel_rfl) (fun _ _ _ h => h) (Or.inr ⟨by rfl, rfl⟩) (by assumption) ?_
        try simp only [Act.put, List.getElem_toArray, List.getElem_cons_succ, List.getElem_cons_zero, List.setIfInBounds_toArray, List.set_cons_zero, List.set_cons_succ]
        refine wpAnyH_take (i := 9) (v := undef) rfl (by kernel_rfl) (by kernel_rfl) (by kernel_rfl) (fun _ _ _ h => h) (Or.inr ⟨by rfl, rfl⟩) (by assumption) ?_
        try simp only [Act.put, List.getElem_toArray, List.getElem_cons_succ, List.getElem_cons_zero, List.setIfInBounds_toArray, List.set_cons_zero, List.set_cons_succ]
        refine wpAnyH_take (i := 10) (v := undef) rfl (by kernel_rfl) (by kernel_rfl) (by kernel_rfl) (fun _ _ _ h => h) (Or.inr ⟨by rfl, rfl⟩) (by assumption) ?_
        try simp only [Act.put, List.getElem_toArray, List.getElem_cons_succ, List.getElem_cons_zero, List.setIfInBounds_toArray, List.set_cons_zero, List.set_cons_succ]
        refine wpAnyH_take (i := 11) (v := undef) rfl (by kernel_rfl) (by kernel_rfl) (by kernel_rfl) (fun _ _ _ h => h) (Or.inr ⟨by rfl, rfl⟩) (by assumption) ?_
        try simp only [Act.put, List.getElem_toArray, List.getElem_cons_succ, List.getElem_cons_zero, List.setIfInBounds_toArray, List.set_cons_zero, List.set_cons_succ]
        refine wpAnyH_take (i := 12) (v := undef) rfl (by kernel_rfl) (by kernel_rfl) (by kernel_rfl) (fun _ _ _ h => h) (Or.inr ⟨by rfl, rfl⟩) (by assumption) ?_
        try simp only [Act.put, List.getElem_toArray, List.getElem_cons_succ, List.getElem_cons_zero, List.setIfInBounds_toArray, List.set_cons_zero, List.set_cons_succ]
        refine wpAnyH_take (i := 13) (v := undef) rfl (by kernel_rfl) (by kernel_rfl) (by kernel_rfl) (fun _ _ _ h => h) (Or.inr ⟨by rfl, rfl⟩) (by assumption) ?_
        try simp only [Act.put, List.getElem_toArray, List.getElem_cons_succ, List.getElem_cons_zero, List.setIfInBounds_toArray, List.set_cons_zero, List.set_cons_succ]
        refine wpAnyH_take (i := 14) (v := .bool true) rfl (by kernel_rfl) (by kernel_rfl) (by kernel_rfl) (fun _ _ _ h => h) (Or.inl ⟨by rfl, ?hyy⟩) (by assumption) ?_
        case hyy => (intro w' hSw; (try dsimp only at hSw); go_simp)
        try simp only [Act.put, List.getElem_toArray, List.getElem_cons_succ, List.getElem_cons_zero, List.setIfInBounds_toArray, List.set_cons_zero, List.set_cons_succ]
        refine wpAnyH_ready (rs := [15]) (by kernel_rfl) (by simp) ?_
        refine AllReadyH.cons rfl (fun K hK => ?_) AllReadyH.nil
        go_simp
        refine (refuse_yes _ _ _ _ (dr_old hc)).mono ?_
        rintro e w6 ⟨rfl, rfl⟩
        simp +zetaDelta [bodyPost]
        exact rows_die HJ.out HD.out (gb_then (gb_adv HI.out HA.out) (gb_dr _))
      | some p =>
        obtain ⟨j, ws⟩ := p
        have hjl := nx_lt HJ.out.2.1 hnx
        have C : Hid (C22S wr rb ((j : Int) + 1) ws) := words_s cut_any wrd_any HBr.out p1 HJ.out.2.1 hnx
        by_cases h1 : ws.length = 1
        · obtain ⟨x, rfl⟩ : ∃ x, ws = [x] := List.length_eq_one_iff.1 h1
          clear h1
          by_cases hxw : x.length = W
          · have HNX : Hid (nx b (Ls.drop b) = some (j, [x])) := hnx
            have HJL : Hid (j < Ls.length) := hjl.2.1
            have hsz : ((bs x).size : Int) = (W : Int) := by rw [bs_size, hxw]
            have HXW : Hid (x.length = W) := hxw
            clear hnx hjl hxw
            go_wp2_with (first
              | (go_at_call 22; (with_reducible refine Calls.mono C.out ?_); rintro e w1 ⟨A, rfl, hA⟩; have hc := hA.2.2.2.1; have s0 : w1.cell? ⟨A, 0, none⟩ = some (.string (bs x)) := hA.2.1 0 (by simp); have c2 : w1.cell? ⟨rb, 2, none⟩ = some (.int .i64 (W : Int)) := (hA.2.2.2.2.1 2 (by decide)).trans p2; have HAS : Hid (wr.heap.size ≤ A ∧ SR w1 A [x]) := ⟨hA.1, hA.2.1⟩; have HA : Hid (Adv wr w1 rb ((j : Int) + 1)) := hA.2.2; clear hA)
              | fail)
            go_region_held3 (fun w' => w'.cell? ⟨A, 0, none⟩ = some (.string (bs x)) ∧ w'.cell? ⟨rb, 2, none⟩ = some (.int .i64 (W : Int)))
              (first | exact ⟨dr_old s0, dr_old c2⟩)
              (first | ((go_at_call 23; (with_reducible refine (refuse_no _ _ _).mono ?_); rintro e w2 ⟨rfl, hw2⟩; have hw2b := hw2.symm; clear hw2; subst hw2b)) | fail)
            obtain ⟨B, hB⟩ : ∃ B, B = y * W := ⟨_, rfl⟩
            have hyw : B + W ≤ N := by
              have h2 := Nat.mul_le_mul_right W hyH
              rw [Nat.succ_mul, Nat.mul_comm H W, ← HN.out, ← hB] at h2
              exact h2
            have hm1 : IntKind.i64.wrap ((y : Int) * (W : Int)) = (B : Int) := by
              rw [← Int.natCast_mul, ← hB, IntKind.wrap_i64]
              omega
            have HBY : Hid (B = y * W) := hB
            have HR1 : Hid (RI w w1.drew rb w.heap.size N (j + 1) (stM m B (x.take 0))) := (HI.out.adv HA.out).kept (bl_drew (bl_refl _))
            have HS1 : Hid (SR w1.drew A [x]) := HAS.out.2.kept (bl_drew (bl_refl _))
            have HAN : Hid (A ≠ w.heap.size) := by have h2 := HAS.out.1; have h3 := HI.out.2.2.2.2.2; show A ≠ w.heap.size; omega
            clear hB p1 p3 p4 p2 hc C HBr
            go_wp2
            go_loopg [50] W (fun g s50 wx => ∃ i : Nat, i ≤ W ∧ W - i = g ∧ s50 = .int .i64 (i : Int) ∧ LOK x i ∧ RI w wx rb w.heap.size N (j + 1) (stM m B (x.take i)) ∧ SR wx A [x])
            case atStart => exact ⟨0, by omega, rfl, rfl, fun k _ h => by omega, HR1.out, HS1.out⟩
            case round =>
              clear HR1 HS1 s0 c2
              obtain ⟨i, hi, rfl, rfl, hlok, hri, hsr⟩ := hrel
              have HLK : Hid (LOK x i) := hlok
              have HRI : Hid (RI w wr rb w.heap.size N (j + 1) (stM m B (x.take i))) := hri
              have s0 : wr.cell? ⟨A, 0, none⟩ = some (.string (bs x)) := hsr 0 (by simp)
              have HSR : Hid (SR wr A [x]) := hsr
              clear hlok hri hsr
              have p1 := HRI.out.2.1
              have p2 : wr.cell? ⟨rb, 2, none⟩ = some (.int .i64 (W : Int)) := (HRI.out.1.2.1 2 (by decide)).trans HC2.out.1
              have p4 := HRI.out.2.2.1
              by_cases h1 : i < W
              · have i1 : (i : Int) < (W : Int) := by omega
                have i0 : (0 : Int) ≤ (i : Int) := by omega
                have hix : i < x.length := by rw [HXW.out]; exact h1
                have hib : i < (bs x).size := by rw [bs_size]; exact hix
                have C26 : Hid (∀ V : World, Calls Tryz.prog 26 #[.string ⟨#[48, 49, 50, 51, 52, 53, 54, 55, 56, 57, 97, 98, 99, 100, 101, 102]⟩, .int .u8 (((bs x)[i]'hib).toNat : Int)] V fun e w' => e = .returned (.int .i64 (leI x[i])) ∧ w' = V) := fun V => by
                  have h2 := Tryz.strings_IndexByte ⟨#[48, 49, 50, 51, 52, 53, 54, 55, 56, 57, 97, 98, 99, 100, 101, 102]⟩ (((bs x)[i]'hib).toNat : Int) V
                  have h3 := idx_letter ((bs x)[i]'hib)
                  change Lib.indexByte (ByteArray.mk #[48, 49, 50, 51, 52, 53, 54, 55, 56, 57, 97, 98, 99, 100, 101, 102]).data.toList _ = _ at h3
                  rw [h3] at h2
                  exact h2
                cases hl : ltr x[i] with
                | none =>
                  rw [leI_none hl] at C26
                  have HD : Hid (rdF inn ⟨W, H, H - (y + 1), m, []⟩ b (Ls.drop b) = (1, j + 1, ⟨W, H, H - (y + 1), m, []⟩)) := row_bad inn HJ.out.2.1 hW.1 hkk HNX.out (rowOk_bad hix hl)
                  clear hl
                  go_wp2_with (first
                    | (go_at_call 26; (with_reducible refine (C26.out _).mono ?_); rintro e w7 ⟨rfl, hw7⟩; have hw7b := hw7.symm; clear hw7; subst hw7b)
                    | (go_at_call 23; (with_reducible refine (refuse_yes _ _ _ _ p1).mono ?_); rintro e w7 ⟨rfl, hw7⟩; have hw7b := hw7.symm; clear hw7; subst hw7b)
                    | fail)
                  simp +zetaDelta [bodyPost]
                  exact rows_die HJ.out HD.out HRI.out.1.1
                | some v =>
                  rw [leI_some hl] at C26
                  have v0 : ¬ (v : Int) < 0 := by omega
                  have d0 : decide ((v : Int) < 0) = false := decide_eq_false v0
                  obtain ⟨I, hI⟩ : ∃ I, I = B + i := ⟨_, rfl⟩
                  have hm2 : IntKind.i64.wrap ((B : Int) + (i : Int)) = (I : Int) := by rw [IntKind.wrap_i64]; omega
                  have I0 : (0 : Int) ≤ (I : Int) := by omega
                  have I1 : (I : Int) < (N : Int) := by omega
                  have hml : I < (stM m B (x.take i)).length := by rw [stM_length, HJ.out.2.2.1, ← HN.out]; omega
                  have cI := (HRI.out.2.2.2.1 I hml).1
                  have fI := (HRI.out.2.2.2.1 I hml).2
                  have HV : Hid (ltr x[i] = some v ∧ I = B + i) := ⟨hl, hI⟩
                  clear hl hI
                  go_wp2_with (first
                    | (go_at_call 26; (with_reducible refine (C26.out _).mono ?_); rintro e w7 ⟨rfl, hw7⟩; have hw7b := hw7.symm; clear hw7; subst hw7b)
                    | (go_at_call 23; (with_reducible refine (refuse_no _ _ _).mono ?_); rintro e w7 ⟨rfl, hw7⟩; have hw7b := hw7.symm; clear hw7; subst hw7b)
                    | fail)
                  go_region_held3 (fun w' => w'.cell? ⟨rb, 4, none⟩ = some (.slice (some ⟨w.heap.size, 0, none⟩) N N) ∧ w'.cell? ⟨rb, 2, none⟩ = some (.int .i64 (W : Int)))
                    (first | exact ⟨dr_old p4, dr_old p2⟩ | (refine ⟨?_, ?_⟩ <;> (simp [go_sem, *]; done)))
                    (fail)
                  go_wp2
                  go_roundg (W - (i + 1))
                  case measure => omega
                  case rel =>
                    have hput := HRI.out.put (v : Int) hml
                    rw [HV.out.2, ← stM_take m B hix HV.out.1, ← HV.out.2] at hput
                    refine ⟨i + 1, by omega, rfl, by go_num, HLK.out.next hix HV.out.1, ?_, ?_⟩
                    · first
                        | exact hput.kept (bl_drew (bl_refl _))
                        | exact hput
                    · intro k hk
                      obtain rfl : k = 0 := by simpa using hk
                      simp [go_sem, s0, Ne.symm HAN.out]
              · obtain rfl : i = W := by omega
                have i1 : ¬ (i : Int) < (i : Int) := by omega
                have HJ2 : Hid (RJ inn i H a Ls y (j + 1) (stM m B x)) := by
                  have h2 := HJ.out.row hW.1 HNX.out HXW.out HLK.out HJL.out
                  rw [← HBY.out] at h2
                  exact h2
                have HR2 : Hid (RI w wr rb w.heap.size N (j + 1) (stM m B x)) := by
                  have h2 := HRI.out
                  rw [List.take_of_length_le (by rw [HXW.out]; exact Nat.le_refl _)] at h2
                  exact h2
                go_wp2
                go_roundg y
                case measure => omega
                case rel => exact ⟨y, j + 1, (y : Int) - 1, stM m B x, rfl, rfl, rfl, HJ2.out, HR2.out⟩
          · have HD : Hid (rdF inn ⟨W, H, H - (y + 1), m, []⟩ b (Ls.drop b) = (1, j + 1, ⟨W, H, H - (y + 1), m, []⟩)) := row_bad inn HJ.out.2.1 hW.1 hkk hnx (rowOk_wide hxw)
            have hne : ¬ ((bs x).size : Int) = (W : Int) := by rw [bs_size]; omega
            clear hnx hjl hxw
            go_wp2_with (first
              | (go_at_call 22; (with_reducible refine Calls.mono C.out ?_); rintro e w1 ⟨A, rfl, hA⟩; have hc := hA.2.2.2.1; have s0 : w1.cell? ⟨A, 0, none⟩ = some (.string (bs x)) := hA.2.1 0 (by simp); have c2 : w1.cell? ⟨rb, 2, none⟩ = some (.int .i64 (W : Int)) := (hA.2.2.2.2.1 2 (by decide)).trans p2; have HAS : Hid (wr.heap.size ≤ A ∧ SR w1 A [x]) := ⟨hA.1, hA.2.1⟩; have HA : Hid (Adv wr w1 rb ((j : Int) + 1)) := hA.2.2; clear hA)
              | fail)
            refine wp_region_held_drew (S := fun w' => w'.cell? ⟨A, 0, none⟩ = some (.string (bs x)) ∧ w'.cell? ⟨rb, 2, none⟩ = some (.int .i64 (W : Int))) (by kernel_rfl) ⟨dr_old s0, dr_old c2⟩ (fun hHeld => ?_)
            try simp only [Act.put, List.getElem_toArray, List.getElem_cons_succ, List.getElem_cons_zero, List.setIfInBounds_toArray, List.set_cons_zero, List.set_cons_succ]
            refine wpAnyH_take (i := 0) (v := .pointer (some ⟨rb, 0, none⟩)) rfl (by kernel_rfl) (by kernel_rfl) (by kernel_rfl) (fun _ _ _ h => h) (Or.inl ⟨by rfl, ?hyy⟩) (by assumption) ?_
            case hyy => (intro w' hSw; (try dsimp only at hSw); go_simp)
            try simp only [Act.put, List.getElem_toArray, List.getElem_cons_zero, List.setIfInBounds_toArray, List.set_cons_zero, List.set_cons_succ]
            refine wpAnyH_take (i := 1) (v := .slice (some ⟨A, 0, none⟩) 1 1) rfl (by kernel_rfl) (by kernel_rfl) (by kernel_rfl) (fun _ _ _ h => h) (Or.inl ⟨by rfl, ?hyy⟩) (by assumption) ?_
            case hyy => (intro w' hSw; (try dsimp only at hSw); go_simp)
            try simp only [Act.put, List.getElem_toArray, List.getElem_cons_succ, List.getElem_cons_zero, List.setIfInBounds_toArray, List.set_cons_zero, List.set_cons_succ]
            refine wpAnyH_take (i := 2) (v := .int .i64 1) rfl (by kernel_rfl) (by kernel_rfl) (by kernel_rfl) (fun _ _ _ h => h) (Or.inl ⟨by rfl, ?hyy⟩) (by assumption) ?_
            case hyy => (intro w' hSw; (try dsimp only at hSw); go_simp)
            try simp only [Act.put, List.getElem_toArray, List.getElem_cons_succ, List.getElem_cons_zero, List.setIfInBounds_toArray, List.set_cons_zero, List.set_cons_succ]
            refine wpAnyH_take (i := 3) (v := .bool false) rfl (by kernel_rfl) (by kernel_rfl) (by kernel_rfl) (fun _ _ _ h => h) (Or.inl ⟨by rfl, ?hyy⟩) (by assumption) ?_
            case hyy => (intro w' hSw; (try dsimp only at hSw); go_simp)
            try simp only [Act.put, List.getElem_toArray, List.getElem_cons_succ, List.getElem_cons_zero, List.setIfInBounds_toArray, List.set_cons_zero, List.set_cons_succ]
            refine wpAnyH_take (i := 4) (v := .bool false) rfl (by kernel_rfl) (by kernel_rfl) (by kernel_rfl) (fun _ _ _ h => h) (Or.inl ⟨by rfl, ?hyy⟩) (by assumption) ?_
            case hyy => (intro w' hSw; (try dsimp only at hSw); go_simp)
            try simp only [Act.put, List.getElem_toArray, List.getElem_cons_succ, List.getElem_cons_zero, List.setIfInBounds_toArray, List.set_cons_zero, List.set_cons_succ]
            refine wpAnyH_take (i := 5) (v := .slice (some ⟨A, 0, none⟩) 1 1) rfl (by kernel_rfl) (by kernel_rfl) (by kernel_rfl) (fun _ _ _ h => h) (Or.inl ⟨by rfl, ?hyy⟩) (by assumption) ?_
            case hyy => (intro w' hSw; (try dsimp only at hSw); go_simp)
            try simp only [Act.put, List.getElem_toArray, List.getElem_cons_succ, List.getElem_cons_zero, List.setIfInBounds_toArray, List.set_cons_zero, List.set_cons_succ]
            refine wpAnyH_take (i := 6) (v := .pointer (some ⟨A, 0, none⟩)) rfl (by kernel_rfl) (by kernel_rfl) (by kernel_rfl) (fun _ _ _ h => h) (Or.inl ⟨by rfl, ?hyy⟩) (by assumption) ?_
            case hyy => (intro w' hSw; (try dsimp only at hSw); go_simp)
            try simp only [Act.put, List.getElem_toArray, List.getElem_cons_succ, List.getElem_cons_zero, List.setIfInBounds_toArray, List.set_cons_zero, List.set_cons_succ]
            refine wpAnyH_take (i := 7) (v := .string (bs x)) rfl (by kernel_rfl) (by kernel_rfl) (by kernel_rfl) (fun _ _ _ h => h) (Or.inl ⟨by rfl, ?hyy⟩) (by assumption) ?_
            case hyy => (intro w' hSw; (try dsimp only at hSw); go_simp)
            try simp only [Act.put, List.getElem_toArray, List.getElem_cons_succ, List.getElem_cons_zero, List.setIfInBounds_toArray, List.set_cons_zero, List.set_cons_succ]
            refine wpAnyH_take (i := 8) (v := .int .i64 ((bs x).size : Int)) rfl (by kernel_rfl) (by kernel_rfl) (by kernel_rfl) (fun _ _ _ h => h) (Or.inl ⟨by rfl, ?hyy⟩) (by assumption) ?_
            case hyy => (intro w' hSw; (try dsimp only at hSw); go_simp)
            try simp only [Act.put, List.getElem_toArray, List.getElem_cons_succ, List.getElem_cons_zero, List.setIfInBounds_toArray, List.set_cons_zero, List.set_cons_succ]
            refine wpAnyH_take (i := 9) (v := .pointer (some ⟨rb, 0, none⟩)) rfl (by kernel_rfl) (by kernel_rfl) (by kernel_rfl) (fun _ _ _ h => h) (Or.inl ⟨by rfl, ?hyy⟩) (by assumption) ?_
            case hyy => (intro w' hSw; (try dsimp only at hSw); go_simp)
            try simp only [Act.put, List.getElem_toArray, List.getElem_cons_succ, List.getElem_cons_zero, List.setIfInBounds_toArray, List.set_cons_zero, List.set_cons_succ]
            refine wpAnyH_take (i := 10) (v := .pointer (some ⟨rb, 0, none⟩)) rfl (by kernel_rfl) (by kernel_rfl) (by kernel_rfl) (fun _ _ _ h => h) (Or.inl ⟨by rfl, ?hyy⟩) (by assumption) ?_
            case hyy => (intro w' hSw; (try dsimp only at hSw); go_simp)
            try simp only [Act.put, List.getElem_toArray, List.getElem_cons_succ, List.getElem_cons_zero, List.setIfInBounds_toArray, List.set_cons_zero, List.set_cons_succ]
            refine wpAnyH_take (i := 11) (v := .pointer (some ⟨rb, 2, none⟩)) rfl (by kernel_rfl) (by kernel_rfl) (by kernel_rfl) (fun _ _ _ h => h) (Or.inl ⟨by rfl, ?hyy⟩) (by assumption) ?_
            case hyy => (intro w' hSw; (try dsimp only at hSw); go_simp)
            try simp only [Act.put, List.getElem_toArray, List.getElem_cons_succ, List.getElem_cons_zero, List.setIfInBounds_toArray, List.set_cons_zero, List.set_cons_succ]
            refine wpAnyH_take (i := 12) (v := .int .i64 (W : Int)) rfl (by kernel_rfl) (by kernel_rfl) (by kernel_rfl) (fun _ _ _ h => h) (Or.inl ⟨by rfl, ?hyy⟩) (by assumption) ?_
            case hyy => (intro w' hSw; (try dsimp only at hSw); go_simp)
            try simp only [Act.put, List.getElem_toArray, List.getElem_cons_succ, List.getElem_cons_zero, List.setIfInBounds_toArray, List.set_cons_zero, List.set_cons_succ]
            refine wpAnyH_take (i := 13) (v := .bool true) rfl (by kernel_rfl) (by kernel_rfl) (by kernel_rfl) (fun _ _ _ h => h) (Or.inl ⟨by rfl, ?hyy⟩) (by assumption) ?_
            case hyy => (intro w' hSw; (try dsimp only at hSw); go_simp)
            try simp only [Act.put, List.getElem_toArray, List.getElem_cons_succ, List.getElem_cons_zero, List.setIfInBounds_toArray, List.set_cons_zero, List.set_cons_succ]
            refine wpAnyH_take (i := 14) (v := .bool true) rfl (by kernel_rfl) (by kernel_rfl) (by kernel_rfl) (fun _ _ _ h => h) (Or.inl ⟨by rfl, ?hyy⟩) (by assumption) ?_
            case hyy => (intro w' hSw; (try dsimp only at hSw); go_simp)
            try simp only [Act.put, List.getElem_toArray, List.getElem_cons_succ, List.getElem_cons_zero, List.setIfInBounds_toArray, List.set_cons_zero, List.set_cons_succ]
            refine wpAnyH_ready (rs := [15]) (by kernel_rfl) (by simp) ?_
            refine AllReadyH.cons rfl (fun K hK => ?_) AllReadyH.nil
            go_simp
            refine (refuse_yes _ _ _ _ (dr_old hc)).mono ?_
            rintro e w6 ⟨rfl, rfl⟩
            simp +zetaDelta [bodyPost]
            exact rows_die HJ.out HD.out (gb_then (gb_adv HI.out HA.out) (gb_dr _))
        · have HD : Hid (rdF inn ⟨W, H, H - (y + 1), m, []⟩ b (Ls.drop b) = (1, j + 1, ⟨W, H, H - (y + 1), m, []⟩)) := row_bad inn HJ.out.2.1 hW.1 hkk hnx (rowOk_len h1)
          have k1 : ¬ (ws.length : Int) = 1 := by omega
          clear hnx hjl h1
          go_wp2_with (first
            | (go_at_call 22; (with_reducible refine Calls.mono C.out ?_); rintro e w1 ⟨A, rfl, hA⟩; have hc := hA.2.2.2.1; have HA : Hid (Adv wr w1 rb ((j : Int) + 1)) := hA.2.2; clear hA)
            | fail)
          refine wp_region_held_drew (S := fun w' => w'.cell? ⟨rb, 1, none⟩ = some (.int .i64 ((j : Int) + 1))) (by kernel_rfl) (dr_old hc) (fun hHeld => ?_)
          try simp only [Act.put, List.getElem_toArray, List.getElem_cons_succ, List.getElem_cons_zero, List.setIfInBounds_toArray, List.set_cons_zero, List.set_cons_succ]
          refine wpAnyH_take (i := 0) (v := .pointer (some ⟨rb, 0, none⟩)) rfl (by kernel_rfl) (by kernel_rfl) (by kernel_rfl) (fun _ _ _ h => h) (Or.inl ⟨by rfl, ?hyy⟩) (by assumption) ?_
          case hyy => (intro w' hSw; (try dsimp only at hSw); go_simp)
          try simp only [Act.put, List.getElem_toArray, List.getElem_cons_zero, List.setIfInBounds_toArray, List.set_cons_zero, List.set_cons_succ]
          refine wpAnyH_take (i := 1) (v := .slice (some ⟨A, 0, none⟩) ws.length ws.length) rfl (by kernel_rfl) (by kernel_rfl) (by kernel_rfl) (fun _ _ _ h => h) (Or.inl ⟨by rfl, ?hyy⟩) (by assumption) ?_
          case hyy => (intro w' hSw; (try dsimp only at hSw); go_simp)
          try simp only [Act.put, List.getElem_toArray, List.getElem_cons_succ, List.getElem_cons_zero, List.setIfInBounds_toArray, List.set_cons_zero, List.set_cons_succ]
          refine wpAnyH_take (i := 2) (v := .int .i64 (ws.length : Int)) rfl (by kernel_rfl) (by kernel_rfl) (by kernel_rfl) (fun _ _ _ h => h) (Or.inl ⟨by rfl, ?hyy⟩) (by assumption) ?_
          case hyy => (intro w' hSw; (try dsimp only at hSw); go_simp)
          try simp only [Act.put, List.getElem_toArray, List.getElem_cons_succ, List.getElem_cons_zero, List.setIfInBounds_toArray, List.set_cons_zero, List.set_cons_succ]
          refine wpAnyH_take (i := 3) (v := .bool true) rfl (by kernel_rfl) (by kernel_rfl) (by kernel_rfl) (fun _ _ _ h => h) (Or.inl ⟨by rfl, ?hyy⟩) (by assumption) ?_
          case hyy => (intro w' hSw; (try dsimp only at hSw); go_simp)
          try simp only [Act.put, List.getElem_toArray, List.getElem_cons_succ, List.getElem_cons_zero, List.setIfInBounds_toArray, List.set_cons_zero, List.set_cons_succ]
          refine wpAnyH_take (i := 4) (v := .bool true) rfl (by kernel_rfl) (by kernel_rfl) (by kernel_rfl) (fun _ _ _ h => h) (Or.inl ⟨by rfl, ?hyy⟩) (by assumption) ?_
          case hyy => (intro w' hSw; (try dsimp only at hSw); go_simp)
          try simp only [Act.put, List.getElem_toArray, List.getElem_cons_succ, List.getElem_cons_zero, List.setIfInBounds_toArray, List.set_cons_zero, List.set_cons_succ]
          refine wpAnyH_take (i := 5) (v := undef) rfl (by kernel_rfl) (by kernel_rfl) (by kernel_rfl) (fun _ _ _ h => h) (Or.inr ⟨by rfl, rfl⟩) (by assumption) ?_
          try simp only [Act.put, List.getElem_toArray, List.getElem_cons_succ, List.getElem_cons_zero, List.setIfInBounds_toArray, List.set_cons_zero, List.set_cons_succ]
          refine wpAnyH_take (i := 6) (v := undef) rfl (by kernel_rfl) (by kernel_rfl) (by kernel_rfl) (fun _ _ _ h => h) (Or.inr ⟨by rfl, rfl⟩) (by assumption) ?_
          try simp only [Act.put, List.getElem_toArray, List.getElem_cons_succ, List.getElem_cons_zero, List.setIfInBounds_toArray, List.set_cons_zero, List.set_cons_succ]
          refine wpAnyH_take (i := 7) (v := undef) rfl (by kernel_rfl) (by kernel_rfl) (by kernel_rfl) (fun _ _ _ h => h) (Or.inr ⟨by rfl, rfl⟩) (by assumption) ?_
          try simp only [Act.put, List.getElem_toArray, List.getElem_cons_succ, List.getElem_cons_zero, List.setIfInBounds_toArray, List.set_cons_zero, List.set_cons_succ]
          refine wpAnyH_take (i := 8) (v := undef) rfl (by kernel_rfl) (by kernel_rfl) (by kernel_rfl) (fun _ _ _ h => h) (Or.inr ⟨by rfl, rfl⟩) (by assumption) ?_
          try simp only [Act.put, List.getElem_toArray, List.getElem_cons_succ, List.getElem_cons_zero, List.setIfInBounds_toArray, List.set_cons_zero, List.set_cons_succ]
          refine wpAnyH_take (i := 9) (v := undef) rfl (by kernel_rfl) (by kernel_rfl) (by kernel_rfl) (fun _ _ _ h => h) (Or.inr ⟨by rfl, rfl⟩) (by assumption) ?_
          try simp only [Act.put, List.getElem_toArray, List.getElem_cons_succ, List.getElem_cons_zero, List.setIfInBounds_toArray, List.set_cons_zero, List.set_cons_succ]
          refine wpAnyH_take (i := 10) (v := undef) rfl (by kernel_rfl) (by kernel_rfl) (by kernel_rfl) (fun _ _ _ h => h) (Or.inr ⟨by rfl, rfl⟩) (by assumption) ?_
          try simp only [Act.put, List.getElem_toArray, List.getElem_cons_succ, List.getElem_cons_zero, List.setIfInBounds_toArray, List.set_cons_zero, List.set_cons_succ]
          refine wpAnyH_take (i := 11) (v := undef) rfl (by kernel_rfl) (by kernel_rfl) (by kernel_rfl) (fun _ _ _ h => h) (Or.inr ⟨by rfl, rfl⟩) (by assumption) ?_
          try simp only [Act.put, List.getElem_toArray, List.getElem_cons_succ, List.getElem_cons_zero, List.setIfInBounds_toArray, List.set_cons_zero, List.set_cons_succ]
          refine wpAnyH_take (i := 12) (v := undef) rfl (by kernel_rfl) (by kernel_rfl) (by kernel_rfl) (fun _ _ _ h => h) (Or.inr ⟨by rfl, rfl⟩) (by assumption) ?_
          try simp only [Act.put, List.getElem_toArray, List.getElem_cons_succ, List.getElem_cons_zero, List.setIfInBounds_toArray, List.set_cons_zero, List.set_cons_succ]
          refine wpAnyH_take (i := 13) (v := undef) rfl (by kernel_rfl) (by kernel_rfl) (by kernel_rfl) (fun _ _ _ h => h) (Or.inr ⟨by rfl, rfl⟩) (by assumption) ?_
          try simp only [Act.put, List.getElem_toArray, List.getElem_cons_succ, List.getElem_cons_zero, List.setIfInBounds_toArray, List.set_cons_zero, List.set_cons_succ]
          refine wpAnyH_take (i := 14) (v := .bool true) rfl (by kernel_rfl) (by kernel_rfl) (by kernel_rfl) (fun _ _ _ h => h) (Or.inl ⟨by rfl, ?hyy⟩) (by assumption) ?_
          case hyy => (intro w' hSw; (try dsimp only at hSw); go_simp)
          try simp only [Act.put, List.getElem_toArray, List.getElem_cons_succ, List.getElem_cons_zero, List.setIfInBounds_toArray, List.set_cons_zero, List.set_cons_succ]
          refine wpAnyH_ready (rs := [15]) (by kernel_rfl) (by simp) ?_
          refine AllReadyH.cons rfl (fun K hK => ?_) AllReadyH.nil
          go_simp
          refine (refuse_yes _ _ _ _ (dr_old hc)).mono ?_
          rintro e w6 ⟨rfl, rfl⟩
          simp +zetaDelta [bodyPost]
          exact rows_die HJ.out HD.out (gb_then (gb_adv HI.out HA.out) (gb_dr _))
end Go.Proofs.YtehmoacggikfmaaGreatDoor
