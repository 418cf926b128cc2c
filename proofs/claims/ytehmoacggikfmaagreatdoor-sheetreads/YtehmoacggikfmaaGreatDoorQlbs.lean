/- A part of the proof of sheetReads_holds. -/
import Derived.Test.YtehmoacggikfmaaGreatDoorQlbr
import Derived.WalkSpells
import Derived.Test.YtehmoacggikfmaaGreatDoorQlbk
import Derived.Test.YtehmoacggikfmaaGreatDoorQlai
namespace Go.Proofs.YtehmoacggikfmaaGreatDoor
open Go.RowKit Go.ChangeMaps

theorem kdW_12 {x : List UInt8} (h : kdW x ≠ 0) : kdW x = 1 ∨ kdW x = 2 := by
  unfold kdW at *
  split
  · exact Or.inl rfl
  · rename_i h1
    rw [if_neg h1] at h
    split
    · exact Or.inr rfl
    · rename_i h2
      rw [if_neg h2] at h
      exact absurd rfl h
theorem readCrease_any (rb A kb : Nat) (n : Int) (ws : List (List UInt8)) (W H : Nat) (ad : Option Addr) (cc ra rk : Nat) (L : List (Int × Int × Int)) (cs : List C5) (inn : E4 → Bool) (w : World) (hinn : ∀ e : E4, inn e = decide (cnt L e.1 e.2.1 e.2.2.1 e.2.2.2 = 2)) (hs : SR w A ws) (hc : w.cell? ⟨rb, 1, none⟩ = some (.int .i64 n)) (hW : W ≤ 8) (hH : H ≤ 8)
    (c2 : w.cell? ⟨rb, 2, none⟩ = some (.int .i64 (W : Int))) (c3 : w.cell? ⟨rb, 3, none⟩ = some (.int .i64 (H : Int))) (c5 : w.cell? ⟨rb, 5, none⟩ = some (.slice ad L.length cc)) (c6 : w.cell? ⟨rb, 6, none⟩ = some (.map (some ra))) (c7 : w.cell? ⟨rb, 7, none⟩ = some (.map (some rk))) (c8 : w.cell? ⟨rb, 8, none⟩ = some (.map (some kb)))
    (hPA : PA w ad ra L) (hKM : KM w kb cs) (hco : CsOk cs) (hne : kb ≠ rb) :
    Calls Tryz.prog 28 #[.pointer (some ⟨rb, 0, none⟩), .slice (some ⟨A, 0, none⟩) ws.length ws.length] w fun e w' => CrTo w w' kb n (crS W H inn cs ws) e := by
  by_cases h5 : ws.length = 5
  · obtain ⟨x0, x1, x2, x3, x4, rfl⟩ : ∃ x0 x1 x2 x3 x4, ws = [x0, x1, x2, x3, x4] := by
      match ws, h5 with
      | [a, b, c, d, e], _ => exact ⟨a, b, c, d, e, rfl⟩
    by_cases hk : kdW x0 = 0
    · exact (rc_kind rb A n x0 x1 x2 x3 x4 w hs hc hk).mono (fun e w' h => CrTo.no (crS_kind hk) (by decide) h)
    · cases h1 : num x1 with
      | none => exact (rc_num1 rb A n x0 x1 x2 x3 x4 w hs hc _ rfl hk h1).mono (fun e w' h => CrTo.no (crS_num hk (Or.inl h1)) (by decide) h)
      | some v1 =>
        cases h2 : num x2 with
        | none => exact (rc_num2 rb A n x0 x1 x2 x3 x4 w hs hc _ rfl hk v1 h1 h2).mono (fun e w' h => CrTo.no (crS_num hk (Or.inr (Or.inl h2))) (by decide) h)
        | some v2 =>
          cases h3 : num x3 with
          | none => exact (rc_num3 rb A n x0 x1 x2 x3 x4 w hs hc _ rfl hk v1 v2 h1 h2 h3).mono (fun e w' h => CrTo.no (crS_num hk (Or.inr (Or.inr (Or.inl h3)))) (by decide) h)
          | some v3 =>
            cases h4 : num x4 with
            | none => exact (rc_num4 rb A n x0 x1 x2 x3 x4 w hs hc _ rfl hk v1 v2 v3 h1 h2 h3 h4).mono (fun e w' h => CrTo.no (crS_num hk (Or.inr (Or.inr (Or.inr h4)))) (by decide) h)
            | some v4 => exact rc_all rb A kb n x0 x1 x2 x3 x4 W H ad cc ra rk L cs inn w hinn hs ⟨hc, c2, c3, c5, c6, c7, c8, hPA, hKM⟩ hW hH hco hne _ rfl (kdW_12 hk) v1 v2 v3 v4 h1 h2 h3 h4
  · exact (rc_len rb A n ws w h5 hc).mono (fun e w' h => CrTo.no (crS_len h5) (by decide) h)
theorem gb_mix {a b c : World} {rb kb : Nat} (h : a.grownBy b (some rb)) (k : b.grownBy c (some kb)) (hk : a.heap.size ≤ kb) : a.grownBy c (some rb) :=
  ⟨k.os.trans h.os, k.tape.trans h.tape, k.output.trans h.output, Nat.le_trans h.size k.size, fun i hi hne => (k.block i (Nat.lt_of_lt_of_le hi h.size) (fun e => by cases e; omega)).trans (h.block i hi hne)⟩
theorem Chg.mix {w wr wx : World} {rb kb : Nat} {os : List Nat} (h : Chg w wr rb os) (k : wr.grownBy wx (some kb)) (hk : w.heap.size ≤ kb) : Chg w wx rb os := by
  have hl := h.2.2.2
  have hlr : rb < wr.heap.size := Nat.lt_of_lt_of_le hl h.1.size
  have hb := k.block rb hlr (fun e => by cases e; omega)
  refine ⟨gb_mix h.1 k hk, fun o ho => ?_, fun o => ?_, hl⟩
  · rw [← h.2.1 o ho]
    unfold World.cell?
    simp only [hb]
  · rw [← h.2.2.1 o]
    unfold World.frozen?
    simp only [hb]
theorem Chg.set' {w wx : World} {rb : Nat} {os : List Nat} (h : Chg w wx rb os) (o : Nat) (ho : o ∈ os) (v : Value) : Chg w (wx.setCell ⟨rb, o, none⟩ v) rb os := (h.set o v).mono (fun k hk => by
  rcases List.mem_cons.1 hk with rfl | hk
  · exact ho
  · exact hk)
/-- The words of the next line, as a slot has them. -/
def WS (wx : World) (rb b : Nat) (Ls : List (List UInt8)) (a0 : Option Addr) (n0 c0 : Nat) : Prop :=
  (nx b (Ls.drop b) = none ∧ a0 = none) ∨ (∃ j ws A, nx b (Ls.drop b) = some (j, ws) ∧ a0 = some ⟨A, 0, none⟩ ∧ n0 = ws.length ∧ c0 = ws.length ∧ SR wx A ws ∧ wx.cell? ⟨rb, 1, none⟩ = some (.int .i64 ((j : Int) + 1)))
theorem words_w {w : World} {rb lb cap b : Nat} {Ls : List (List UInt8)} (h : BASE w rb lb cap Ls) (hc : w.cell? ⟨rb, 1, none⟩ = some (.int .i64 (b : Int))) (hb : b ≤ Ls.length) :
    Calls Tryz.prog 22 #[.pointer (some ⟨rb, 0, none⟩)] w fun e w' => ∃ a0 n0 c0, e = .returned (.slice a0 n0 c0) ∧ Chg w w' rb [1] ∧ WS w' rb b Ls a0 n0 c0 := by
  cases hn : nx b (Ls.drop b) with
  | none =>
    refine Calls.mono (words_n cut_any wrd_any h hc hb hn) ?_
    rintro e w' ⟨rfl, hA⟩
    exact ⟨_, _, _, rfl, hA.chg h.lt, Or.inl ⟨hn, rfl⟩⟩
  | some p =>
    obtain ⟨j, ws⟩ := p
    refine Calls.mono (words_s cut_any wrd_any h hc hb hn) ?_
    rintro e w' ⟨A, rfl, hA⟩
    exact ⟨_, _, _, rfl, hA.2.2.chg h.lt, Or.inr ⟨j, ws, A, hn, rfl, rfl, rfl, hA.2.1, hA.2.2.2.1⟩⟩
/-- What is known of the lines of creases so far. -/
def CJ (inn : Nat → Nat → List Int → E4 → Bool) (W H a : Nat) (m : List Int) (Ls : List (List UInt8)) (b : Nat) (cs : List C5) : Prop :=
  b ≤ Ls.length ∧ CsOk cs ∧ (∀ x ∈ cs, inn W H m x.1 = true) ∧ rdF inn ⟨W, H, H, m, []⟩ a (Ls.drop a) = rdF inn ⟨W, H, H, m, cs⟩ b (Ls.drop b)
theorem crS_inn {W H : Nat} {inn : E4 → Bool} {cs : List C5} {ws : List (List UInt8)} (h : ∀ x ∈ cs, inn x.1 = true) : ∀ x ∈ (crS W H inn cs ws).2, inn x.1 = true := by
  unfold crS
  split
  · exact h
  · split
    · split
      · exact h
      · split
        · exact h
        · rename_i hall
          split
          · exact h
          · intro x hx
            rcases (putA_mem _ x _ _).1 hx with hx | ⟨hx, _⟩
            · exact h x hx
            · simp only [Bool.not_eq_true', Bool.not_eq_false] at hall
              exact List.all_eq_true.1 hall _ hx
    · exact h
theorem crs_stp (inn : Nat → Nat → List Int → E4 → Bool) {W H : Nat} {m : List Int} {cs : List C5} (hW : 1 ≤ W) (ws : List (List UInt8)) : stp inn ⟨W, H, H, m, cs⟩ ws = ((crS W H (inn W H m) cs ws).1, ⟨W, H, H, m, (crS W H (inn W H m) cs ws).2⟩) := by
  unfold stp
  rw [if_neg (show ¬ W = 0 by omega), if_neg (show ¬ H < H by omega)]
theorem CJ.die {inn : Nat → Nat → List Int → E4 → Bool} {W H a b j : Nat} {m : List Int} {Ls ws : List (List UInt8)} {cs : List C5} (h : CJ inn W H a m Ls b cs) (hW : 1 ≤ W) (hn : nx b (Ls.drop b) = some (j, ws)) (hc : (crS W H (inn W H m) cs ws).1 ≠ 0) : rdF inn ⟨W, H, H, m, []⟩ a (Ls.drop a) = ((crS W H (inn W H m) cs ws).1, j + 1, ⟨W, H, H, m, cs⟩) := by
  rw [h.2.2.2, rd_some inn h.1 hn, crs_stp inn hW]
  simp only [hc, if_false]
theorem CJ.more {inn : Nat → Nat → List Int → E4 → Bool} {W H a b j : Nat} {m : List Int} {Ls ws : List (List UInt8)} {cs : List C5} (h : CJ inn W H a m Ls b cs) (hW : 1 ≤ W) (hn : nx b (Ls.drop b) = some (j, ws)) (hc : (crS W H (inn W H m) cs ws).1 = 0) (ho : CsOk (crS W H (inn W H m) cs ws).2) : CJ inn W H a m Ls (j + 1) (crS W H (inn W H m) cs ws).2 := by
  have hj := nx_lt h.1 hn
  refine ⟨by omega, ho, crS_inn h.2.2.1, ?_⟩
  rw [h.2.2.2, rd_some inn h.1 hn, crs_stp inn hW]
  simp only [hc, if_true]
theorem CJ.end {inn : Nat → Nat → List Int → E4 → Bool} {W H a b : Nat} {m : List Int} {Ls : List (List UInt8)} {cs : List C5} (h : CJ inn W H a m Ls b cs) (hW : 1 ≤ W) (hn : nx b (Ls.drop b) = none) : rdF inn ⟨W, H, H, m, []⟩ a (Ls.drop a) = (0, 0, ⟨W, H, H, m, cs⟩) := by
  rw [h.2.2.2, rd_none inn h.1 hn, rdF, if_neg (by dsimp only; omega)]
/-- What readCreases answers. -/
def CrsTo (inn : Nat → Nat → List Int → E4 → Bool) (W H a rb : Nat) (m : List Int) (Ls : List (List UInt8)) (w w' : World) (e : Ending) : Prop :=
  (∃ (c : Int) (n : Nat) (st : RS), e = PF c (n : Int) ∧ c ≠ 0 ∧ rdF inn ⟨W, H, H, m, []⟩ a (Ls.drop a) = (c, n, st) ∧ w.grownBy w' (some rb)) ∨
  (∃ cs : List C5, e = .returned (.tuple #[]) ∧ rdF inn ⟨W, H, H, m, []⟩ a (Ls.drop a) = (0, 0, ⟨W, H, H, m, cs⟩) ∧ CsOk cs ∧ (∀ x ∈ cs, inn W H m x.1 = true) ∧ Chg w w' rb [8, 1] ∧ w'.cell? ⟨rb, 8, none⟩ = some (.map (some w.heap.size)) ∧ KM w' w.heap.size cs)
/-- Which edges are inner. -/
def innS (W H : Nat) (m : List Int) (e : E4) : Bool := decide (cnt (ty m W H) e.1 e.2.1 e.2.2.1 e.2.2.2 = 2)
theorem EM.made (w : World) : EM (w.alloc (.map #[] 0)) w.heap.size [] 0 := by
  unfold EM
  rw [heap_alloc_new]
  rfl
set_option maxRecDepth 100000 in
set_option maxHeartbeats 3200000 in
theorem readCreases_any (W H a rb lb cap : Nat) (m : List Int) (Ls : List (List UInt8)) (v8 : Value) (ad : Option Addr) (cc ra rk : Nat) (w : World) (hB : BASE w rb lb cap Ls) (hW : 1 ≤ W ∧ W ≤ 8) (hH : 1 ≤ H ∧ H ≤ 8)
    (hc1 : w.cell? ⟨rb, 1, none⟩ = some (.int .i64 (a : Int))) (ha : a ≤ Ls.length) (hc2 : w.cell? ⟨rb, 2, none⟩ = some (.int .i64 (W : Int))) (hc3 : w.cell? ⟨rb, 3, none⟩ = some (.int .i64 (H : Int)))
    (hc5 : w.cell? ⟨rb, 5, none⟩ = some (.slice ad (ty m W H).length cc)) (hc6 : w.cell? ⟨rb, 6, none⟩ = some (.map (some ra))) (hc7 : w.cell? ⟨rb, 7, none⟩ = some (.map (some rk))) (hc8 : w.cell? ⟨rb, 8, none⟩ = some v8)
    (hPA : ∀ V : World, w.grownBy V (some rb) → PA V ad ra (ty m W H)) :
    Calls Tryz.prog 11 #[.pointer (some ⟨rb, 0, none⟩)] w fun e w' => CrsTo innS W H a rb m Ls w w' e := by
  have hnn : ∀ (a : Option Addr) (q r : Nat) (V : World), (binOp .neq 33 (.slice a q r) (.slice none 0 0)).run Tryz.prog V = .ok (.bool (!a.isNone)) V := fun a q r V => run_neq_slice_nil_any V 33 9 a q r 0 0 Tryz.underlying33
  have hmm : ∀ V : World, (Instr.makeMap 37 none).run Tryz.prog V = .ok (.map (some V.heap.size)) (V.alloc (.map #[] 0)) := fun V => by simp [Instr.makeMap, go_sem]
  have f8 := hB.fz 8
  have HB : Hid (BASE w rb lb cap Ls) := hB
  have HA : Hid (a ≤ Ls.length) := ha
  have HC : Hid (w.cell? ⟨rb, 1, none⟩ = some (.int .i64 (a : Int)) ∧ w.cell? ⟨rb, 2, none⟩ = some (.int .i64 (W : Int)) ∧ w.cell? ⟨rb, 3, none⟩ = some (.int .i64 (H : Int)) ∧ w.cell? ⟨rb, 5, none⟩ = some (.slice ad (ty m W H).length cc) ∧ w.cell? ⟨rb, 6, none⟩ = some (.map (some ra)) ∧ w.cell? ⟨rb, 7, none⟩ = some (.map (some rk))) := ⟨hc1, hc2, hc3, hc5, hc6, hc7⟩
  have HPA : Hid (∀ V : World, w.grownBy V (some rb) → PA V ad ra (ty m W H)) := hPA
  have hrb := hB.lt
  obtain ⟨w0, hw0⟩ : ∃ w0, w0 = (w.setCell ⟨rb, 8, none⟩ (.map (some w.heap.size))).alloc (.map #[] 0) := ⟨_, rfl⟩
  have hch0 : Chg w w0 rb [8] := by
    rw [hw0]
    exact ((Chg.refl hB.lt).set 8 _).kept (bl_alloc (bl_refl _))
  have h80 : w0.cell? ⟨rb, 8, none⟩ = some (.map (some w.heap.size)) := by
    rw [hw0]
    exact al_old (World.cell?_setCell_same _ _ _ hc8)
  have hkm0 : KM w0 w.heap.size [] := by
    rw [hw0]
    have h9 := EM.made (w.setCell ⟨rb, 8, none⟩ (.map (some w.heap.size)))
    simp only [World.size_setCell] at h9
    exact ⟨[], 0, h9, ⟨by simp, by simp, by simp⟩, fun e => rfl⟩
  have C0 : Hid (Calls Tryz.prog 22 #[.pointer (some ⟨rb, 0, none⟩)] w0 fun e w' => ∃ a0 n0 c0, e = .returned (.slice a0 n0 c0) ∧ Chg w0 w' rb [1] ∧ WS w' rb a Ls a0 n0 c0) := words_w (hB.chg hch0 (by simp)) ((hch0.2.1 1 (by simp)).trans hc1) ha
  have H0 : Hid (Chg w w0 rb [8, 1] ∧ w0.cell? ⟨rb, 8, none⟩ = some (.map (some w.heap.size)) ∧ KM w0 w.heap.size []) := ⟨hch0.mono (by simp), h80, hkm0⟩
  clear hB ha hc1 hc2 hc3 hc5 hc6 hc7 hPA hch0 h80 hkm0
  go_enter Tryz.func11, Tryz.ntmps11
  go_wp2_with (first
    | (rw [← hw0]; go_at_call 22; (with_reducible refine Calls.mono C0.out ?_); rintro e w1 ⟨a0, n0, c0, rfl, hch, hws⟩; have H1 : Hid (Chg w0 w1 rb [1] ∧ WS w1 rb a Ls a0 n0 c0) := ⟨hch, hws⟩; clear hch hws)
    | fail)
  clear hw0
  go_loopg [2] (Ls.length - a) (fun g s2 wx => ∃ (b : Nat) (cs : List C5) (a0 : Option Addr) (n0 c0 : Nat), s2 = .slice a0 n0 c0 ∧ Ls.length - b = g ∧ CJ innS W H a m Ls b cs ∧ Chg w wx rb [8, 1] ∧ wx.cell? ⟨rb, 8, none⟩ = some (.map (some w.heap.size)) ∧ KM wx w.heap.size cs ∧ WS wx rb b Ls a0 n0 c0)
  case atStart => exact ⟨a, [], a0, n0, c0, rfl, rfl, ⟨HA.out, ⟨List.Pairwise.nil, by simp⟩, by simp, rfl⟩, (H0.out.1.then H1.out.1).mono (by simp), (H1.out.1.2.1 8 (by simp)).trans H0.out.2.1, H0.out.2.2.grown H1.out.1.1 (by omega), H1.out.2⟩
  case round =>
    clear H0 H1 C0
    obtain ⟨b, cs, a0, n0, c0, rfl, rfl, hj, hch, h8, hkm, hws⟩ := hrel
    rcases hws with ⟨hn, rfl⟩ | ⟨j, ws, A, hn, rfl, rfl, rfl, hsr, hc1⟩
    · have HF : Hid (CrsTo innS W H a rb m Ls w wr (.returned (.tuple #[]))) := Or.inr ⟨cs, rfl, hj.end hW.1 hn, hj.2.1, hj.2.2.1, hch, h8, hkm⟩
      clear hj hch h8 hkm hn
      go_wp2
      first | go_ret | go_end0
      exact HF.out
    · have hjl := nx_lt hj.1 hn
      have hBr := HB.out.chg hch (by simp)
      have k2 := (hch.2.1 2 (by simp)).trans HC.out.2.1
      have k3 := (hch.2.1 3 (by simp)).trans HC.out.2.2.1
      have k5 := (hch.2.1 5 (by simp)).trans HC.out.2.2.2.1
      have k6 := (hch.2.1 6 (by simp)).trans HC.out.2.2.2.2.1
      have k7 := (hch.2.1 7 (by simp)).trans HC.out.2.2.2.2.2
      have CR : Calls Tryz.prog 28 #[.pointer (some ⟨rb, 0, none⟩), .slice (some ⟨A, 0, none⟩) ws.length ws.length] wr fun e w' => CrTo wr w' w.heap.size ((j : Int) + 1) (crS W H (innS W H m) cs ws) e :=
        readCrease_any rb A w.heap.size ((j : Int) + 1) ws W H ad cc ra rk (ty m W H) cs (innS W H m) wr (fun _ => rfl) hsr hc1 hW.2 hH.2 k2 k3 k5 k6 k7 h8 (HPA.out _ hch.1) hkm hj.2.1 (by omega)
      by_cases hr : (crS W H (innS W H m) cs ws).1 = 0
      · have CR0 : Hid (Calls Tryz.prog 28 #[.pointer (some ⟨rb, 0, none⟩), .slice (some ⟨A, 0, none⟩) ws.length ws.length] wr fun e w' => e = .returned (.tuple #[]) ∧ (KM w' w.heap.size (crS W H (innS W H m) cs ws).2 ∧ CsOk (crS W H (innS W H m) cs ws).2 ∧ wr.grownBy w' (some w.heap.size))) := CR.mono (by
          rintro e w' (⟨_, h, _⟩ | ⟨h1, _, h2, h3, h4⟩)
          · exact absurd hr h
          · exact ⟨h1, h2, h3, h4⟩)
        have C22 : Hid (∀ V : World, wr.grownBy V (some w.heap.size) → Calls Tryz.prog 22 #[.pointer (some ⟨rb, 0, none⟩)] V fun e w' => ∃ a0 n0 c0, e = .returned (.slice a0 n0 c0) ∧ Chg V w' rb [1] ∧ WS w' rb (j + 1) Ls a0 n0 c0) := fun V hg => by
          have hcv := hch.mix hg (Nat.le_refl _)
          refine words_w (HB.out.chg hcv (by simp)) ?_ (by omega)
          have := grown_cl hg (by omega) hc1
          rw [this]
          simp
        have HR : Hid (∀ (V V' : World), KM V w.heap.size (crS W H (innS W H m) cs ws).2 → CsOk (crS W H (innS W H m) cs ws).2 → wr.grownBy V (some w.heap.size) → Chg V V' rb [1] → CJ innS W H a m Ls (j + 1) (crS W H (innS W H m) cs ws).2 ∧ Chg w V' rb [8, 1] ∧ V'.cell? ⟨rb, 8, none⟩ = some (.map (some w.heap.size)) ∧ KM V' w.heap.size (crS W H (innS W H m) cs ws).2) := fun V V' q1 q2 q3 q4 =>
          ⟨hj.more hW.1 hn hr q2, ((hch.mix q3 (Nat.le_refl _)).then q4).mono (by simp), (q4.2.1 8 (by simp)).trans (grown_cl q3 (by omega) h8), q1.grown q4.1 (by omega)⟩
        clear CR hj hch h8 hkm hn hsr hc1 k2 k3 k5 k6 k7 hBr hr
        go_wp2_with (first
          | (go_at_call 28; (with_reducible refine Calls.mono CR0.out ?_); rintro e w2 ⟨rfl, h2⟩; have HX2 : Hid (KM w2 w.heap.size (crS W H (innS W H m) cs ws).2 ∧ CsOk (crS W H (innS W H m) cs ws).2 ∧ wr.grownBy w2 (some w.heap.size)) := h2; clear h2)
          | (go_at_call 22; (with_reducible refine Calls.mono (C22.out _ HX2.out.2.2) ?_); rintro e w3 ⟨a1, n1, c1, rfl, h3⟩; have HX3 : Hid (Chg w2 w3 rb [1] ∧ WS w3 rb (j + 1) Ls a1 n1 c1) := h3; clear h3)
          | fail)
        go_roundg (Ls.length - (j + 1))
        case measure => omega
        case rel =>
          have h9 := HR.out w2 w3 HX2.out.1 HX2.out.2.1 HX2.out.2.2 HX3.out.1
          exact ⟨j + 1, _, a1, n1, c1, rfl, rfl, h9.1, h9.2.1, h9.2.2.1, h9.2.2.2, HX3.out.2⟩
      · have CR1 : Hid (Calls Tryz.prog 28 #[.pointer (some ⟨rb, 0, none⟩), .slice (some ⟨A, 0, none⟩) ws.length ws.length] wr fun e w' => e = PF (crS W H (innS W H m) cs ws).1 ((j : Int) + 1) ∧ Below wr.heap.size wr w') := CR.mono (by
          rintro e w' (⟨h1, _, h2⟩ | ⟨_, h, _⟩)
          · exact ⟨h1, h2⟩
          · exact absurd h hr)
        have HF : Hid (∀ V : World, Below wr.heap.size wr V → CrsTo innS W H a rb m Ls w V (PF (crS W H (innS W H m) cs ws).1 ((j : Int) + 1))) := fun V hb => Or.inl ⟨_, j + 1, _, by simp, hr, hj.die hW.1 hn hr, (hch.kept hb).1⟩
        clear CR hj hch h8 hkm hn hsr hc1 k2 k3 k5 k6 k7 hBr hr
        go_wp2_with (first
          | (go_at_call 28; (with_reducible refine Calls.mono CR1.out ?_); rintro e w2 ⟨rfl, h2⟩; have HX2 : Hid (Below wr.heap.size wr w2) := h2; clear h2)
          | fail)
        have h9 := HF.out w2 HX2.out
        simp [bodyPost, PF] at h9 ⊢
        exact h9
end Go.Proofs.YtehmoacggikfmaaGreatDoor
namespace Go.Proofs.YtehmoacggikfmaaGreatDoor
open Go.RowKit

theorem sub_lenM : ∀ (a b : List E4), a.Nodup → (∀ x ∈ a, x ∈ b) → a.length ≤ b.length
  | [], _, _, _ => by simp
  | x :: r, b, h, hs => by
    rw [List.nodup_cons] at h
    have hx := hs x (by simp)
    have h1 := sub_lenM r (b.erase x) h.2 (fun y hy => by
      have hne : y ≠ x := fun e => h.1 (e ▸ hy)
      exact (List.mem_erase_of_ne hne).2 (hs y (by simp [hy])))
    rw [List.length_erase_of_mem hx] at h1
    have := List.length_pos_of_mem hx
    rw [List.length_cons]
    omega
/-- What a text says: its fault. -/
def FltOf (s : ByteArray) (c : Int) (n : Nat) : Prop :=
  (8000 < s.size ∧ c = 2 ∧ n = 0) ∨ (s.size ≤ 8000 ∧ ((∃ st, rdF innS RS0 0 (ln s.data.toList) = (c, n, st) ∧ c ≠ 0) ∨ (∃ W H m cs, rdF innS RS0 0 (ln s.data.toList) = (0, 0, ⟨W, H, H, m, cs⟩) ∧ ¬ Joined (ty m W H) ∧ c = 7 ∧ n = 0)))
/-- What a text says: its sheet. -/
def ShtOf (s : ByteArray) (W H : Nat) (m : List Int) (cs : List C5) : Prop := s.size ≤ 8000 ∧ rdF innS RS0 0 (ln s.data.toList) = (0, 0, ⟨W, H, H, m, cs⟩) ∧ Joined (ty m W H) ∧ m.length = W * H ∧ (∀ z ∈ m, 0 ≤ z ∧ z ≤ 15) ∧ (1 ≤ W ∧ W ≤ 8) ∧ (1 ≤ H ∧ H ≤ 8) ∧ cs.length ≤ 100000
/-- The two results, while a text is read. -/
structure RF (w V : World) : Prop where
  a0 : V.cell? ⟨w.heap.size, 0, none⟩ = some (.int .i64 0)
  a1 : V.cell? ⟨w.heap.size, 1, none⟩ = some (.int .i64 0)
  a2 : V.cell? ⟨w.heap.size, 2, none⟩ = some (.slice none 0 0)
  a3 : V.cell? ⟨w.heap.size, 3, none⟩ = some (.slice none 0 0)
  b0 : V.cell? ⟨w.heap.size + 1, 0, none⟩ = some (.int .i64 0)
  b1 : V.cell? ⟨w.heap.size + 1, 1, none⟩ = some (.int .i64 0)
  fa : ∀ o, V.frozen? ⟨w.heap.size, o, none⟩ = false
  fb : ∀ o, V.frozen? ⟨w.heap.size + 1, o, none⟩ = false
  bl : Below w.heap.size w V
  sz : w.heap.size + 2 ≤ V.heap.size
theorem RF.gro {w V V' : World} {row : Option Nat} (h : RF w V) (hg : V.grownBy V' row) (hr : ∀ r, row = some r → w.heap.size + 2 ≤ r) : RF w V' := by
  have n0 : some w.heap.size ≠ row := fun e => by have := hr _ e.symm; omega
  have n1 : some (w.heap.size + 1) ≠ row := fun e => by have := hr _ e.symm; omega
  have z := h.sz
  exact { a0 := grown_co hg n0 h.a0, a1 := grown_co hg n0 h.a1, a2 := grown_co hg n0 h.a2, a3 := grown_co hg n0 h.a3, b0 := grown_co hg n1 h.b0, b1 := grown_co hg n1 h.b1, fa := fun o => grown_fo hg n0 (by omega) (h.fa o), fb := fun o => grown_fo hg n1 (by omega) (h.fb o), bl := h.bl.grown hg h.bl.size (fun r e => by have := hr r e; omega), sz := Nat.le_trans z hg.size }
theorem RF.kept {w V V' : World} (h : RF w V) (hb : Below V.heap.size V V') : RF w V' := h.gro (bl_grown hb) (fun r e => by cases e)
theorem cs_len {L : List (Int × Int × Int)} {cs : List C5} (hc : CsOk cs) (hl : L.length ≤ 256) (hi : ∀ x ∈ cs, decide (cnt L x.1.1 x.1.2.1 x.1.2.2.1 x.1.2.2.2 = 2) = true) : cs.length ≤ 768 := by
  have hn : (cs.map fun x => x.1).Nodup := by
    have h := hc.1
    unfold srtE at h
    rw [List.nodup_iff_pairwise_ne, List.pairwise_map]
    exact h.imp (fun {a b} hab e => by rw [e, ltE_irr] at hab; cases hab)
  have h := sub_lenM (cs.map fun x => x.1) (L.flatMap fun t => [edg t 0, edg t 1, edg t 2]) hn (fun e he => by
    obtain ⟨x, hx, rfl⟩ := List.mem_map.1 he
    have h2 := of_decide_eq_true (hi x hx)
    have h3 : 0 < cnt L x.1.1 x.1.2.1 x.1.2.2.1 x.1.2.2.2 := by omega
    unfold cnt at h3
    obtain ⟨t, ht, hb⟩ := List.countP_pos_iff.1 h3
    obtain ⟨i, hi3, hie⟩ := hasT_edg (t := t) (e := x.1) hb
    refine List.mem_flatMap.2 ⟨t, ht, ?_⟩
    have : i = 0 ∨ i = 1 ∨ i = 2 := by omega
    rcases this with rfl | rfl | rfl <;> simp [← hie])
  have h4 : (L.flatMap fun t => [edg t 0, edg t 1, edg t 2]).length = 3 * L.length := by
    clear h hi hl
    induction L with
    | nil => rfl
    | cons a r ih => rw [List.flatMap_cons, List.length_append, ih, List.length_cons]; simp; omega
  rw [List.length_map, h4] at h
  omega
theorem lnF_len : ∀ (l cur : List UInt8), (lnF l cur).length ≤ l.length + 1
  | [], cur => by unfold lnF; split <;> simp
  | c :: r, cur => by
    unfold lnF
    split
    · have := lnF_len r []
      simp only [List.length_cons]
      omega
    · have := lnF_len r (cur ++ [c])
      simp only [List.length_cons]
      omega
theorem lnF_sz : ∀ (l cur : List UInt8) (x : List UInt8), x ∈ lnF l cur → x.length ≤ cur.length + l.length
  | [], cur, x, h => by
    unfold lnF at h
    split at h
    · simp at h
    · simp at h
      subst h
      simp
  | c :: r, cur, x, h => by
    unfold lnF at h
    rw [List.length_cons]
    split at h
    · rcases List.mem_cons.1 h with rfl | h
      · omega
      · have := lnF_sz r [] x h
        simp at this
        omega
    · have := lnF_sz r _ x h
      simp at this
      omega
theorem row_set {w : World} {mb b o : Nat} {m : List Int} {x : Value} (h : Row w (some ⟨mb, 0, none⟩) m) (hne : mb ≠ b) : Row (w.setCell ⟨b, o, none⟩ x) (some ⟨mb, 0, none⟩) m := fun i hi => by
  obtain ⟨b', o', e, hc⟩ := h i hi
  simp only [Option.some.injEq, Addr.mk.injEq] at e
  obtain ⟨rfl, rfl, -⟩ := e
  exact ⟨mb, 0, rfl, st_old hc hne⟩

theorem rd_skip (inn : Nat → Nat → List Int → E4 → Bool) {st : RS} {Ls : List (List UInt8)} {i : Nat} {D : List (List UInt8)} (hi : i < Ls.length) (hD : D = wd (ahd Ls[i])) (he : D = []) : rdF inn st i (Ls.drop i) = rdF inn st (i + 1) (Ls.drop (i + 1)) := by
  rw [List.drop_eq_getElem_cons hi, rdF, if_pos (hD ▸ he)]
theorem rd_go (inn : Nat → Nat → List Int → E4 → Bool) {st st' : RS} {Ls : List (List UInt8)} {i : Nat} {D : List (List UInt8)} (hi : i < Ls.length) (hD : D = wd (ahd Ls[i])) (hn : D ≠ []) (h0 : stp inn st D = (0, st')) : rdF inn st i (Ls.drop i) = rdF inn st' (i + 1) (Ls.drop (i + 1)) := by
  subst hD
  rw [List.drop_eq_getElem_cons hi, rdF, if_neg hn, h0]
  simp
theorem rd_die (inn : Nat → Nat → List Int → E4 → Bool) {st : RS} {Ls : List (List UInt8)} {i : Nat} {D : List (List UInt8)} {c : Int} (hi : i < Ls.length) (hD : D = wd (ahd Ls[i])) (hn : D ≠ []) (h0 : (stp inn st D).1 = c) (hc : c ≠ 0) : rdF inn st i (Ls.drop i) = (c, i + 1, st) := by
  subst hD
  subst h0
  rw [List.drop_eq_getElem_cons hi, rdF, if_neg hn, if_neg hc]
theorem rd_end (inn : Nat → Nat → List Int → E4 → Bool) {st : RS} {Ls : List (List UInt8)} {n : Nat} (hn : Ls.length ≤ n) : rdF inn st n (Ls.drop n) = if st.W = 0 ∨ st.rows < st.H then (1, n + 1, st) else (0, 0, st) := by
  rw [List.drop_of_length_le hn, rdF]
/-- What may come of lines. -/
def ROk (st : RS) : Prop := st = RS0 ∨ ((1 ≤ st.W ∧ st.W ≤ 8) ∧ (1 ≤ st.H ∧ st.H ≤ 8) ∧ st.rows ≤ st.H ∧ st.mask.length = st.W * st.H ∧ (∀ z ∈ st.mask, 0 ≤ z ∧ z ≤ 15) ∧ CsOk st.cs ∧ (∀ x ∈ st.cs, innS st.W st.H st.mask x.1 = true) ∧ (st.rows < st.H → st.cs = []))
theorem maskB_of {m : List Int} (h : ∀ z ∈ m, 0 ≤ z ∧ z ≤ 15) : maskB m = true := by
  unfold maskB
  rw [List.all_eq_true]
  exact fun z hz => decide_eq_true (h z hz)
theorem csok_nil : CsOk [] := ⟨List.Pairwise.nil, fun x h => by cases h⟩
theorem ROk.len {W H k : Nat} {m : List Int} {cs : List C5} (h : ROk ⟨W, H, k, m, cs⟩) (hW : 1 ≤ W) : cs.length ≤ 768 := by
  rcases h with h | ⟨h1, h2, h3, h4, h5, h6, h7, h8⟩
  · have : W = 0 := congrArg RS.W h
    omega
  · refine cs_len (L := ty m W H) h6 ?_ h7
    have := ty_len m W H h1.2
    have h9 := h2.2
    dsimp only at h9
    omega
/-- A sheet that is read: its block, the results, the lines. -/
structure QB (w wx : World) (sb lb : Nat) (Ls : List (List UInt8)) (W H : Nat) (mv cv : Value) : Prop where
  rf : RF w wx
  b2 : wx.cell? ⟨w.heap.size + 1, 2, none⟩ = none
  c0 : wx.cell? ⟨sb, 0, none⟩ = some (.int .i64 (W : Int))
  c1 : wx.cell? ⟨sb, 1, none⟩ = some (.int .i64 (H : Int))
  c2 : wx.cell? ⟨sb, 2, none⟩ = some mv
  c3 : wx.cell? ⟨sb, 3, none⟩ = some cv
  fz : ∀ o, wx.frozen? ⟨sb, o, none⟩ = false
  sr : SR wx lb Ls
  s2 : w.heap.size + 2 ≤ sb
theorem cell_same {w wx : World} {row : Option Nat} {b o : Nat} (hg : w.grownBy wx row) (hb : b < w.heap.size) (hne : some b ≠ row) : wx.cell? ⟨b, o, none⟩ = w.cell? ⟨b, o, none⟩ := World.cell?_of_block (hg.block b hb hne)
theorem QB.lt {w wx : World} {sb lb W H : Nat} {Ls : List (List UInt8)} {mv cv : Value} (h : QB w wx sb lb Ls W H mv cv) : sb < wx.heap.size := World.block_lt_of_cell? _ _ h.c0
theorem QB.gro {w wx wy : World} {sb lb W H : Nat} {Ls : List (List UInt8)} {mv cv : Value} {row : Option Nat} (h : QB w wx sb lb Ls W H mv cv) (hg : wx.grownBy wy row) (hr : ∀ r, row = some r → w.heap.size + 2 ≤ r ∧ r ≠ sb ∧ (Ls ≠ [] → r ≠ lb)) : QB w wy sb lb Ls W H mv cv := by
  have n0 : some sb ≠ row := fun e => (hr _ e.symm).2.1 rfl
  have n1 : some (w.heap.size + 1) ≠ row := fun e => by have := (hr _ e.symm).1; omega
  have z := h.rf.sz
  exact { rf := h.rf.gro hg (fun r e => (hr r e).1), b2 := (cell_same hg (by omega) n1).trans h.b2, c0 := grown_co hg n0 h.c0, c1 := grown_co hg n0 h.c1, c2 := grown_co hg n0 h.c2, c3 := grown_co hg n0 h.c3, fz := fun o => grown_fo hg n0 h.lt (h.fz o), sr := fun i hi => grown_co hg (fun e => (hr _ e.symm).2.2 (fun e0 => by rw [e0] at hi; simp at hi) rfl) (h.sr i hi), s2 := h.s2 }
theorem QB.kept {w wx wy : World} {sb lb W H : Nat} {Ls : List (List UInt8)} {mv cv : Value} (h : QB w wx sb lb Ls W H mv cv) (hb : Below wx.heap.size wx wy) : QB w wy sb lb Ls W H mv cv := h.gro (bl_grown hb) (fun r e => by cases e)
theorem QB.nel {w wx : World} {sb lb W H b : Nat} {Ls : List (List UInt8)} {mv cv : Value} {x : Int} (h : QB w wx sb lb Ls W H mv cv) (hc : wx.cell? ⟨b, 0, none⟩ = some (.int .i64 x)) (hn : Ls ≠ []) : b ≠ lb := by
  rintro rfl
  have h1 := h.sr 0 (List.length_pos_iff.2 hn)
  rw [hc] at h1
  cases h1
theorem set_oth {w : World} {b o k : Nat} {v x : Value} (hk : k ≠ o) (h : w.cell? ⟨b, k, none⟩ = some x) : (w.setCell ⟨b, o, none⟩ v).cell? ⟨b, k, none⟩ = some x := by
  rw [World.cell?_setCell_other _ _ _ _ (by simp <;> omega)]
  exact h
/-- The sheet's block is written anew. -/
theorem QB.put4 {w wx : World} {sb lb W H W' H' : Nat} {Ls : List (List UInt8)} {mv cv mv' cv' : Value} (h : QB w wx sb lb Ls W H mv cv) : QB w ((((wx.setCell ⟨sb, 0, none⟩ (.int .i64 (W' : Int))).setCell ⟨sb, 1, none⟩ (.int .i64 (H' : Int))).setCell ⟨sb, 2, none⟩ mv').setCell ⟨sb, 3, none⟩ cv') sb lb Ls W' H' mv' cv' := by
  have z := h.rf.sz
  have s2 := h.s2
  have hg : ∀ (V : World) (o : Nat) (v : Value), V.grownBy (V.setCell ⟨sb, o, none⟩ v) (some sb) := fun V o v => grown_cell V sb o v
  have hrf : ∀ (V : World) (o : Nat) (v : Value), RF w V → RF w (V.setCell ⟨sb, o, none⟩ v) := fun V o v hV => hV.gro (hg V o v) (fun r e => by cases e; exact s2)
  have hb2 : ∀ (V : World) (o : Nat) (v : Value), RF w V → V.cell? ⟨w.heap.size + 1, 2, none⟩ = none → (V.setCell ⟨sb, o, none⟩ v).cell? ⟨w.heap.size + 1, 2, none⟩ = none := fun V o v hV e => (cell_same (hg V o v) (by have := hV.sz; omega) (fun e => by cases e; omega)).trans e
  have hsr : ∀ (V : World) (o : Nat) (v : Value), (Ls ≠ [] → lb ≠ sb) → SR V lb Ls → SR (V.setCell ⟨sb, o, none⟩ v) lb Ls := fun V o v hn hV i hi => st_old (hV i hi) (hn (fun e0 => by rw [e0] at hi; simp at hi))
  have hne : Ls ≠ [] → lb ≠ sb := fun hn => Ne.symm (h.nel h.c0 hn)
  have r1 := hrf _ 0 (.int .i64 (W' : Int)) h.rf
  have r2 := hrf _ 1 (.int .i64 (H' : Int)) r1
  have r3 := hrf _ 2 mv' r2
  have r4 := hrf _ 3 cv' r3
  have e0 := World.cell?_setCell_same wx ⟨sb, 0, none⟩ (.int .i64 (W' : Int)) h.c0
  have e1 := World.cell?_setCell_same (wx.setCell ⟨sb, 0, none⟩ (.int .i64 (W' : Int))) ⟨sb, 1, none⟩ (.int .i64 (H' : Int)) (set_oth (by decide) h.c1)
  have e2 := World.cell?_setCell_same ((wx.setCell ⟨sb, 0, none⟩ (.int .i64 (W' : Int))).setCell ⟨sb, 1, none⟩ (.int .i64 (H' : Int))) ⟨sb, 2, none⟩ mv' (set_oth (by decide) (set_oth (by decide) h.c2))
  have e3 := World.cell?_setCell_same (((wx.setCell ⟨sb, 0, none⟩ (.int .i64 (W' : Int))).setCell ⟨sb, 1, none⟩ (.int .i64 (H' : Int))).setCell ⟨sb, 2, none⟩ mv') ⟨sb, 3, none⟩ cv' (set_oth (by decide) (set_oth (by decide) (set_oth (by decide) h.c3)))
  exact { rf := r4, b2 := hb2 _ _ _ r3 (hb2 _ _ _ r2 (hb2 _ _ _ r1 (hb2 _ _ _ h.rf h.b2))), c0 := set_oth (by decide) (set_oth (by decide) (set_oth (by decide) e0)), c1 := set_oth (by decide) (set_oth (by decide) e1), c2 := set_oth (by decide) e2, c3 := e3, fz := fun o => by rw [World.frozen?_setCell, World.frozen?_setCell, World.frozen?_setCell, World.frozen?_setCell]; exact h.fz o, sr := hsr _ _ _ hne (hsr _ _ _ hne (hsr _ _ _ hne (hsr _ _ _ hne h.sr))), s2 := s2 }
/-- The mask is laid. -/
theorem QB.put2 {w wx : World} {sb lb W H : Nat} {Ls : List (List UInt8)} {mv cv : Value} (h : QB w wx sb lb Ls W H mv cv) (mv' : Value) : QB w (wx.setCell ⟨sb, 2, none⟩ mv') sb lb Ls W H mv' cv := by
  have hg := grown_cell wx sb 2 mv'
  have z := h.rf.sz
  have s2 := h.s2
  exact { rf := h.rf.gro hg (fun r e => by cases e; exact s2), b2 := (cell_same hg (by omega) (fun e => by cases e; omega)).trans h.b2, c0 := set_oth (by decide) h.c0, c1 := set_oth (by decide) h.c1, c2 := World.cell?_setCell_same _ _ _ h.c2, c3 := set_oth (by decide) h.c3, fz := fun o => by rw [World.frozen?_setCell]; exact h.fz o, sr := fun i hi => st_old (h.sr i hi) (Ne.symm (h.nel h.c0 (fun e0 => by rw [e0] at hi; simp at hi))), s2 := s2 }
/-- The mask of a sheet that is read. -/
def MK (w wx : World) (sb : Nat) (st : RS) (mv : Value) : Prop := (st.W = 0 ∧ mv = .slice none 0 0) ∨ (1 ≤ st.W ∧ ∃ mb, mv = .slice (some ⟨mb, 0, none⟩) (st.W * st.H) (st.W * st.H) ∧ MI wx mb st.mask ∧ mb ≠ sb ∧ w.heap.size + 2 ≤ mb)
/-- All that stands while lines are read. -/
def QI (w wx : World) (sb lb : Nat) (Ls : List (List UInt8)) (st : RS) : Prop := ∃ mv ca cc, QB w wx sb lb Ls st.W st.H mv (.slice ca st.cs.length cc) ∧ MK w wx sb st mv ∧ JRow wx ca st.cs
theorem MK.kept {w wx wy : World} {sb : Nat} {st : RS} {mv : Value} (h : MK w wx sb st mv) (hb : Below wx.heap.size wx wy) : MK w wy sb st mv := by
  rcases h with h | ⟨h0, mb, h1, h2, h3⟩
  · exact Or.inl h
  · exact Or.inr ⟨h0, mb, h1, h2.kept hb, h3⟩
theorem QI.kept {w wx wy : World} {sb lb : Nat} {Ls : List (List UInt8)} {st : RS} (h : QI w wx sb lb Ls st) (hb : Below wx.heap.size wx wy) : QI w wy sb lb Ls st := by
  obtain ⟨mv, ca, cc, h1, h2, h3⟩ := h
  exact ⟨mv, ca, cc, h1.kept hb, h2.kept hb, h3.kept hb⟩
/-- Texts that one owns. -/
theorem own_words {w w' : World} {v : Value} {D : List (List UInt8)} (h : LI w w' v D) : ∃ a c A, v = .slice a D.length c ∧ (D ≠ [] → a = some ⟨A, 0, none⟩) ∧ SR w' A D ∧ (D ≠ [] → w.heap.size ≤ A) ∧ Below w.heap.size w w' := by
  obtain ⟨ho, hb⟩ := h
  have hlt := ho.lt
  obtain ⟨ho1, ho2⟩ := ho
  rcases ho2 with ⟨rfl, h0⟩ | ⟨g, cap, cur, rfl, hrest⟩
  · have e : D = [] := List.length_eq_zero_iff.1 h0
    subst e
    exact ⟨none, 0, 0, rfl, fun e => absurd rfl e, fun i hi => by simp at hi, fun e => absurd rfl e, hb⟩
  · refine ⟨some ⟨g, 0, none⟩, cap, g, rfl, fun _ => rfl, fun i hi => ?_, fun _ => (hlt g rfl).1, hb⟩
    have ho3 : w'.ownsRow w.heap.size 9 1 (.slice (some ⟨g, 0, none⟩) D.length cap) D.length (stV D) := ⟨ho1, Or.inr ⟨g, cap, cur, rfl, hrest⟩⟩
    refine (ho3.cellAt i (by rw [Nat.mul_one]; exact hi)).trans ?_
    simp [stV, hi]
/-- What the reference's reading answers. -/
def RsTo (w w' : World) (s : ByteArray) (e : Ending) : Prop :=
  (∃ (c : Int) (n : Nat), e = .returned (.tuple #[.agg #[.int .i64 0, .int .i64 0, .slice none 0 0, .slice none 0 0], .agg #[.int .i64 c, .int .i64 (n : Int)]]) ∧ FltOf s c n ∧ Below w.heap.size w w') ∨
  (∃ (W H : Nat) (m : List Int) (cs : List C5) (mb : Nat) (ca : Option Addr) (cc : Nat), e = .returned (.tuple #[.agg #[.int .i64 (W : Int), .int .i64 (H : Int), .slice (some ⟨mb, 0, none⟩) (W * H) (W * H), .slice ca cs.length cc], .agg #[.int .i64 0, .int .i64 0]]) ∧ ShtOf s W H m cs ∧ Row w' (some ⟨mb, 0, none⟩) m ∧ JRow w' ca cs ∧ Below w.heap.size w w')
theorem stp_size (inn : Nat → Nat → List Int → E4 → Bool) (D : List (List UInt8)) : stp inn ⟨0, 0, 0, [], []⟩ D = ((szS D).1, ⟨(szS D).2.1, (szS D).2.2, 0, List.replicate ((szS D).2.1 * (szS D).2.2) 0, []⟩) := rfl
theorem szS_len {D : List (List UInt8)} (h : D.length ≠ 3) : szS D = (1, 0, 0) := by
  unfold szS
  rw [if_pos (Or.inl h)]
theorem szS_word {x y z : List UInt8} (h : x ≠ sheetW) : szS [x, y, z] = (1, 0, 0) := by
  unfold szS
  exact if_pos (Or.inr h)
theorem szS_no {y z : List UInt8} (h : num y = none ∨ num z = none) : szS [sheetW, y, z] = (1, 0, 0) := by
  unfold szS
  rw [if_neg (by simp [getW])]
  show (match num y, num z with | some a, some b => _ | _, _ => _) = _
  rcases h with h | h
  · rw [h]
  · rw [h]
    cases num y <;> rfl
theorem szS_out {y z : List UInt8} {a b : Nat} (h1 : num y = some a) (h2 : num z = some b) (h : ¬ ((1 ≤ a ∧ a ≤ 8) ∧ (1 ≤ b ∧ b ≤ 8))) : szS [sheetW, y, z] = (3, 0, 0) := by
  unfold szS
  rw [if_neg (by simp [getW])]
  show (match num y, num z with | some a, some b => _ | _, _ => _) = _
  rw [h1, h2]
  exact if_neg h
theorem szS_ok {y z : List UInt8} {a b : Nat} (h1 : num y = some a) (h2 : num z = some b) (h : (1 ≤ a ∧ a ≤ 8) ∧ (1 ≤ b ∧ b ≤ 8)) : szS [sheetW, y, z] = (0, a, b) := by
  unfold szS
  rw [if_neg (by simp [getW])]
  show (match num y, num z with | some a, some b => _ | _, _ => _) = _
  rw [h1, h2]
  exact if_pos h
theorem ROk.size {a b : Nat} (h : (1 ≤ a ∧ a ≤ 8) ∧ (1 ≤ b ∧ b ≤ 8)) : ROk ⟨a, b, 0, List.replicate (a * b) 0, []⟩ := Or.inr ⟨h.1, h.2, Nat.zero_le _, List.length_replicate, fun z hz => by rw [List.eq_of_mem_replicate hz]; decide, csok_nil, fun x (hx : x ∈ []) => by simp at hx, fun _ => rfl⟩
theorem ROk.row {W H k B : Nat} {m : List Int} {x : List UInt8} (h : ROk ⟨W, H, k, m, []⟩) (hW : 1 ≤ W) (hk : k < H) : ROk ⟨W, H, k + 1, stM m B x, []⟩ := by
  rcases h with h | ⟨h1, h2, h3, h4, h5, h6, h7, h8⟩
  · have : W = 0 := congrArg RS.W h
    omega
  · exact Or.inr ⟨h1, h2, hk, by rw [stM_length]; exact h4, stM_bd _ _ _ h5, csok_nil, fun x (hx : x ∈ []) => by simp at hx, fun _ => rfl⟩
theorem ROk.cre {W H : Nat} {m : List Int} {cs cs' : List C5} (h : ROk ⟨W, H, H, m, cs⟩) (hW : 1 ≤ W) (hc : CsOk cs') (hi : ∀ x ∈ cs', innS W H m x.1 = true) : ROk ⟨W, H, H, m, cs'⟩ := by
  rcases h with h | ⟨h1, h2, h3, h4, h5, h6, h7, h8⟩
  · have : W = 0 := congrArg RS.W h
    omega
  · exact Or.inr ⟨h1, h2, h3, h4, h5, hc, hi, fun h => absurd h (Nat.lt_irrefl _)⟩
theorem MI.made {w : World} {N : Nat} {CC : Array Value} (hCC : ∀ i, i < N → CC[i]? = some (.int .i64 0)) : MI (w.alloc (.cells CC 3)) w.heap.size (List.replicate N 0) := fun i hi => by
  have hi2 : i < N := by simpa using hi
  refine ⟨?_, by simp [go_sem]⟩
  rw [World.cell?_alloc_new, hCC i hi2]
  simp
theorem jrow_nb {w : World} {ca : Option Addr} {cs : List C5} {sb : Nat} (h : JRow w ca cs) (hv : ∀ x, w.cell? ⟨sb, 2, none⟩ ≠ some (.int .i64 x)) : cs ≠ [] → ∀ g, ca = some ⟨g, 0, none⟩ → g ≠ sb := by
  intro hn g e e2
  obtain ⟨g', e', _, _, h2, _⟩ := h 0 (List.length_pos_iff.2 hn)
  rw [e] at e'
  simp only [Option.some.injEq, Addr.mk.injEq] at e'
  rw [← e'.1, e2] at h2
  simp only [Nat.zero_mul, Nat.zero_add] at h2
  exact hv _ h2
theorem jrow_setm {w : World} {a : Option Addr} {l : List C5} {b o : Nat} {x : Value} (h : JRow w a l) (hne : l ≠ [] → ∀ g, a = some ⟨g, 0, none⟩ → g ≠ b) : JRow (w.setCell ⟨b, o, none⟩ x) a l := fun i hi => by
  obtain ⟨g, e, h0, h1, h2, h3, h4⟩ := h i hi
  have q := hne (fun e => by rw [e] at hi; simp at hi) g e
  exact ⟨g, e, st_old h0 q, st_old h1 q, st_old h2 q, st_old h3 q, st_old h4 q⟩
theorem jrow_none (w : World) (ca : Option Addr) : JRow w ca [] := fun i hi => by simp at hi
end Go.Proofs.YtehmoacggikfmaaGreatDoor
