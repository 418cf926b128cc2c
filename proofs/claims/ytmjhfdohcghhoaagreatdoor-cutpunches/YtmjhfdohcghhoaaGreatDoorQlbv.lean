/- The reference's PiecesOf. -/
import Derived.Test.YtmjhfdohcghhoaaGreatDoorQlbl
import Derived.Test.YtmjhfdohcghhoaaGreatDoorQlbu
namespace Go.Proofs.YtmjhfdohcghhoaaGreatDoor
open Go.RowKit
attribute [local go_sem ↓] Go.wp_at_zero Go.wp_at_succ

/-- Sides, and what is not there apart from all. -/
def sdT (th : Nat → Bool) (sd : Nat → Int) (i : Nat) : Int := if th i = true then 2 * sd i else 2 * (i : Int) + 1
theorem sdT_eq {th : Nat → Bool} {sd : Nat → Int} {i j : Nat} (hne : j ≠ i) : decide (sdT th sd i = sdT th sd j) = (th i && th j && decide (sd i = sd j)) := by
  rw [Bool.eq_iff_iff]
  simp only [decide_eq_true_eq, Bool.and_eq_true, sdT]
  split <;> split <;> simp_all <;> omega
/-- The pieces, of what is there. -/
def rfsT (L : List (Int × Int × Int)) (th : Nat → Bool) (who : Nat → Nat) : Nat → List (List (Int × Int × Int))
  | 0 => []
  | i + 1 => if who i = i ∧ th i = true then rfsT L th who i ++ [sel L who i L.length] else rfsT L th who i
theorem rfsT_le (L : List (Int × Int × Int)) (th : Nat → Bool) (who : Nat → Nat) : ∀ i, (rfsT L th who i).length ≤ i
  | 0 => by simp [rfsT]
  | i + 1 => by
    have := rfsT_le L th who i
    unfold rfsT
    split
    · simp
      omega
    · omega
set_option maxRecDepth 100000 in
set_option maxHeartbeats 12800000 in
theorem piecesOf_any (W H b off cap : Nat) (n ccap gt ct gd cd : Nat) (cb : Option Addr) (zs : List Int) (th : Nat → Bool) (sd : Nat → Int) (w : World) (hr : Row w (some ⟨b, off, none⟩) zs) (hW : 1 ≤ W ∧ W ≤ 8) (hH : 1 ≤ H ∧ H ≤ 8) (hl : zs.length = W * H) (hm : maskB zs = true) (hth : ∀ i, i < (ty zs W H).length → w.cell? ⟨gt, i, none⟩ = some (.bool (th i))) (hsd : ∀ i, i < (ty zs W H).length → w.cell? ⟨gd, i, none⟩ = some (.int .i64 (sd i))) :
    Calls Tryz.prog 36 #[.agg #[.int .i64 (W : Int), .int .i64 (H : Int), .slice (some ⟨b, off, none⟩) zs.length cap, .slice cb n ccap], .slice (some ⟨gt, 0, none⟩) (ty zs W H).length ct, .slice (some ⟨gd, 0, none⟩) (ty zs W H).length cd] w fun e w' => ∃ v who, e = .returned v ∧ (InvC (crS (ty zs W H) (sdT th sd)) (ty zs W H) who ∧ ∀ i e, i < (ty zs W H).length → e < 3 → OkC (crS (ty zs W H) (sdT th sd)) (ty zs W H) who i e) ∧ Nest w' w.heap.size v (rfsT (ty zs W H) th who (ty zs W H).length) ∧ Below w.heap.size w w' := by
  have C38 : Hid (∀ W' : World, Below w.heap.size w W' → Calls Tryz.prog 30 #[.agg #[.int .i64 (W : Int), .int .i64 (H : Int), .slice (some ⟨b, off, none⟩) zs.length cap, .slice cb n ccap]] W' fun e w' => ∃ v, e = .returned v ∧ w'.ownsRow (W'.heap.size + 1) 43 3 v (ty zs W H).length (flatV (ty zs W H)) ∧ Below W'.heap.size W' w') := fun W' hW' => trisOf_any W H b off cap zs (.slice cb n ccap) W' (hr.kept hW') hW hH hl hm
  have HBD : Hid (∀ t ∈ ty zs W H, (0 ≤ t.1 ∧ t.1 ≤ 8) ∧ (0 ≤ t.2.1 ∧ t.2.1 ≤ 8) ∧ (0 ≤ t.2.2 ∧ t.2.2 ≤ 3)) := ty_bd hW.2 hH.2
  have hlen : (ty zs W H).length ≤ 256 := by have := ty_len zs W H hW.2; omega
  obtain ⟨i3, hi3, hz0, hz1, hz2⟩ := info_parts inf3
  have HI3 : Hid (Tryz.prog.info? 3 = some i3 ∧ i3.zero = some (.int .i64 0) ∧ i3.size = 1 ∧ i3.bytes = 8) := ⟨hi3, hz0, hz1, hz2⟩
  have HRW : Hid ((∀ i, i < (ty zs W H).length → w.cell? ⟨gt, i, none⟩ = some (.bool (th i))) ∧ ∀ i, i < (ty zs W H).length → w.cell? ⟨gd, i, none⟩ = some (.int .i64 (sd i))) := ⟨hth, hsd⟩
  have HND : Hid ((ty zs W H).Nodup) := ty_nodup zs W H
  obtain ⟨iS, hi1, hz10, hz11, hz12⟩ := info_parts infS
  have HI1 : Hid (Tryz.prog.info? 44 = some iS ∧ iS.zero = some (.slice none 0 0) ∧ iS.size = 1 ∧ iS.bytes = 24) := ⟨hi1, hz10, hz11, hz12⟩
  obtain ⟨iT, hi2, hz20, hz21, hz22⟩ := info_parts infT
  have HI2 : Hid (Tryz.prog.info? 43 = some iT ∧ iT.zero = some (.agg #[.int .i64 0, .int .i64 0, .int .i64 0]) ∧ iT.size = 3 ∧ iT.bytes = 24) := ⟨hi2, hz20, hz21, hz22⟩
  clear hth hsd hr hl hm hW hH hi3 hz0 hz1 hz2 hi1 hz10 hz11 hz12 hi2 hz20 hz21 hz22
  obtain ⟨L, hL⟩ : ∃ L, L = ty zs W H := ⟨_, rfl⟩
  rw [← hL] at C38 HBD hlen HRW HND ⊢
  clear hL
  go_enter Tryz.func36, Tryz.ntmps36
  go_wp2_with (first
    | (go_at_call 30; refine (C38.out _ (by with_reducible exact bl_alloc (bl_refl _))).mono ?_; rintro e w1 ⟨v, rfl, ho, hb⟩; obtain ⟨a, ca, rfl, hT⟩ := own_tris ho; have HWX : Hid (∃ wB, Below w.heap.size w wB ∧ (wB.cell? ⟨w.heap.size, 0, none⟩ = some (.int .i64 (W : Int)) ∧ wB.cell? ⟨w.heap.size, 1, none⟩ = some (.int .i64 (H : Int)) ∧ wB.cell? ⟨w.heap.size, 2, none⟩ = some (.slice (some ⟨b, off, none⟩) zs.length cap) ∧ wB.cell? ⟨w.heap.size, 3, none⟩ = some (.slice cb n ccap)) ∧ Below wB.heap.size wB w1) := ⟨_, bl_alloc (bl_refl _), ⟨by simp [go_sem], by simp [go_sem], by simp [go_sem], by simp [go_sem]⟩, hb⟩; have HWT : Hid (TRow w1 a L) := hT; clear hT ho hb)
    | (at_make; refine wpList_make_full _ rfl (.tmp 24) (.tmp 24) 22 rfl w1.heap.size 3 i3 (.int .i64 0) 1 Tryz.underlying22 HI3.out.1 HI3.out.2.1 HI3.out.2.2.1 .i64 .i64 _ _ L.length rfl rfl rfl rfl ?b2 ?b3 ?b4 ?mk))
  all_goals obtain ⟨wB, hwB, hbox, hwB1⟩ := HWX.out
  all_goals have HW : Hid (TRow w1 a L ∧ Below wB.heap.size wB w1) := ⟨HWT.out, hwB1⟩
  all_goals have HBOX : Hid (Below w.heap.size w wB ∧ wB.cell? ⟨w.heap.size, 0, none⟩ = some (.int .i64 (W : Int)) ∧ wB.cell? ⟨w.heap.size, 1, none⟩ = some (.int .i64 (H : Int)) ∧ wB.cell? ⟨w.heap.size, 2, none⟩ = some (.slice (some ⟨b, off, none⟩) zs.length cap) ∧ wB.cell? ⟨w.heap.size, 3, none⟩ = some (.slice cb n ccap)) := ⟨hwB, hbox⟩
  all_goals clear hwB hbox hwB1 HWX HWT
  case b2 =>
    rw [HI3.out.2.2.2]
    omega
  case b3 =>
    unfold maxLen
    omega
  case b4 => exact Nat.le_refl _
  case mk =>
    intro w2 ho hg
    have hbel : Below w1.heap.size w1 w2 := (Below.refl _ _).grown hg (Nat.le_refl _) (fun k h => by cases h)
    have hF : ∀ i, i < L.length → (∃ u, w2.cell? ⟨w1.heap.size, i, none⟩ = some u) ∧ w2.frozen? ⟨w1.heap.size, i, none⟩ = false := fun i hi => by
      have h1 := ho.1
      have h2 := ho.cellAt i (by omega)
      exact ⟨⟨_, h2.trans (List.getElem?_eq_getElem (by omega))⟩, ho.frozenAt i⟩
    obtain ⟨g, hgg⟩ : ∃ g, g = w1.heap.size := ⟨_, rfl⟩
    have HF : Hid (TRB w2 a L g ∧ (∀ i, i < L.length → (∃ u, w2.cell? ⟨g, i, none⟩ = some u) ∧ w2.frozen? ⟨g, i, none⟩ = false) ∧ Below wB.heap.size wB w2 ∧ wB.heap.size ≤ g) := ⟨(row_trb HW.out.1 (by omega)).kept hbel, by rw [hgg]; exact hF, bl_via HW.out.2 hbel, by rw [hgg]; exact HW.out.2.size⟩
    rw [← hgg]
    clear hF hbel ho hg hgg HW
    go_wp2
    go_loopg [9] L.length (fun gk s9 wx => ∃ i : Nat, i ≤ L.length ∧ gk = L.length - i ∧ s9 = .int .i64 (i : Int) ∧ TRB wx a L g ∧ (∀ j, j < L.length → (∃ u, wx.cell? ⟨g, j, none⟩ = some u) ∧ wx.frozen? ⟨g, j, none⟩ = false) ∧ (∀ j, j < i → wx.cell? ⟨g, j, none⟩ = some (.int .i64 (j : Int))) ∧ Below wB.heap.size wB wx)
    case atStart => exact ⟨0, by omega, rfl, rfl, HF.out.1, HF.out.2.1, fun j h => by omega, HF.out.2.2.1⟩
    case round =>
      obtain ⟨i, hi, rfl, rfl, hT, hC, hD, hB⟩ := hrel
      have HR : Hid (TRB wr a L g ∧ (∀ j, j < L.length → (∃ u, wr.cell? ⟨g, j, none⟩ = some u) ∧ wr.frozen? ⟨g, j, none⟩ = false) ∧ (∀ j, j < i → wr.cell? ⟨g, j, none⟩ = some (.int .i64 (j : Int))) ∧ Below wB.heap.size wB wr) := ⟨hT, hC, hD, hB⟩
      clear hT hC hD hB
      by_cases h1 : i < L.length
      · have i1 : (i : Int) < (L.length : Int) := by omega
        have i0 : (0 : Int) ≤ (i : Int) := by omega
        obtain ⟨⟨u, hu⟩, hf⟩ := HR.out.2.1 i h1
        go_wp2
        go_roundg (L.length - (i + 1))
        case measure => omega
        case rel =>
          refine ⟨i + 1, by omega, rfl, by go_num, HR.out.1.set, fun j hj => ?_, fun j hj => ?_, bl_set HR.out.2.2.2 HF.out.2.2.2⟩
          · refine ⟨?_, by rw [World.frozen?_setCell]; exact (HR.out.2.1 j hj).2⟩
            by_cases e : j = i
            · subst e
              exact ⟨_, World.cell?_setCell_same _ _ _ hu⟩
            · obtain ⟨u', hu'⟩ := (HR.out.2.1 j hj).1
              exact ⟨u', (World.cell?_setCell_other _ _ _ _ (by intro hh; injection hh with _ h2; exact e h2.symm)).trans hu'⟩
          · by_cases e : j = i
            · subst e
              exact World.cell?_setCell_same _ _ _ hu
            · exact (World.cell?_setCell_other _ _ _ _ (by intro hh; injection hh with _ h2; exact e h2.symm)).trans (HR.out.2.2.1 j (by omega))
      · have i1 : ¬ (i : Int) < (L.length : Int) := by omega
        have HG : Hid (GWp wB wr a L g (fun j => j)) := ⟨HR.out.1, fun j hj => ⟨HR.out.2.2.1 j (by omega), (HR.out.2.1 j hj).2⟩, HR.out.2.2.2⟩
        have hgl : wB.heap.size ≤ g := HF.out.2.2.2
        clear HR HF
        go_wp2
        go_loopg [10] (sumW (fun j => j) L.length + 1) (fun gk s10 wx => ∃ (who : Nat → Nat) (ch : Bool), s10 = .bool ch ∧ gk = sumW who L.length + (if ch = true then 1 else 0) ∧ InvC (crS L (sdT th sd)) L who ∧ (ch = false → ∀ i e, i < L.length → e < 3 → OkC (crS L (sdT th sd)) L who i e) ∧ GWp wB wx a L g who)
        case atStart => exact ⟨fun j => j, true, rfl, rfl, invC_id _ L, by simp, HG.out⟩
        case round =>
          clear HG
          obtain ⟨who, ch, rfl, rfl, hI, hO, hG⟩ := hrel
          have HI : Hid (InvC (crS L (sdT th sd)) L who) := hI
          have HO : Hid (ch = false → ∀ i e, i < L.length → e < 3 → OkC (crS L (sdT th sd)) L who i e) := hO
          have HG : Hid (GWp wB wr a L g who) := hG
          clear hI hO hG
          cases ch
          · have HGx : Hid (TRow wr a L ∧ WRow wr g L.length who ∧ (InvC (crS L (sdT th sd)) L who ∧ ∀ i e, i < L.length → e < 3 → OkC (crS L (sdT th sd)) L who i e) ∧ Below w.heap.size w wr) := ⟨HG.out.1.row, HG.out.2.1, ⟨HI.out, HO.out (by simp)⟩, bl_via HBOX.out.1 HG.out.2.2⟩
            obtain ⟨w2, hw2⟩ : ∃ W', W' = wr := ⟨_, rfl⟩
            rw [← hw2] at HGx ⊢
            clear HG HI HO hw2 hgl
            have HG : Hid (TRow w2 a L ∧ WRow w2 g L.length who ∧ (InvC (crS L (sdT th sd)) L who ∧ ∀ i e, i < L.length → e < 3 → OkC (crS L (sdT th sd)) L who i e) ∧ Below w.heap.size w w2) := HGx
            clear HGx
            go_wp2
            go_loopg [17, 18] L.length (fun gk s17 s18 wx => ∃ i : Nat, i ≤ L.length ∧ gk = L.length - i ∧ s18 = .int .i64 (i : Int) ∧ FW w2 wx s17 (rfsT L th who i))
            case atStart => exact ⟨0, by omega, rfl, rfl, nest_nil _ _, bl_refl _⟩
            case round =>
              obtain ⟨i, hi, rfl, rfl, hF⟩ := hrel
              obtain ⟨vA, hvA⟩ : ∃ u, u = u17 := ⟨_, rfl⟩
              subst hvA
              have HF : Hid (FW w2 wr vA (rfsT L th who i)) := hF
              clear hF
              by_cases h1 : i < L.length
              · have i1 : (i : Int) < (L.length : Int) := by omega
                have i0 : (0 : Int) ≤ (i : Int) := by omega
                have z0 := cl_kept HF.out.2 (HG.out.2.1 i h1).1
                have zz : g < wr.heap.size := World.block_lt_of_cell? _ _ z0
                have hle := rfsT_le L th who i
                have ti := cl_kept (bl_via HG.out.2.2.2 HF.out.2) (HRW.out.1 i h1)
                have zt9 : gt < wr.heap.size := World.block_lt_of_cell? _ _ ti
                obtain ⟨bi, hbi⟩ : ∃ b, b = th i := ⟨_, rfl⟩
                rw [← hbi] at ti
                by_cases hw : who i = i ∧ bi = true
                · have qw : ((i : Int) != (i : Int)) = false := by simp
                  rw [hw.1] at z0
                  rw [hw.2] at ti
                  have HN : Hid (rfsT L th who (i + 1) = rfsT L th who i ++ [sel L who i L.length]) := by
                    have : rfsT L th who (i + 1) = rfsT L th who i ++ [sel L who i L.length] := by rw [rfsT, if_pos ⟨hw.1, by rw [← hbi]; exact hw.2⟩]
                    exact this
                  clear hw hbi
                  obtain ⟨WB, hWB⟩ : ∃ W' : World, W' = wr := ⟨_, rfl⟩
                  have HF2 : Hid (FW w2 WB vA (rfsT L th who i)) := by
                    have : FW w2 WB vA (rfsT L th who i) := by rw [hWB]; exact HF.out
                    exact this
                  have HWB : Hid (Below WB.heap.size WB wr) := by
                    have : Below WB.heap.size WB wr := by rw [hWB]; exact bl_refl _
                    exact this
                  clear hWB HF
                  go_wp2
                  clear z0 zz ti zt9 qw
                  go_loopg [19, 20] L.length (fun gk s19 s20 wx => ∃ k : Nat, k ≤ L.length ∧ gk = L.length - k ∧ s20 = .int .i64 (k : Int) ∧ wx.ownsRow WB.heap.size 43 3 s19 (sel L who i k).length (flatV (sel L who i k)) ∧ Below WB.heap.size WB wx)
                  case atStart => exact ⟨0, by omega, rfl, rfl, by simpa [sel, flatV] using World.ownsRow_nil _ _ _ _, HWB.out⟩
                  case round =>
                    clear HWB
                    obtain ⟨k, hk, rfl, rfl, ho, hB⟩ := hrel
                    obtain ⟨vB, hvB⟩ : ∃ u, u = u19 := ⟨_, rfl⟩
                    subst hvB
                    have HO : Hid (wr.ownsRow WB.heap.size 43 3 vB (sel L who i k).length (flatV (sel L who i k)) ∧ Below WB.heap.size WB wr ∧ Below w2.heap.size w2 wr) := ⟨ho, hB, bl_via HF2.out.2 hB⟩
                    clear ho hB
                    have hsl := sel_le L who i k
                    by_cases hk1 : k < L.length
                    · have k1 : (k : Int) < (L.length : Int) := by omega
                      have k0 : (0 : Int) ≤ (k : Int) := by omega
                      have z0 := cl_kept HO.out.2.2 (HG.out.2.1 k hk1).1
                      have zz : g < wr.heap.size := World.block_lt_of_cell? _ _ z0
                      obtain ⟨ga, rfl, t0, t1, t2⟩ := (HG.out.1.kept HO.out.2.2) k hk1
                      obtain ⟨t, ht⟩ : ∃ t, t = L[k] := ⟨_, rfl⟩
                      obtain ⟨x, y, kk⟩ := t
                      rw [← ht] at t0 t1 t2
                      dsimp only at t0 t1 t2
                      have zt : ga < wr.heap.size := World.block_lt_of_cell? _ _ t0
                      have HT : Hid (L.getD k (0, 0, 0) = (x, y, kk)) := by
                        have : L.getD k (0, 0, 0) = (x, y, kk) := by rw [List.getD_eq_getElem?_getD, List.getElem?_eq_getElem hk1, ht]; rfl
                        exact this
                      clear ht
                      by_cases hw2 : who k = i
                      · rw [hw2] at z0
                        have HS : Hid (sel L who i (k + 1) = sel L who i k ++ [(x, y, kk)]) := by
                          have : sel L who i (k + 1) = sel L who i k ++ [(x, y, kk)] := by rw [sel, if_pos hw2, HT.out]
                          exact this
                        clear hw2
                        go_wp2_with (at_builtin; refine wpList_append_own _ rfl (.tmp 143) (.tmp 148) 44 rfl WB.heap.size 43 iT (.agg #[.int .i64 0, .int .i64 0, .int .i64 0]) 3 24 Tryz.underlying44 HI2.out.1 HI2.out.2.1 HI2.out.2.2.1 HI2.out.2.2.2 rfl (by decide) vB (sel L who i k).length (flatV (sel L who i k)) rfl ?own ⟨wr.heap.size, 0, none⟩ 1 1 [.int .i64 x, .int .i64 y, .int .i64 kk] rfl rfl ?c1 ?c2 ?b1 ?b2 ?b3 ?grow)
                        case own => exact own_below HO.out.1 (bl_alloc (bl_refl _))
                        case c1 => exact cell_three_new _ _ _ _
                        case c2 =>
                          intro u hu
                          simp at hu
                          rcases hu with rfl | rfl | rfl <;> rfl
                        case b1 =>
                          unfold maxLen
                          omega
                        case b2 => omega
                        case b3 =>
                          have := HO.out.2.1.size
                          simp
                          omega
                        case grow =>
                          intro v' w3 hown hgrow hnil
                          have HB3 : Hid (Below WB.heap.size WB w3) := (bl_alloc HO.out.2.1).grown hgrow (by have := HO.out.2.1.size; simp; omega) (own_base HO.out.1)
                          have HO3 : Hid (w3.ownsRow WB.heap.size 43 3 v' ((sel L who i k).length + 1) (flatV (sel L who i k) ++ [.int .i64 x, .int .i64 y, .int .i64 kk])) := hown
                          clear hown hgrow hnil
                          go_wp2
                          go_roundg (L.length - (k + 1))
                          case measure => omega
                          case rel =>
                            refine ⟨k + 1, by omega, rfl, by go_num, ?_, HB3.out⟩
                            rw [HS.out, flatV_snoc, List.length_append]
                            exact HO3.out
                      · have hw3 : ¬ (who k : Int) = (i : Int) := by omega
                        have HS : Hid (sel L who i (k + 1) = sel L who i k) := by
                          have : sel L who i (k + 1) = sel L who i k := by rw [sel, if_neg hw2]
                          exact this
                        clear hw2
                        go_wp2
                        go_roundg (L.length - (k + 1))
                        case measure => omega
                        case rel =>
                          refine ⟨k + 1, by omega, rfl, by go_num, ?_, HO.out.2.1⟩
                          rw [HS.out]
                          exact HO.out.1
                    · have k1 : ¬ (k : Int) < (L.length : Int) := by omega
                      obtain rfl : k = L.length := by omega
                      obtain ⟨a7, c7, rfl, hg7⟩ := own_form HO.out.1
                      clear hg7
                      obtain ⟨vs, hvs⟩ := HF2.out.1
                      have HV : Hid (NestV wr w2.heap.size vA (rfsT L th who i) vs) := hvs.kept HO.out.2.1
                      have HVB : Hid (NestV WB w2.heap.size vA (rfsT L th who i) vs) := hvs
                      clear hvs
                      go_wp2_with (at_builtin; refine wpList_append_own _ rfl (.tmp 150) (.tmp 152) 32 rfl w2.heap.size 44 iS (.slice none 0 0) 1 24 Tryz.underlying32 HI1.out.1 HI1.out.2.1 HI1.out.2.2.1 HI1.out.2.2.2 rfl (by decide) vA (rfsT L th who i).length vs rfl ?own ⟨wr.heap.size, 0, none⟩ 1 1 [.slice a7 (sel L who i L.length).length c7] rfl rfl ?c1 ?c2 ?b1 ?b2 ?b3 ?grow)
                      case own => exact own_below HV.out.2.1 (bl_alloc (bl_refl _))
                      case c2 => rfl
                      case b1 =>
                        unfold maxLen
                        omega
                      case b2 => omega
                      case b3 =>
                        have := HO.out.2.2.size
                        simp
                        omega
                      case grow =>
                        intro v' w3 hown hgrow hnil
                        have HB3 : Hid (Below w2.heap.size w2 w3) := (bl_alloc HO.out.2.2).grown hgrow (by have := HO.out.2.2.size; simp; omega) (own_base HV.out.2.1)
                        have hN := (HV.out.kept (bl_alloc (bl_refl _))).add (f := sel L who i L.length) (World_own_le (own_below HO.out.1 (bl_alloc (bl_refl _))) HF2.out.2.size) (fun q hq b' hb' e => by
                          have h8 := own_base HO.out.1 b' hb'
                          have h9 := ((HVB.out.2.2.1 q hq (by rw [← HVB.out.1]; exact hq)).lt b' e).2
                          omega) hown hgrow
                        have HN3 : Hid (Nest w3 w2.heap.size v' (rfsT L th who i ++ [sel L who i L.length])) := ⟨_, hN⟩
                        clear hown hgrow hnil hN
                        go_wp2
                        go_roundg (L.length - (i + 1))
                        case measure => omega
                        case rel => exact ⟨i + 1, by omega, rfl, by go_num, by rw [HN.out]; exact HN3.out, HB3.out⟩
                · have HN : Hid (rfsT L th who (i + 1) = rfsT L th who i) := by
                    have : rfsT L th who (i + 1) = rfsT L th who i := by rw [rfsT, if_neg (by rw [← hbi]; exact hw)]
                    exact this
                  by_cases hwi : who i = i
                  · have hb9 : bi = false := by
                      cases q : bi
                      · rfl
                      · exact absurd ⟨hwi, q⟩ hw
                    have qw : ((i : Int) != (i : Int)) = false := by simp
                    rw [hwi] at z0
                    rw [hb9] at ti
                    clear hw hwi hb9 hbi
                    go_wp2
                    go_roundg (L.length - (i + 1))
                    case measure => omega
                    case rel => exact ⟨i + 1, by omega, rfl, by go_num, by rw [HN.out]; exact HF.out.1, HF.out.2⟩
                  · have qw : ((who i : Int) != (i : Int)) = true := by
                      rw [bne_iff_ne]
                      omega
                    clear hw hwi hbi
                    go_wp2
                    go_roundg (L.length - (i + 1))
                    case measure => omega
                    case rel => exact ⟨i + 1, by omega, rfl, by go_num, by rw [HN.out]; exact HF.out.1, HF.out.2⟩
              · have i1 : ¬ (i : Int) < (L.length : Int) := by omega
                obtain rfl : i = L.length := by omega
                go_wp2
                exact bodyPost_ret (v := vA) (by simp [results, Tryz.results36, go_sem]) rfl ⟨vA, rfl, who, HG.out.2.2.1, HF.out.1.mono HG.out.2.2.2.size, bl_via HG.out.2.2.2 HF.out.2⟩
          · obtain ⟨S0, hS0⟩ : ∃ S, S = sumW who L.length := ⟨_, rfl⟩
            have HS0 : Hid (S0 = sumW who L.length) := hS0
            go_wp2
            go_loopg [10, 11] L.length (fun gk s10 s11 wx => ∃ (i : Nat) (who : Nat → Nat) (ch : Bool), i ≤ L.length ∧ gk = L.length - i ∧ s10 = .bool ch ∧ s11 = .int .i64 (i : Int) ∧ InvC (crS L (sdT th sd)) L who ∧ (sumW who L.length ≤ S0 ∧ (ch = true → sumW who L.length < S0)) ∧ (ch = false → ∀ i' e, i' < i → e < 3 → OkC (crS L (sdT th sd)) L who i' e) ∧ GWp wB wx a L g who)
            case atStart => exact ⟨0, who, false, by omega, rfl, rfl, rfl, HI.out, ⟨by omega, by simp⟩, fun _ i' e h => by omega, HG.out⟩
            case round =>
              clear HG HI HO
              obtain ⟨i, who1, ch, hi, rfl, rfl, rfl, hI, hS, hO, hG⟩ := hrel
              have HI : Hid (InvC (crS L (sdT th sd)) L who1 ∧ (sumW who1 L.length ≤ S0 ∧ (ch = true → sumW who1 L.length < S0)) ∧ (ch = false → ∀ i' e, i' < i → e < 3 → OkC (crS L (sdT th sd)) L who1 i' e)) := ⟨hI, hS, hO⟩
              have HG : Hid (GWp wB wr a L g who1) := hG
              clear hI hS hO hG
              by_cases h1 : i < L.length
              · have i1 : (i : Int) < (L.length : Int) := by omega
                have i0 : (0 : Int) ≤ (i : Int) := by omega
                obtain ⟨ga, rfl, hne, t0, t1, t2⟩ := HG.out.1 i h1
                have hbd := HBD.out _ (List.getElem_mem h1)
                have zg : g < wr.heap.size := World.block_lt_of_cell? _ _ (HG.out.2.1 i h1).1
                obtain ⟨t, ht⟩ : ∃ t, t = L[i] := ⟨_, rfl⟩
                obtain ⟨x, y, k⟩ := t
                rw [← ht] at t0 t1 t2 hbd
                dsimp only at t0 t1 t2 hbd
                have HE : Hid ((x, y, k) = L[i]) := ht
                have HTB : Hid (triB x y k = true ∧ Kd L[i]) := ⟨by simp [triB]; omega, by rw [← ht]; exact hbd.2.2⟩
                have C13 : Hid (∀ W' : World, Calls Tryz.prog 57 #[.agg #[.int .i64 x, .int .i64 y, .int .i64 k]] W' fun e w' => ∃ g, e = .returned (.slice (some ⟨g, 0, none⟩) 3 3) ∧ W'.heap.size ≤ g ∧ Twl w' g (ue0 x y k) (ue1 x y k) (ue2 x y k) (ue3 x y k) (ue4 x y k) (ue5 x y k) (ue6 x y k) (ue7 x y k) (ue8 x y k) (ue9 x y k) (ue10 x y k) (ue11 x y k) ∧ Below W'.heap.size W' w') := fun W' => edgesOf_any x y k W' (by omega) (by omega) (by omega) (by omega) hbd.2.2.1 hbd.2.2.2
                clear ht hbd
                go_wp2_with (go_at_call 57; refine (C13.out _).mono ?_; rintro e w3 ⟨ge, rfl, hge, hM, hb⟩; have HG3 : Hid (GWp wB w3 (some ⟨ga, 0, none⟩) L g who1 ∧ Twl w3 ge (ue0 x y k) (ue1 x y k) (ue2 x y k) (ue3 x y k) (ue4 x y k) (ue5 x y k) (ue6 x y k) (ue7 x y k) (ue8 x y k) (ue9 x y k) (ue10 x y k) (ue11 x y k)) := ⟨HG.out.kept hb, hM⟩; have hgg : g < ge := (by omega); clear hge hM hb)
                go_loopg [10, 13] 3 (fun gk s10 s13 wx => ∃ (k' : Nat) (who : Nat → Nat) (ch : Bool), k' ≤ 3 ∧ gk = 3 - k' ∧ s10 = .bool ch ∧ s13 = .int .i64 (k' : Int) ∧ InvC (crS L (sdT th sd)) L who ∧ (sumW who L.length ≤ S0 ∧ (ch = true → sumW who L.length < S0)) ∧ (ch = false → (∀ i' e, i' < i → e < 3 → OkC (crS L (sdT th sd)) L who i' e) ∧ ∀ e, e < k' → OkC (crS L (sdT th sd)) L who i e) ∧ GWp wB wx (some ⟨ga, 0, none⟩) L g who ∧ Twl wx ge (ue0 x y k) (ue1 x y k) (ue2 x y k) (ue3 x y k) (ue4 x y k) (ue5 x y k) (ue6 x y k) (ue7 x y k) (ue8 x y k) (ue9 x y k) (ue10 x y k) (ue11 x y k))
                case atStart => exact ⟨0, who1, ch, by omega, rfl, rfl, rfl, HI.out.1, HI.out.2.1, fun h => ⟨HI.out.2.2 h, fun e h => by omega⟩, HG3.out.1, HG3.out.2⟩
                case round =>
                  clear HG HG3 HI t0 t1 t2 zg
                  obtain ⟨k', who2, ch2, hk', rfl, rfl, rfl, hI, hS, hO, hG, hTw⟩ := hrel
                  have HI : Hid (InvC (crS L (sdT th sd)) L who2 ∧ (sumW who2 L.length ≤ S0 ∧ (ch2 = true → sumW who2 L.length < S0)) ∧ (ch2 = false → (∀ i' e, i' < i → e < 3 → OkC (crS L (sdT th sd)) L who2 i' e) ∧ ∀ e, e < k' → OkC (crS L (sdT th sd)) L who2 i e)) := ⟨hI, hS, hO⟩
                  have HG : Hid (GWp wB wr (some ⟨ga, 0, none⟩) L g who2 ∧ Twl wr ge (ue0 x y k) (ue1 x y k) (ue2 x y k) (ue3 x y k) (ue4 x y k) (ue5 x y k) (ue6 x y k) (ue7 x y k) (ue8 x y k) (ue9 x y k) (ue10 x y k) (ue11 x y k)) := ⟨hG, hTw⟩
                  clear hI hS hO hG hTw
                  by_cases hk3 : k' < 3
                  · have k1 : (k' : Int) < 3 := by omega
                    have k0 : (0 : Int) ≤ (k' : Int) := by omega
                    obtain ⟨E0, E1, E2, E3, HEG⟩ := edge_of x y k ge k' hk3
                    obtain ⟨ga', ea, hne', t0, t1, t2⟩ := HG.out.1.1 i h1
                    obtain ⟨m0, m1, m2, m3⟩ := HEG.out.2.2 _ HG.out.2
                    simp only [Option.some.injEq, Addr.mk.injEq, and_true] at ea
                    subst ea
                    rw [← HE.out] at t0 t1 t2
                    dsimp only at t0 t1 t2
                    have zt : ga < wr.heap.size := World.block_lt_of_cell? _ _ t0
                    have ze : ge < wr.heap.size := World.block_lt_of_cell? _ _ m0
                    go_wp2
                    go_cut [14, 15] (fun sa sb wx => ∃ g12 : Nat, sa = .pointer (some ⟨g12, 0, none⟩) ∧ sb = .bool true ∧ Tr wx g12 (acX x y k E0 E1 E2 E3) (acY x y k E0 E1 E2 E3) (acK x y k E0 E1 E2 E3) ∧ Below wr.heap.size wr wx)
                    case first =>
                      go_region_held3 (fun w' => w'.cell? ⟨ga, i * 3, none⟩ = some (.int .i64 x) ∧ w'.cell? ⟨ga, i * 3 + 1, none⟩ = some (.int .i64 y) ∧ w'.cell? ⟨ga, i * 3 + 2, none⟩ = some (.int .i64 k) ∧ w'.cell? ⟨ge, k' * 4, none⟩ = some (.int .i64 E0) ∧ w'.cell? ⟨ge, k' * 4 + 1, none⟩ = some (.int .i64 E1) ∧ w'.cell? ⟨ge, k' * 4 + 2, none⟩ = some (.int .i64 E2) ∧ w'.cell? ⟨ge, k' * 4 + 3, none⟩ = some (.int .i64 E3))
                        ((refine ⟨?_, ?_, ?_, ?_, ?_, ?_, ?_⟩ <;> (repeat' (first | (with_reducible assumption) | (with_reducible refine st_far ?_ ?_) | (dsimp only; omega) | (simp [go_sem]; done) | (with_reducible refine al_old ?_) | (with_reducible refine dr_old ?_)))))
                        ((go_at_call 58; refine (acrossOf_yes _ _ _ _ _ _ _ _ HTB.out.1 HEG.out.2.1).mono ?_; rintro e w8 ⟨rfl, hb⟩; have t0_w8 : w8.cell? ⟨ga, i * 3, none⟩ = some (.int .i64 x) := cl_kept hb (by with_reducible (repeat (first | assumption | refine dr_old ?_ | refine al_old ?_))); have t1_w8 : w8.cell? ⟨ga, i * 3 + 1, none⟩ = some (.int .i64 y) := cl_kept hb (by with_reducible (repeat (first | assumption | refine dr_old ?_ | refine al_old ?_))); have t2_w8 : w8.cell? ⟨ga, i * 3 + 2, none⟩ = some (.int .i64 k) := cl_kept hb (by with_reducible (repeat (first | assumption | refine dr_old ?_ | refine al_old ?_))); have m0_w8 : w8.cell? ⟨ge, k' * 4, none⟩ = some (.int .i64 E0) := cl_kept hb (by with_reducible (repeat (first | assumption | refine dr_old ?_ | refine al_old ?_))); have m1_w8 : w8.cell? ⟨ge, k' * 4 + 1, none⟩ = some (.int .i64 E1) := cl_kept hb (by with_reducible (repeat (first | assumption | refine dr_old ?_ | refine al_old ?_))); have m2_w8 : w8.cell? ⟨ge, k' * 4 + 2, none⟩ = some (.int .i64 E2) := cl_kept hb (by with_reducible (repeat (first | assumption | refine dr_old ?_ | refine al_old ?_))); have m3_w8 : w8.cell? ⟨ge, k' * 4 + 3, none⟩ = some (.int .i64 E3) := cl_kept hb (by with_reducible (repeat (first | assumption | refine dr_old ?_ | refine al_old ?_))); (first | (have hfz := fresh_a (g := wr.heap.size) rfl hb; obtain ⟨fy0, fy1, fy2, fz0, fz1, fz2, fz3⟩ := hfz) | (have hfz := fresh_d (g := wr.heap.size) rfl hb; obtain ⟨fy0, fy1, fy2, fz0, fz1, fz2, fz3⟩ := hfz) | (have hfz := fresh_dd (g := wr.heap.size) rfl hb; obtain ⟨fy0, fy1, fy2, fz0, fz1, fz2, fz3⟩ := hfz) | skip); have hq : Below wr.heap.size wr w8 := (by with_reducible (first | exact hb | exact bl_undrew hb | exact bl_undrew (bl_undrew hb) | exact bl_via (bl_alloc (bl_refl _)) hb | exact bl_via (bl_drew (bl_alloc (bl_refl _))) hb | exact bl_via (bl_alloc (bl_drew (bl_refl _))) hb | exact bl_via (bl_drew (bl_alloc (bl_drew (bl_refl _)))) hb)); have HQ : Hid (Below wr.heap.size wr w8) := hq; have zs0 : ga < w8.heap.size := World.block_lt_of_cell? _ _ t0_w8; have zs1 : ge < w8.heap.size := World.block_lt_of_cell? _ _ m0_w8; clear hb hq))
                      all_goals
                        go_wp2
                        go_meet
                        case rel =>
                          refine ⟨_, rfl, rfl, ?_, ?_⟩
                          · first | (simp [Tr, go_sem]; done) | (simp [Tr, go_sem, *]; done)
                          · with_reducible repeat' (first | exact HQ.out | refine bl_set ?_ ?_ | refine bl_alloc ?_ | refine bl_drew ?_)
                            all_goals (first | omega | (dsimp only; omega) | (simp; done))
                    case rest =>
                      obtain ⟨g12, rfl, rfl, hTr, hBc⟩ := hcut
                      have HG1 : Hid (GWp wB wc (some ⟨ga, 0, none⟩) L g who2 ∧ Twl wc ge (ue0 x y k) (ue1 x y k) (ue2 x y k) (ue3 x y k) (ue4 x y k) (ue5 x y k) (ue6 x y k) (ue7 x y k) (ue8 x y k) (ue9 x y k) (ue10 x y k) (ue11 x y k)) := ⟨HG.out.1.kept hBc, HG.out.2.kept hBc⟩
                      have HTr : Hid (Tr wc g12 (acX x y k E0 E1 E2 E3) (acY x y k E0 E1 E2 E3) (acK x y k E0 E1 E2 E3)) := hTr
                      clear hTr hBc HG t0 t1 t2 m0 m1 m2 m3 zt ze
                      obtain ⟨n0, n1, n2⟩ := HTr.out
                      have zn : g12 < wc.heap.size := World.block_lt_of_cell? _ _ n0
                      have HPL : Hid (plc L (acr L[i] (edg L[i] k')) = plc L ((acX x y k E0 E1 E2 E3), (acY x y k E0 E1 E2 E3), (acK x y k E0 E1 E2 E3))) := by
                        show plc L (acr L[i] (edg L[i] k')) = plc L ((acX x y k E0 E1 E2 E3), (acY x y k E0 E1 E2 E3), (acK x y k E0 E1 E2 E3))
                        rw [← HE.out, HEG.out.1]
                        rfl
                      rcases plc_bd L ((acX x y k E0 E1 E2 E3), (acY x y k E0 E1 E2 E3), (acK x y k E0 E1 E2 E3)) with hp | ⟨j, hj, hp⟩
                      · have C110 : Hid (∀ W' : World, TRow W' (some ⟨ga, 0, none⟩) L → Calls Tryz.prog 32 #[.slice (some ⟨ga, 0, none⟩) L.length ca, .agg #[.int .i64 (acX x y k E0 E1 E2 E3), .int .i64 (acY x y k E0 E1 E2 E3), .int .i64 (acK x y k E0 E1 E2 E3)]] W' fun e w' => e = .returned (.int .i64 (-1)) ∧ Below W'.heap.size W' w') := fun W' hT => hp ▸ placeOf_any _ ca L _ _ _ W' hT hlen
                        have HOK : Hid (OkC (crS L (sdT th sd)) L who2 i k') := fun hi' _ j' hj' hq => by
                          rw [HPL.out, hp] at hq
                          omega
                        clear hp
                        go_upto_region 19 with (go_at_call 32; refine (C110.out _ (HG1.out.1.1.row)).mono ?_; rintro e w10 ⟨rfl, hb⟩; have HG2 : Hid (GWp wB w10 (some ⟨ga, 0, none⟩) L g who2 ∧ Twl w10 ge (ue0 x y k) (ue1 x y k) (ue2 x y k) (ue3 x y k) (ue4 x y k) (ue5 x y k) (ue6 x y k) (ue7 x y k) (ue8 x y k) (ue9 x y k) (ue10 x y k) (ue11 x y k)) := ⟨HG1.out.1.kept hb, HG1.out.2.kept hb⟩; clear hb)
                        have kc := Kin.cells w10
                        have kn : Nonempty (Kin w10) := ⟨⟨w10, bl_refl _⟩⟩
                        refine wp_region_kin (by kernel_rfl) (by kernel_rfl) ?_
                        repeat (go_big_quiet_step (fail))
                        refine wpQuiet_nil ?_
                        intro wq hw'
                        obtain ⟨nq, hw''⟩ := hw'
                        have hq : Below w10.heap.size w10 wq := hw'' ▸ nq.h
                        clear hw'' nq kc kn
                        have HGf : Hid (GWp wB wq (some ⟨ga, 0, none⟩) L g who2 ∧ Twl wq ge (ue0 x y k) (ue1 x y k) (ue2 x y k) (ue3 x y k) (ue4 x y k) (ue5 x y k) (ue6 x y k) (ue7 x y k) (ue8 x y k) (ue9 x y k) (ue10 x y k) (ue11 x y k)) := ⟨HG2.out.1.kept hq, HG2.out.2.kept hq⟩
                        clear hq
                        go_wp2
                        go_roundg (3 - (k' + 1))
                        case measure => omega
                        case rel =>
                          refine ⟨k' + 1, who2, ch2, by omega, rfl, rfl, by go_num, HI.out.1, HI.out.2.1, fun h => ⟨(HI.out.2.2 h).1, fun e' he' => ?_⟩, HGf.out.1, HGf.out.2⟩
                          by_cases ee : e' = k'
                          · subst ee; exact HOK.out
                          · exact (HI.out.2.2 h).2 e' (by omega)
                      · have C110 : Hid (∀ W' : World, TRow W' (some ⟨ga, 0, none⟩) L → Calls Tryz.prog 32 #[.slice (some ⟨ga, 0, none⟩) L.length ca, .agg #[.int .i64 (acX x y k E0 E1 E2 E3), .int .i64 (acY x y k E0 E1 E2 E3), .int .i64 (acK x y k E0 E1 E2 E3)]] W' fun e w' => e = .returned (.int .i64 (j : Int)) ∧ Below W'.heap.size W' w') := fun W' hT => hp ▸ placeOf_any _ ca L _ _ _ W' hT hlen
                        have HP : Hid (plc L (acr L[i] (edg L[i] k')) = (j : Int)) := HPL.out.trans hp
                        have j1 : (j : Int) < (L.length : Int) := by omega
                        have j0 : (0 : Int) ≤ (j : Int) := by omega
                        have jn : ¬ (j : Int) < 0 := by omega
                        clear hp
                        have HCR : Hid (crS L (sdT th sd) (edg L[i] k') = (th i && th j && decide (sd i = sd j))) := by
                          have : crS L (sdT th sd) (edg L[i] k') = (th i && th j && decide (sd i = sd j)) := by
                            have hLj := plc_get hj HP.out
                            have ha := acr_adj HTB.out.2 (edg_own L[i] k')
                            have hne : j ≠ i := fun e => ha.2.1 (by rw [← hLj]; subst e; rfl)
                            rw [crS_is HND.out (fun t ht => (HBD.out t ht).2.2) h1 hj hne (edg_own _ _) (by rw [hLj]; exact ha.1)]
                            exact sdT_eq hne
                          exact this
                        go_upto_region 19 with (go_at_call 32; refine (C110.out _ (HG1.out.1.1.row)).mono ?_; rintro e w10 ⟨rfl, hb⟩; have HG2 : Hid (GWp wB w10 (some ⟨ga, 0, none⟩) L g who2 ∧ Twl w10 ge (ue0 x y k) (ue1 x y k) (ue2 x y k) (ue3 x y k) (ue4 x y k) (ue5 x y k) (ue6 x y k) (ue7 x y k) (ue8 x y k) (ue9 x y k) (ue10 x y k) (ue11 x y k)) := ⟨HG1.out.1.kept hb, HG1.out.2.kept hb⟩; clear hb)
                        obtain ⟨ci, fi⟩ := HG2.out.1.2.1 i h1
                        obtain ⟨cj, fj⟩ := HG2.out.1.2.1 j hj
                        have hbw : Below w.heap.size w w10 := bl_via HBOX.out.1 HG2.out.1.2.2
                        have ti := cl_kept hbw (HRW.out.1 i h1)
                        have tj := cl_kept hbw (HRW.out.1 j hj)
                        have di := cl_kept hbw (HRW.out.2 i h1)
                        have dj := cl_kept hbw (HRW.out.2 j hj)
                        have zg9 : g < w10.heap.size := World.block_lt_of_cell? _ _ ci
                        have zt9 : gt < w10.heap.size := World.block_lt_of_cell? _ _ ti
                        have zd9 : gd < w10.heap.size := World.block_lt_of_cell? _ _ di
                        clear hbw
                        obtain ⟨bi, hbi⟩ : ∃ b, b = th i := ⟨_, rfl⟩
                        obtain ⟨bj, hbj⟩ : ∃ b, b = th j := ⟨_, rfl⟩
                        obtain ⟨si, hsi⟩ : ∃ b, b = sd i := ⟨_, rfl⟩
                        obtain ⟨sj, hsj⟩ : ∃ b, b = sd j := ⟨_, rfl⟩
                        rw [← hbi, ← hbj, ← hsi, ← hsj] at HCR
                        rw [← hbi] at ti
                        rw [← hbj] at tj
                        rw [← hsi] at di
                        rw [← hsj] at dj
                        clear hbi hbj hsi hsj
                        obtain ⟨bb, HBB⟩ : ∃ bb : Bool, Hid (bb = false ↔ (bi = true ∧ bj = true ∧ si = sj ∧ who2 j < who2 i)) := by
                          by_cases q : bi = true ∧ bj = true ∧ si = sj ∧ who2 j < who2 i
                          · exact ⟨false, ⟨fun _ => q, fun _ => rfl⟩⟩
                          · exact ⟨true, ⟨(fun h => by cases h), fun h => absurd h q⟩⟩
                        go_cut [104] (fun s104 wx => s104 = .bool bb ∧ Below w10.heap.size w10 wx)
                        case first =>
                          have jn9 : ¬ (j : Int) < 0 := by omega
                          cases bi
                          · have HT1 : Hid (bb = true) := by
                              cases q : bb
                              · exact absurd (HBB.out.1 q).1 (by decide)
                              · exact rfl
                            have kc := Kin.cells w10
                            have kn : Nonempty (Kin w10) := ⟨⟨w10, bl_refl _⟩⟩
                            refine wp_region_kin (by kernel_rfl) (by kernel_rfl) ?_
                            repeat (go_big_quiet_step (fail))
                            refine wpQuiet_nil ?_
                            intro wq hw'
                            obtain ⟨nq, hw''⟩ := hw'
                            have hq : Below w10.heap.size w10 wq := hw'' ▸ nq.h
                            clear hw'' nq kc kn
                            go_wp2
                            go_meet
                            case rel => exact ⟨by rw [HT1.out], hq⟩
                          · cases bj
                            · have HT1 : Hid (bb = true) := by
                                cases q : bb
                                · exact absurd (HBB.out.1 q).2.1 (by decide)
                                · exact rfl
                              have kc := Kin.cells w10
                              have kn : Nonempty (Kin w10) := ⟨⟨w10, bl_refl _⟩⟩
                              refine wp_region_kin (by kernel_rfl) (by kernel_rfl) ?_
                              repeat (go_big_quiet_step (fail))
                              refine wpQuiet_nil ?_
                              intro wq hw'
                              obtain ⟨nq, hw''⟩ := hw'
                              have hq : Below w10.heap.size w10 wq := hw'' ▸ nq.h
                              clear hw'' nq kc kn
                              go_wp2
                              go_meet
                              case rel => exact ⟨by rw [HT1.out], hq⟩
                            · by_cases hs9 : si = sj
                              · have HT1 : Hid (bb = decide (who2 i ≤ who2 j)) := by
                                  have : bb = decide (who2 i ≤ who2 j) := by
                                    cases q : bb
                                    · symm
                                      rw [decide_eq_false_iff_not]
                                      have := (HBB.out.1 q).2.2.2
                                      omega
                                    · symm
                                      rw [decide_eq_true_eq]
                                      refine Nat.not_lt.1 fun h => ?_
                                      have := HBB.out.2 ⟨rfl, rfl, hs9, h⟩
                                      rw [q] at this
                                      cases this
                                  exact this
                                have qs : (si != sj) = false := by simpa using hs9
                                clear hs9
                                have kc := Kin.cells w10
                                have kn : Nonempty (Kin w10) := ⟨⟨w10, bl_refl _⟩⟩
                                refine wp_region_kin (by kernel_rfl) (by kernel_rfl) ?_
                                repeat (go_big_quiet_step (fail))
                                refine wpQuiet_nil ?_
                                intro wq hw'
                                obtain ⟨nq, hw''⟩ := hw'
                                have hq : Below w10.heap.size w10 wq := hw'' ▸ nq.h
                                clear hw'' nq kc kn
                                go_wp2
                                go_meet
                                case rel => exact ⟨by rw [HT1.out], hq⟩
                              · have HT1 : Hid (bb = true) := by
                                  cases q : bb
                                  · exact absurd (HBB.out.1 q).2.2.1 hs9
                                  · exact rfl
                                have qs : (si != sj) = true := by simpa using hs9
                                clear hs9
                                have kc := Kin.cells w10
                                have kn : Nonempty (Kin w10) := ⟨⟨w10, bl_refl _⟩⟩
                                refine wp_region_kin (by kernel_rfl) (by kernel_rfl) ?_
                                repeat (go_big_quiet_step (fail))
                                refine wpQuiet_nil ?_
                                intro wq hw'
                                obtain ⟨nq, hw''⟩ := hw'
                                have hq : Below w10.heap.size w10 wq := hw'' ▸ nq.h
                                clear hw'' nq kc kn
                                go_wp2
                                go_meet
                                case rel => exact ⟨by rw [HT1.out], hq⟩
                        case rest =>
                          obtain ⟨rfl, hBd⟩ := hcut
                          have HGf : Hid (GWp wB wc (some ⟨ga, 0, none⟩) L g who2 ∧ Twl wc ge (ue0 x y k) (ue1 x y k) (ue2 x y k) (ue3 x y k) (ue4 x y k) (ue5 x y k) (ue6 x y k) (ue7 x y k) (ue8 x y k) (ue9 x y k) (ue10 x y k) (ue11 x y k)) := ⟨HG2.out.1.kept hBd, HG2.out.2.kept hBd⟩
                          clear ti tj di dj ci cj fi fj hBd zg9 zt9 zd9 n0 n1 n2 zn
                          cases bb
                          · obtain ⟨q1, q2, q3, hlt⟩ := HBB.out.1 rfl
                            have HC1 : Hid (crS L (sdT th sd) (edg L[i] k') = true) := by
                              have : crS L (sdT th sd) (edg L[i] k') = true := by rw [HCR.out, q1, q2]; simpa using q3
                              exact this
                            clear q1 q2 q3
                            obtain ⟨ci, fi⟩ := HGf.out.1.2.1 i h1
                            obtain ⟨cj, fj⟩ := HGf.out.1.2.1 j hj
                            have zg9 : g < wc.heap.size := World.block_lt_of_cell? _ _ ci
                            go_wp2
                            go_roundg (3 - (k' + 1))
                            case measure => omega
                            case rel => exact ⟨k' + 1, upd who2 i (who2 j), true, by omega, rfl, rfl, by go_num, invC_upd HI.out.1 h1 hj HTB.out.2 HC1.out HP.out hlt, ⟨Nat.le_trans (Nat.le_of_lt (sum_upd hlt _ h1)) HI.out.2.1.1, fun _ => Nat.lt_of_lt_of_le (sum_upd hlt _ h1) HI.out.2.1.1⟩, by simp, ⟨HGf.out.1.1.set, HGf.out.1.2.1.set h1, bl_set HGf.out.1.2.2 hgl⟩, HGf.out.2.set (by dsimp only; omega)⟩
                          · have HOK : Hid (OkC (crS L (sdT th sd)) L who2 i k') := fun hi' hcr j' hj' hq => by
                              rw [HP.out] at hq
                              obtain rfl : j = j' := by omega
                              rw [HCR.out] at hcr
                              simp only [Bool.and_eq_true, decide_eq_true_eq] at hcr
                              refine Nat.not_lt.1 fun h => ?_
                              have := HBB.out.2 ⟨hcr.1.1, hcr.1.2, hcr.2, h⟩
                              cases this
                            go_wp2
                            go_roundg (3 - (k' + 1))
                            case measure => omega
                            case rel =>
                              refine ⟨k' + 1, who2, ch2, by omega, rfl, rfl, by go_num, HI.out.1, HI.out.2.1, fun h => ⟨(HI.out.2.2 h).1, fun e' he' => ?_⟩, HGf.out.1, HGf.out.2⟩
                              by_cases ee : e' = k'
                              · subst ee; exact HOK.out
                              · exact (HI.out.2.2 h).2 e' (by omega)
                  · obtain rfl : k' = 3 := by omega
                    go_wp2
                    go_roundg (L.length - (i + 1))
                    case measure => omega
                    case rel =>
                      refine ⟨i + 1, who2, ch2, by omega, rfl, rfl, by go_num, HI.out.1, HI.out.2.1, fun h i' e hi' he => ?_, HG.out.1⟩
                      by_cases ei : i' = i
                      · subst ei; exact (HI.out.2.2 h).2 e he
                      · exact (HI.out.2.2 h).1 i' e (by omega) he
              · have i1 : ¬ (i : Int) < (L.length : Int) := by omega
                go_wp2
                go_roundg (sumW who1 L.length + (if ch = true then 1 else 0))
                case measure =>
                  have q1 := HI.out.2.1
                  have q2 := HS0.out
                  cases ch
                  · simp
                    omega
                  · have := q1.2 rfl
                    simp
                    omega
                case rel => exact ⟨who1, ch, rfl, rfl, HI.out.1, fun h i' e hi' he => HI.out.2.2 h i' e (by omega) he, HG.out⟩
end Go.Proofs.YtmjhfdohcghhoaaGreatDoor
