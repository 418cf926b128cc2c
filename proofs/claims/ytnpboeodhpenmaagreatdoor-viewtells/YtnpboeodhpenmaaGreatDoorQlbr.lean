/- A part of the proof of viewTells_holds. -/
import Derived.Test.YtnpboeodhpenmaaGreatDoorQlbk
import Derived.Test.YtnpboeodhpenmaaGreatDoorQlbm
import Derived.Test.YtnpboeodhpenmaaGreatDoorQlbq
import Derived.Test.YtnpboeodhpenmaaGreatDoorQlbd
import Derived.Test.YtnpboeodhpenmaaGreatDoorQlaj
import Derived.Test.YtnpboeodhpenmaaGreatDoorQlbl
import Derived.Test.YtnpboeodhpenmaaGreatDoorQlae
import Derived.Test.YtnpboeodhpenmaaGreatDoorQlar
import Derived.Maps.AppendAt
import Derived.Test.YtnpboeodhpenmaaGreatDoorQlap
namespace Go.Proofs.YtnpboeodhpenmaaGreatDoor
open Go.RowKit

theorem plF_pls {L : List (Int × Int × Int)} {M : Nat → M6} {i : Nat} (hi : i < L.length) : plF (pls L M L.length) i = mvt (M i) L[i] := by
  unfold plF pls
  rw [List.getD_eq_getElem?_getD, List.getElem?_map, List.getElem?_range hi, Option.map_some, Option.getD_some, getD_at L i hi]
theorem stateMay_no (W H : Int) (a c mp sp : Option Addr) (zl ca n cc mn mc sn sc : Nat) (w : World) (CL : Hid (∀ V : World, Below w.heap.size w V → Calls Tryz.prog 49 #[.agg #[.int .i64 W, .int .i64 H, .slice a zl ca, .slice c n cc]] V fun e w' => e = .returned (.bool false) ∧ Below V.heap.size V w')) :
    Calls Tryz.prog 12 #[.agg #[.int .i64 W, .int .i64 H, .slice a zl ca, .slice c n cc, .slice mp mn mc, .slice sp sn sc]] w fun e w' => e = .returned (.bool false) ∧ Below w.heap.size w w' := by
  go_enter Tryz.func12, Tryz.ntmps12
  go_wp2_with (go_at_call 49; refine (CL.out _ (by with_reducible exact bl_alloc (bl_refl _))).mono ?_; rintro e w2 ⟨rfl, hb⟩; have HB2 : Hid (Below w.heap.size w w2) := bl_via (bl_alloc (bl_refl _)) hb; clear hb)
  go_ret
  exact ⟨rfl, HB2.out⟩
def SmTo (kd : Int × Int × Int × Int → Int) (L : List (Int × Int × Int)) (mn : Nat) (M : Nat → M6) (S : List ((Int × Int × Int) × List (Int × Int × Int))) (w w' : World) (e : Ending) : Prop := ∃ b : Bool, e = .returned (.bool b) ∧ (b = true ↔ SOk kd L mn M S) ∧ Below w.heap.size w w'
set_option maxRecDepth 100000 in
set_option maxHeartbeats 12800000 in
theorem stateMay_yes (W H : Int) (a c mp sp : Option Addr) (zl ca n cc mn mc sc : Nat) (w : World) (kd : Int × Int × Int × Int → Int) (L : List (Int × Int × Int)) (M : Nat → M6) (S : List ((Int × Int × Int) × List (Int × Int × Int)))
    (CS : Hid (∀ V : World, Below w.heap.size w V → Calls Tryz.prog 49 #[.agg #[.int .i64 W, .int .i64 H, .slice a zl ca, .slice c n cc]] V fun e w' => e = .returned (.bool true) ∧ Below V.heap.size V w'))
    (CM : Hid (∀ V : World, Below w.heap.size w V → Calls Tryz.prog 50 #[.agg #[.int .i64 W, .int .i64 H, .slice a zl ca, .slice c n cc], .slice mp mn mc] V fun e w' => MmTo kd L mn M V w' e))
    (CT : Hid (∀ V : World, Below w.heap.size w V → Calls Tryz.prog 51 #[.agg #[.int .i64 W, .int .i64 H, .slice a zl ca, .slice c n cc]] V fun e w' => ∃ a9 c9, e = .returned (.slice a9 L.length c9) ∧ TRow w' a9 L ∧ Below V.heap.size V w'))
    (hM : MRowG w mp mn M) (hS : SRowG w sp S) (hnd : L.Nodup) (hL : L.length ≤ 256) (hbd : ∀ t ∈ L, (0 ≤ t.1 ∧ t.1 ≤ 8) ∧ (0 ≤ t.2.1 ∧ t.2.1 ≤ 8) ∧ (0 ≤ t.2.2 ∧ t.2.2 ≤ 3)) (hSl : S.length ≤ 17592186044416) (hSe : ∀ s ∈ S, s.2.length ≤ 17592186044416) :
    Calls Tryz.prog 12 #[.agg #[.int .i64 W, .int .i64 H, .slice a zl ca, .slice c n cc, .slice mp mn mc, .slice sp S.length sc]] w fun e w' => SmTo kd L mn M S w w' e := by
  have HR : Hid (MRowG w mp mn M ∧ SRowG w sp S ∧ L.Nodup ∧ (∀ t ∈ L, (0 ≤ t.1 ∧ t.1 ≤ 8) ∧ (0 ≤ t.2.1 ∧ t.2.1 ≤ 8) ∧ (0 ≤ t.2.2 ∧ t.2.2 ≤ 3)) ∧ ∀ s ∈ S, s.2.length ≤ 17592186044416) := ⟨hM, hS, hnd, hbd, hSe⟩
  have HKD : Hid (∀ t ∈ L, Kd t) := fun t ht => (hbd t ht).2.2
  have hq23 := neq23
  clear hM hS hnd hbd hSe
  go_enter Tryz.func12, Tryz.ntmps12
  go_upto_if 20 with (first
    | (go_at_call 49; refine (CS.out _ (by with_reducible exact bl_alloc (bl_refl _))).mono ?_; rintro e w2 ⟨rfl, hb⟩; have HB2 : Hid (Below (w.alloc (.cells #[.int .i64 W, .int .i64 H, .slice a zl ca, .slice c n cc, .slice mp mn mc, .slice sp S.length sc] 29)).heap.size (w.alloc (.cells #[.int .i64 W, .int .i64 H, .slice a zl ca, .slice c n cc, .slice mp mn mc, .slice sp S.length sc] 29)) w2) := hb; have s0 : w2.cell? ⟨w.heap.size, 0, none⟩ = some (.int .i64 W) := cl_kept hb (by simp [go_sem]); have s1 : w2.cell? ⟨w.heap.size, 1, none⟩ = some (.int .i64 H) := cl_kept hb (by simp [go_sem]); have s2 : w2.cell? ⟨w.heap.size, 2, none⟩ = some (.slice a zl ca) := cl_kept hb (by simp [go_sem]); have s3 : w2.cell? ⟨w.heap.size, 3, none⟩ = some (.slice c n cc) := cl_kept hb (by simp [go_sem]); have s4 : w2.cell? ⟨w.heap.size, 4, none⟩ = some (.slice mp mn mc) := cl_kept hb (by simp [go_sem]); have zs : w.heap.size < w2.heap.size := World.block_lt_of_cell? _ _ s0; clear hb)
    | (go_at_call 50; refine (CM.out _ (bl_via (bl_alloc (bl_refl _)) HB2.out)).mono ?_; rintro e w3 ⟨bm, rfl, hbm, hb⟩; have HB3 : Hid (Below (w.alloc (.cells #[.int .i64 W, .int .i64 H, .slice a zl ca, .slice c n cc, .slice mp mn mc, .slice sp S.length sc] 29)).heap.size (w.alloc (.cells #[.int .i64 W, .int .i64 H, .slice a zl ca, .slice c n cc, .slice mp mn mc, .slice sp S.length sc] 29)) w3 ∧ (bm = true ↔ (mn = L.length ∧ MMs kd L M L.length))) := ⟨bl_via HB2.out hb, hbm⟩; clear hbm hb))
  clear s0 s1 s2 s3 s4 zs HB2
  obtain ⟨WB, hWB⟩ : ∃ WB, WB = (w.alloc (.cells #[.int .i64 W, .int .i64 H, .slice a zl ca, .slice c n cc, .slice mp mn mc, .slice sp S.length sc] 29)) := ⟨_, rfl⟩
  have HBX : Hid ((WB.cell? ⟨w.heap.size, 0, none⟩ = some (.int .i64 W) ∧ WB.cell? ⟨w.heap.size, 1, none⟩ = some (.int .i64 H) ∧ WB.cell? ⟨w.heap.size, 2, none⟩ = some (.slice a zl ca) ∧ WB.cell? ⟨w.heap.size, 3, none⟩ = some (.slice c n cc) ∧ WB.cell? ⟨w.heap.size, 4, none⟩ = some (.slice mp mn mc) ∧ WB.cell? ⟨w.heap.size, 5, none⟩ = some (.slice sp S.length sc)) ∧ Below w.heap.size w WB) := by
    rw [hWB]
    exact ⟨⟨by simp [go_sem], by simp [go_sem], by simp [go_sem], by simp [go_sem], by simp [go_sem], by simp [go_sem]⟩, bl_alloc (bl_refl _)⟩
  rw [← hWB] at HB3
  clear hWB
  cases bm
  · go_wp2
    go_ret
    refine ⟨false, rfl, ?_, bl_via HBX.out.2 HB3.out.1⟩
    simp only [Bool.false_eq_true, false_iff]
    intro h
    have := HB3.out.2.2 ⟨h.1, (mms_iff HR.out.2.2.1 HKD.out).2 h.2.1⟩
    cases this
  · obtain ⟨hmn, hmm⟩ := HB3.out.2.1 rfl
    subst hmn
    have HMK : Hid (MOk kd L M) := (mms_iff HR.out.2.2.1 HKD.out).1 hmm
    clear hmm
    have s0 := cl_kept HB3.out.1 HBX.out.1.1
    have s1 := cl_kept HB3.out.1 HBX.out.1.2.1
    have s2 := cl_kept HB3.out.1 HBX.out.1.2.2.1
    have s3 := cl_kept HB3.out.1 HBX.out.1.2.2.2.1
    have zs : w.heap.size < w3.heap.size := World.block_lt_of_cell? _ _ s0
    go_wp2_with (go_at_call 51; refine (CT.out _ (bl_via HBX.out.2 HB3.out.1)).mono ?_; rintro e w4 ⟨a9, c9, rfl, hT9, hb⟩; have HB4 : Hid (Below WB.heap.size WB w4 ∧ TRow w4 a9 L) := ⟨bl_via HB3.out.1 hb, hT9⟩; clear hT9 hb)
    clear s0 s1 s2 s3 zs
    go_loopg [4, 5] S.length (fun gk s4 s5 wx => ∃ m : Nat, m ≤ S.length ∧ gk = S.length - m ∧ s4 = .int .i64 ((allS (S.take m)).length : Int) ∧ s5 = .int .i64 (m : Int) ∧ Pre L (plF (pls L M L.length)) S m ∧ Below w4.heap.size w4 wx)
    case atStart => exact ⟨0, by omega, rfl, by simp [allS], rfl, pre_zero _ _ _, bl_refl _⟩
    case round =>
      obtain ⟨m, hm, rfl, rfl, rfl, hPre, hB⟩ := hrel
      have HI : Hid (Pre L (plF (pls L M L.length)) S m ∧ Below w4.heap.size w4 wr ∧ Below WB.heap.size WB wr ∧ Below w.heap.size w wr) := ⟨hPre, hB, bl_via HB4.out.1 hB, bl_via HBX.out.2 (bl_via HB4.out.1 hB)⟩
      have hcnt : (allS (S.take m)).length ≤ 256 := Nat.le_trans (sub_lenT _ L hPre.nd fun t ht => by
        unfold allS at ht
        rw [List.mem_flatMap] at ht
        obtain ⟨s, hs, ht⟩ := ht
        obtain ⟨q, hq, e⟩ := List.getElem_of_mem hs
        rw [List.getElem_take] at e
        rw [List.length_take] at hq
        obtain ⟨i, hi, e1, _⟩ := hPre.pl q (by omega) (by omega) t (e ▸ ht)
        exact e1 ▸ List.getElem_mem hi) hL
      obtain ⟨cnt, hcn⟩ : ∃ cnt, cnt = (allS (S.take m)).length := ⟨_, rfl⟩
      rw [← hcn] at hcnt ⊢
      have HCN : Hid (cnt = (allS (S.take m)).length) := hcn
      clear hPre hB hcn
      have s5 := cl_kept HI.out.2.2.1 HBX.out.1.2.2.2.2.2
      have zs : w.heap.size < wr.heap.size := World.block_lt_of_cell? _ _ s5
      by_cases h1 : m < S.length
      · have i1 : (m : Int) < (S.length : Int) := by omega
        have i0 : (0 : Int) ≤ (m : Int) := by omega
        obtain ⟨gs, os, sa, sc', rfl, c0, c1, c2, c3, hcap, hTm⟩ := (HR.out.2.1.kept HI.out.2.2.2) m h1
        have HTm : Hid (TRowG wr sa S[m].2) := hTm
        have zgs : gs < wr.heap.size := World.block_lt_of_cell? _ _ c0
        obtain ⟨X, Y, K, hat⟩ : ∃ X Y K, S[m].1 = (X, Y, K) := ⟨_, _, _, rfl⟩
        obtain ⟨l, hl⟩ : ∃ l, l = S[m].2.length := ⟨_, rfl⟩
        rw [hat] at c0 c1 c2
        rw [← hl] at c3 hcap
        dsimp only at c0 c1 c2
        have HAt : Hid (S[m].1 = (X, Y, K) ∧ l = S[m].2.length) := ⟨hat, hl⟩
        have hle : l ≤ 17592186044416 := by
          rw [hl]
          exact HR.out.2.2.2.2 _ (List.getElem_mem h1)
        clear hTm hat hl
        go_upto_region 9 with fail
        refine wp_named (fun W0 hW0 => ?_)
        obtain ⟨B, hBe⟩ : ∃ B, B = wr.heap.size := ⟨_, rfl⟩
        have HB0 : Hid (Below wr.heap.size wr W0) := by
          have : Below wr.heap.size wr W0 := by
            rw [hW0]
            with_reducible repeat (first | exact bl_refl _ | refine bl_alloc ?_ | refine bl_set ?_ ?_)
            all_goals (dsimp only; omega)
          exact this
        have x0 : W0.cell? ⟨B, 0, none⟩ = some (.int .i64 X) := by rw [hW0, hBe]; simp [go_sem]
        have x1 : W0.cell? ⟨B, 1, none⟩ = some (.int .i64 Y) := by rw [hW0, hBe]; simp [go_sem]
        have x2 : W0.cell? ⟨B, 2, none⟩ = some (.int .i64 K) := by rw [hW0, hBe]; simp [go_sem]
        have x3 : W0.cell? ⟨B, 3, none⟩ = some (.slice sa l sc') := by rw [hW0, hBe]; simp [go_sem]
        rw [← hBe]
        replace s5 := cl_kept HB0.out s5
        clear hW0 hBe c0 c1 c2 c3
        have zB : B < W0.heap.size := World.block_lt_of_cell? _ _ x0
        replace zs : w.heap.size < W0.heap.size := World.block_lt_of_cell? _ _ s5
        obtain ⟨bb, HBB⟩ : ∃ bb : Bool, Hid (bb = false ↔ (l ≠ 0 ∧ ∀ q (h : q + 1 = m), ltT (S[q]'(by omega)).1 S[m].1)) := by
          by_cases q : l ≠ 0 ∧ ∀ q (h : q + 1 = m), ltT (S[q]'(by omega)).1 S[m].1
          · exact ⟨false, ⟨fun _ => q, fun _ => rfl⟩⟩
          · exact ⟨true, ⟨(fun h => by cases h), fun h => absurd h q⟩⟩
        go_cut [56] (fun s56 wx => s56 = .bool bb ∧ Below W0.heap.size W0 wx)
        case first =>
          by_cases hl0 : l = 0
          · have HT1 : Hid (bb = true) := by
              cases q : bb
              · exact absurd hl0 (HBB.out.1 q).1
              · exact rfl
            subst hl0
            have kc := Kin.cells W0
            have kn : Nonempty (Kin W0) := ⟨⟨W0, bl_refl _⟩⟩
            refine wp_region_kin (by kernel_rfl) (by kernel_rfl) ?_
            repeat (go_big_quiet_step (fail))
            refine wpQuiet_nil ?_
            intro wq hw'
            obtain ⟨nq, hw''⟩ := hw'
            have hq : Below W0.heap.size W0 wq := hw'' ▸ nq.h
            clear hw'' nq kc kn
            go_wp2
            go_meet
            case rel => exact ⟨by rw [HT1.out], hq⟩
          · have ql : ((l : Int) == 0) = false := by simpa using hl0
            by_cases hm0 : m = 0
            · have HT1 : Hid (bb = false) := HBB.out.2 ⟨hl0, fun q h => by omega⟩
              subst hm0
              have kc := Kin.cells W0
              have kn : Nonempty (Kin W0) := ⟨⟨W0, bl_refl _⟩⟩
              refine wp_region_kin (by kernel_rfl) (by kernel_rfl) ?_
              repeat (go_big_quiet_step (fail))
              refine wpQuiet_nil ?_
              intro wq hw'
              obtain ⟨nq, hw''⟩ := hw'
              have hq : Below W0.heap.size W0 wq := hw'' ▸ nq.h
              clear hw'' nq kc kn
              go_wp2
              go_meet
              case rel => exact ⟨by rw [HT1.out], hq⟩
            · obtain ⟨m', rfl⟩ : ∃ m', m = m' + 1 := ⟨m - 1, by omega⟩
              have hm' : m' < S.length := by omega
              obtain ⟨gs', os', sa', sc'', e1, d0, d1, d2, _, _, _⟩ := (HR.out.2.1.kept (bl_via HI.out.2.2.2 HB0.out)) m' hm'
              cases e1
              obtain ⟨X', Y', K', hat'⟩ : ∃ X Y K, S[m'].1 = (X, Y, K) := ⟨_, _, _, rfl⟩
              rw [hat'] at d0 d1 d2
              dsimp only at d0 d1 d2
              have zs' : gs < W0.heap.size := World.block_lt_of_cell? _ _ d0
              obtain ⟨lb, hlb⟩ : ∃ lb, lb = ltB (X', Y', K') (X, Y, K) := ⟨_, rfl⟩
              have HC : Hid (∀ W : World, Calls Tryz.prog 52 #[.agg #[.int .i64 X', .int .i64 Y', .int .i64 K'], .agg #[.int .i64 X, .int .i64 Y, .int .i64 K]] W fun e w' => e = .returned (.bool lb) ∧ Below W.heap.size W w') := fun W => hlb ▸ lessTri_any X' Y' K' X Y K W
              have HT1 : Hid (bb = !lb) := by
                have hcl : lb = true ↔ ltT S[m'].1 S[m' + 1].1 := by rw [hlb, hat', HAt.out.1]; exact ltB_iff
                have : bb = !lb := by
                  cases q : bb
                  · rw [hcl.2 ((HBB.out.1 q).2 m' rfl)]
                    rfl
                  · cases q2 : lb
                    · rfl
                    · have := HBB.out.2 ⟨hl0, fun q' h' => by
                        obtain rfl : q' = m' := by omega
                        exact hcl.1 q2⟩
                      rw [q] at this
                      cases this
                exact this
              have im : (0 : Int) < ((m' + 1 : Nat) : Int) := by omega
              have em : ((m' + 1 : Nat) : Int) - 1 = (m' : Int) := by omega
              have im1 : (m' : Int) < (S.length : Int) := by omega
              clear hlb hat' hl0
              have kc := Kin.cells W0
              have kn : Nonempty (Kin W0) := ⟨⟨W0, bl_refl _⟩⟩
              refine wp_region_kin (by kernel_rfl) (by kernel_rfl) ?_
              repeat (go_big_quiet_step ((first | (go_at_call 52; exact kin_of (HC.out _)))))
              refine wpQuiet_nil ?_
              intro wq hw'
              obtain ⟨nq, hw''⟩ := hw'
              have hq : Below W0.heap.size W0 wq := hw'' ▸ nq.h
              clear hw'' nq kc kn
              go_wp2
              go_meet
              case rel => exact ⟨by rw [HT1.out], hq⟩
        case rest =>
          obtain ⟨rfl, hBc⟩ := hcut
          obtain ⟨W9, hW9⟩ : ∃ W9, W9 = wc := ⟨_, rfl⟩
          rw [← hW9] at hBc ⊢
          clear hW9
          have HBc : Hid (Below wr.heap.size wr W9 ∧ Below w4.heap.size w4 W9 ∧ Below WB.heap.size WB W9 ∧ Below w.heap.size w W9) := ⟨bl_via HB0.out hBc, bl_via HI.out.2.1 (bl_via HB0.out hBc), bl_via HI.out.2.2.1 (bl_via HB0.out hBc), bl_via HI.out.2.2.2 (bl_via HB0.out hBc)⟩
          have HX : Hid (W9.cell? ⟨B, 0, none⟩ = some (.int .i64 X) ∧ W9.cell? ⟨B, 1, none⟩ = some (.int .i64 Y) ∧ W9.cell? ⟨B, 2, none⟩ = some (.int .i64 K) ∧ W9.cell? ⟨B, 3, none⟩ = some (.slice sa l sc')) := ⟨cl_kept hBc x0, cl_kept hBc x1, cl_kept hBc x2, cl_kept hBc x3⟩
          clear x0 x1 x2 x3 zB s5 zs hBc
          cases bb
          · have HP0 : Hid (Pri L (plF (pls L M L.length)) S m 0 h1) := HI.out.1.start h1 (fun e => (HBB.out.1 rfl).1 (by rw [HAt.out.2, e]; rfl)) (HBB.out.1 rfl).2
            go_wp2
            go_loopg [4, 7] l (fun gk s4 s7 wx => ∃ k : Nat, k ≤ l ∧ gk = l - k ∧ s4 = .int .i64 ((cnt + k : Nat) : Int) ∧ s7 = .int .i64 (k : Int) ∧ Pri L (plF (pls L M L.length)) S m k h1 ∧ Below W9.heap.size W9 wx)
            case atStart => exact ⟨0, by omega, rfl, by simp, rfl, HP0.out, bl_refl _⟩
            case round =>
              clear HP0 HBB
              obtain ⟨k, hk, rfl, rfl, rfl, hPri, hBk⟩ := hrel
              have HJ : Hid (Pri L (plF (pls L M L.length)) S m k h1 ∧ Below W9.heap.size W9 wr) := ⟨hPri, hBk⟩
              have hck : cnt + k ≤ 256 := by
                have h9 := sub_lenT _ L hPri.nd fun t ht => by
                  rcases List.mem_append.1 ht with ht | ht
                  · unfold allS at ht
                    rw [List.mem_flatMap] at ht
                    obtain ⟨s, hs, ht⟩ := ht
                    obtain ⟨q, hq, e⟩ := List.getElem_of_mem hs
                    rw [List.getElem_take] at e
                    rw [List.length_take] at hq
                    obtain ⟨i, hi, e1, _⟩ := hPri.pre.pl q (by omega) (by omega) t (e ▸ ht)
                    exact e1 ▸ List.getElem_mem hi
                  · obtain ⟨q, hq, e⟩ := List.getElem_of_mem ht
                    rw [List.getElem_take] at e
                    rw [List.length_take] at hq
                    obtain ⟨i, hi, e1, _⟩ := hPri.pl q (by omega) (by omega)
                    rw [← e, ← e1]
                    exact List.getElem_mem hi
                rw [List.length_append, ← HCN.out, List.length_take, ← HAt.out.2, Nat.min_eq_left hk] at h9
                omega
              obtain ⟨x0, x1, x2, x3⟩ := HX.out
              replace x3 := cl_kept hBk x3
              have zB : B < wr.heap.size := World.block_lt_of_cell? _ _ x3
              clear hPri hBk x0 x1 x2
              by_cases h2 : k < l
              · have k1 : (k : Int) < (l : Int) := by omega
                have k0 : (0 : Int) ≤ (k : Int) := by omega
                have hk2 : k < S[m].2.length := by rw [← HAt.out.2]; exact h2
                obtain ⟨ga, oa, rfl, t0, t1, t2⟩ := ((HTm.out.kept HBc.out.1).kept HJ.out.2) k hk2
                obtain ⟨x, y, z, hxyz⟩ : ∃ x y z, S[m].2[k] = (x, y, z) := ⟨_, _, _, rfl⟩
                rw [hxyz] at t0 t1 t2
                dsimp only at t0 t1 t2
                have HXY : Hid (S[m].2[k] = (x, y, z)) := hxyz
                have zt : ga < wr.heap.size := World.block_lt_of_cell? _ _ t0
                clear hxyz
                obtain ⟨pj, hpj⟩ : ∃ p, p = plc L (x, y, z) := ⟨_, rfl⟩
                have C32 : Hid (∀ W' : World, Below wr.heap.size wr W' → Calls Tryz.prog 53 #[.slice a9 L.length c9, .agg #[.int .i64 x, .int .i64 y, .int .i64 z]] W' fun e w' => e = .returned (.int .i64 pj) ∧ Below W'.heap.size W' w') := fun W' hW' => hpj ▸ placeOf_any _ c9 L _ _ _ W' (HB4.out.2.kept (bl_via HBc.out.2.1 (bl_via HJ.out.2 hW'))) hL
                have HPJ : Hid (pj = plc L (x, y, z)) := hpj
                clear hpj
                go_upto_region 15 with (go_at_call 53; refine (C32.out _ (by with_reducible repeat (first | exact bl_refl _ | refine bl_drew ?_))).mono ?_; rintro e w5 ⟨rfl, hb⟩; have HB5 : Hid (Below wr.heap.size wr w5) := bl_via (by with_reducible repeat (first | exact bl_refl _ | refine bl_drew ?_)) hb; clear hb)
                replace x3 := cl_kept HB5.out x3
                replace t0 := cl_kept HB5.out t0
                replace t1 := cl_kept HB5.out t1
                replace t2 := cl_kept HB5.out t2
                have hbw : Below W9.heap.size W9 w5 := bl_via HJ.out.2 HB5.out
                have x0 := cl_kept hbw HX.out.1
                have x1 := cl_kept hbw HX.out.2.1
                have x2 := cl_kept hbw HX.out.2.2.1
                have s4 := cl_kept (bl_via HBc.out.2.2.1 hbw) HBX.out.1.2.2.2.2.1
                replace zB : B < w5.heap.size := World.block_lt_of_cell? _ _ x3
                replace zt : ga < w5.heap.size := World.block_lt_of_cell? _ _ t0
                have zs : w.heap.size < w5.heap.size := World.block_lt_of_cell? _ _ s4
                have HB6 : Hid (Below W9.heap.size W9 w5 ∧ Below w.heap.size w w5 ∧ Below w4.heap.size w4 w5) := ⟨hbw, bl_via HBc.out.2.2.2 hbw, bl_via HBc.out.2.1 hbw⟩
                clear hbw
                obtain ⟨b2, HB2B⟩ : ∃ b2 : Bool, Hid (b2 = false ↔ ((∃ i, ∃ h : i < L.length, L[i] = (x, y, z) ∧ mvt (M i) L[i] = (X, Y, K)) ∧ (x, y, z) ∉ S[m].2.take k)) := by
                  by_cases q : (∃ i, ∃ h : i < L.length, L[i] = (x, y, z) ∧ mvt (M i) L[i] = (X, Y, K)) ∧ (x, y, z) ∉ S[m].2.take k
                  · exact ⟨false, ⟨fun _ => q, fun _ => rfl⟩⟩
                  · exact ⟨true, ⟨(fun h => by cases h), fun h => absurd h q⟩⟩
                go_cut [100] (fun s100 wx => s100 = .bool b2 ∧ Below w5.heap.size w5 wx)
                case first =>
                  rcases plc_bd L (x, y, z) with hp | ⟨j, hj, hp⟩
                  · have ej : pj = -1 := HPJ.out.trans hp
                    subst ej
                    have HT1 : Hid (b2 = true) := by
                      cases q : b2
                      · obtain ⟨⟨i, hi, e, _⟩, _⟩ := HB2B.out.1 q
                        have := plc_self HR.out.2.2.1 hi
                        rw [e, hp] at this
                        omega
                      · exact rfl
                    clear hp
                    have kc := Kin.cells w5
                    have kn : Nonempty (Kin w5) := ⟨⟨w5, bl_refl _⟩⟩
                    refine wp_region_kin (by kernel_rfl) (by kernel_rfl) ?_
                    repeat (go_big_quiet_step (fail))
                    refine wpQuiet_nil ?_
                    intro wq hw'
                    obtain ⟨nq, hw''⟩ := hw'
                    have hq : Below w5.heap.size w5 wq := hw'' ▸ nq.h
                    clear hw'' nq kc kn
                    go_wp2
                    go_meet
                    case rel => exact ⟨by rw [HT1.out], hq⟩
                  · have ej : pj = (j : Int) := HPJ.out.trans hp
                    subst ej
                    have hLj : L[j] = (x, y, z) := plc_get hj hp
                    have j1 : (j : Int) < (L.length : Int) := by omega
                    have j0 : (0 : Int) ≤ (j : Int) := by omega
                    have jn : ¬ (j : Int) < 0 := by omega
                    obtain ⟨gm, om, rfl, v0, v1, v2, v3, v4, v5⟩ := (HR.out.1.kept HB6.out.2.1) j hj
                    have zv : gm < w5.heap.size := World.block_lt_of_cell? _ _ v0
                    obtain ⟨A', B', C', D', E', F', hmj⟩ : ∃ c0 c1 c2 c3 c4 c5, M j = (c0, c1, c2, c3, c4, c5) := ⟨_, _, _, _, _, _, rfl⟩
                    rw [hmj] at v0 v1 v2 v3 v4 v5
                    dsimp only at v0 v1 v2 v3 v4 v5
                    obtain ⟨g9, rfl, l0, l1, l2⟩ := (HB4.out.2.kept HB6.out.2.2) j hj
                    rw [hLj] at l0 l1 l2
                    dsimp only at l0 l1 l2
                    have zl9 : g9 < w5.heap.size := World.block_lt_of_cell? _ _ l0
                    obtain ⟨px, py, pk, hpm⟩ : ∃ px py pk, mvt (A', B', C', D', E', F') (x, y, z) = (px, py, pk) := ⟨_, _, _, rfl⟩
                    have C33 : Hid (∀ W' : World, Calls Tryz.prog 54 #[.agg #[.int .i64 A', .int .i64 B', .int .i64 C', .int .i64 D', .int .i64 E', .int .i64 F'], .agg #[.int .i64 x, .int .i64 y, .int .i64 z]] W' fun e w' => e = .returned (.agg #[.int .i64 px, .int .i64 py, .int .i64 pk]) ∧ Below W'.heap.size W' w') := fun W' => by
                      have h8 := (HMK.out.1 j hj).1
                      rw [hmj] at h8
                      have := MoveOf_gen (A', B', C', D', E', F') (x, y, z) W' h8 (by have := HR.out.2.2.2.1 _ (List.getElem_mem hj); rw [hLj] at this; exact this)
                      rw [hpm] at this
                      exact this
                    have HLOC : Hid ((∃ i, ∃ h : i < L.length, L[i] = (x, y, z) ∧ mvt (M i) L[i] = (X, Y, K)) ↔ sameT px py pk X Y K = true) := by
                      have : (∃ i, ∃ h : i < L.length, L[i] = (x, y, z) ∧ mvt (M i) L[i] = (X, Y, K)) ↔ sameT px py pk X Y K = true := by
                        simp only [sameT, decide_eq_true_eq]
                        constructor
                        · rintro ⟨i, hi, e1, e2⟩
                          have := nodup_inj HR.out.2.2.1 hi hj (e1.trans hLj.symm)
                          subst this
                          rw [hmj, hLj, hpm] at e2
                          simpa using e2
                        · intro h
                          exact ⟨j, hj, hLj, by rw [hmj, hLj, hpm]; simpa using h⟩
                      exact this
                    clear hp hLj hmj hpm
                    cases hst : sameT px py pk X Y K
                    · have HT1 : Hid (b2 = true) := by
                        cases q : b2
                        · have := HLOC.out.1 (HB2B.out.1 q).1
                          rw [hst] at this
                          cases this
                        · exact rfl
                      have kc := Kin.cells w5
                      have kn : Nonempty (Kin w5) := ⟨⟨w5, bl_refl _⟩⟩
                      refine wp_region_kin (by kernel_rfl) (by kernel_rfl) ?_
                      repeat (go_big_quiet_step ((first | (go_at_call 54; exact kin_of (C33.out _)))))
                      refine wpQuiet_nil ?_
                      intro wq hw'
                      obtain ⟨nq, hw''⟩ := hw'
                      have hq : Below w5.heap.size w5 wq := hw'' ▸ nq.h
                      clear hw'' nq kc kn
                      go_wp2
                      go_meet
                      case rel => exact ⟨by rw [HT1.out], hq⟩
                    · obtain ⟨p2, hp2⟩ : ∃ p, p = plc (S[m].2.take k) (x, y, z) := ⟨_, rfl⟩
                      have C32b : Hid (∀ W' : World, Below w5.heap.size w5 W' → Calls Tryz.prog 53 #[.slice (some ⟨ga, oa, none⟩) k sc', .agg #[.int .i64 x, .int .i64 y, .int .i64 z]] W' fun e w' => e = .returned (.int .i64 p2) ∧ Below W'.heap.size W' w') := fun W' hW' => by
                        have hr9 := ((((HTm.out.kept HBc.out.1).kept HJ.out.2).kept HB5.out).kept hW').take k
                        have hl9 : (S[m].2.take k).length = k := by rw [List.length_take]; omega
                        have := placeG_any (some ⟨ga, oa, none⟩) sc' (S[m].2.take k) x y z W' hr9 (by omega)
                        rw [hl9, ← hp2] at this
                        exact this
                      have HT1 : Hid (b2 = decide (0 ≤ p2)) := by
                        have h9 : 0 ≤ p2 ↔ (x, y, z) ∈ S[m].2.take k := by rw [hp2]; exact plc_neg
                        have : b2 = decide (0 ≤ p2) := by
                          cases q : b2
                          · symm
                            rw [decide_eq_false_iff_not, h9]
                            exact (HB2B.out.1 q).2
                          · symm
                            rw [decide_eq_true_eq, h9]
                            refine Classical.byContradiction fun hno => ?_
                            have := HB2B.out.2 ⟨HLOC.out.2 hst, hno⟩
                            rw [q] at this
                            cases this
                        exact this
                      have kcap : (k : Int) ≤ (sc' : Int) := by omega
                      clear hp2
                      have kc := Kin.cells w5
                      have kn : Nonempty (Kin w5) := ⟨⟨w5, bl_refl _⟩⟩
                      refine wp_region_kin (by kernel_rfl) (by kernel_rfl) ?_
                      repeat (go_big_quiet_step ((first | (go_at_call 54; exact kin_of (C33.out _)) | (go_at_call 53; exact kin_of (C32b.out _ (Kin.h _))))))
                      refine wpQuiet_nil ?_
                      intro wq hw'
                      obtain ⟨nq, hw''⟩ := hw'
                      have hq : Below w5.heap.size w5 wq := hw'' ▸ nq.h
                      clear hw'' nq kc kn
                      go_wp2
                      go_meet
                      case rel => exact ⟨by rw [HT1.out], hq⟩
                case rest =>
                  obtain ⟨rfl, hBd⟩ := hcut
                  have HBd : Hid (Below W9.heap.size W9 wc ∧ Below w.heap.size w wc) := ⟨bl_via HB6.out.1 hBd, bl_via HB6.out.2.1 hBd⟩
                  clear x0 x1 x2 x3 t0 t1 t2 s4 zB zt zs hBd
                  cases b2
                  · have HST : Hid (Pri L (plF (pls L M L.length)) S m (k + 1) h1) := by
                      obtain ⟨⟨i, hi, e1, e2⟩, hno⟩ := HB2B.out.1 rfl
                      have hloc : ∃ i, ∃ h' : i < L.length, L[i] = S[m].2[k] ∧ plF (pls L M L.length) i = S[m].1 := ⟨i, hi, by rw [HXY.out]; exact e1, by rw [plF_pls hi, HAt.out.1]; exact e2⟩
                      exact HJ.out.1.step hk2 hloc (HJ.out.1.none HR.out.2.2.1 hloc (by rw [HXY.out]; exact hno))
                    go_wp2
                    go_roundg (l - (k + 1))
                    case measure => omega
                    case rel => exact ⟨k + 1, by omega, rfl, by go_num, by go_num, HST.out, HBd.out.1⟩
                  · go_wp2
                    go_ret
                    refine ⟨false, rfl, ?_, HBd.out.2⟩
                    simp only [Bool.false_eq_true, false_iff]
                    intro hok
                    have hno : ¬ ((∃ i, ∃ h : i < L.length, L[i] = (x, y, z) ∧ mvt (M i) L[i] = (X, Y, K)) ∧ (x, y, z) ∉ S[m].2.take k) := fun h => by
                      have := HB2B.out.2 h
                      cases this
                    obtain ⟨j, hj, e1, e2⟩ := hok.2.2.pl _ (List.getElem_mem h1) _ (List.getElem_mem hk2)
                    rw [HXY.out] at e1
                    rw [HAt.out.1, plF_pls hj] at e2
                    refine hno ⟨⟨j, hj, e1, e2⟩, fun hmem => ?_⟩
                    rw [← HXY.out] at hmem
                    exact not_nd HR.out.2.2.1 h1 hk2 (List.mem_append_right _ hmem) hok.2.2
              · have k1 : ¬ (k : Int) < (l : Int) := by omega
                have hkl : k = S[m].2.length := by rw [← HAt.out.2]; omega
                have HFIN : Hid (Pre L (plF (pls L M L.length)) S (m + 1) ∧ cnt + k = (allS (S.take (m + 1))).length) := by
                  refine ⟨HJ.out.1.fin hkl, ?_⟩
                  rw [allS_take h1, List.length_append, HCN.out, hkl]
                have HBj : Hid (Below w4.heap.size w4 wr) := bl_via HBc.out.2.1 HJ.out.2
                clear hkl
                go_wp2
                go_roundg (S.length - (m + 1))
                case measure => omega
                case rel => exact ⟨m + 1, by omega, rfl, by rw [← HFIN.out.2]; go_num, by go_num, HFIN.out.1, HBj.out⟩
          · go_wp2
            go_ret
            refine ⟨false, rfl, ?_, HBc.out.2.2.2⟩
            simp only [Bool.false_eq_true, false_iff]
            intro hok
            have hno : ¬ (l ≠ 0 ∧ ∀ q (h : q + 1 = m), ltT (S[q]'(by omega)).1 S[m].1) := fun h => by
              have := HBB.out.2 h
              cases this
            refine hno ⟨fun e => not_ne h1 (by rw [← HAt.out.2]; exact e) hok.2.2, fun q h => ?_⟩
            subst h
            exact hok.2.2.up q h1
      · have i1 : ¬ (m : Int) < (S.length : Int) := by omega
        obtain rfl : m = S.length := by omega
        have HFC : Hid (((cnt : Int) == (L.length : Int)) = true ↔ SOk kd L L.length M S) := by
          have : ((cnt : Int) == (L.length : Int)) = true ↔ SOk kd L L.length M S := by
            have hc9 := HCN.out
            rw [List.take_length] at hc9
            rw [beq_iff_eq]
            constructor
            · intro h
              exact ⟨rfl, HMK.out, HI.out.1.ok rfl (by omega)⟩
            · intro h
              have := h.2.2.al
              omega
          exact this
        go_wp2
        go_ret
        exact ⟨_, rfl, HFC.out, HI.out.2.2.2⟩

theorem step_callTo {P : Program} {ops : Array Oper} {o : Oper} {a : Act} {w : World} {K : Act → World → Prop} {Q : Exit → Act → World → Prop} {E : Prop} {R : Ending → World → Prop} (hgd : o.guard = none)
    (f : FuncId) (args : Array Value) (hrun : (execOp a.eval o).run P w = .ok (.enter f args) w) (hc : Calls P f args w R) (h : ∀ e w', R e w' → ∃ v, e = .returned v ∧ K (a.put o.dst v) w') :
    if Region.wanted o (yielded ops a.tmps) = true then Oper.wp P o a w K Q else E := by
  have hw : Region.wanted o (yielded ops a.tmps) = true := by simp [Region.wanted, hgd]
  rw [if_pos hw]
  unfold Oper.wp
  rw [hrun, Oper.upon_enter]
  refine hc.mono fun e w'' hh => ?_
  obtain ⟨v, rfl, hk⟩ := h e w'' hh
  exact hk
end Go.Proofs.YtnpboeodhpenmaaGreatDoor
