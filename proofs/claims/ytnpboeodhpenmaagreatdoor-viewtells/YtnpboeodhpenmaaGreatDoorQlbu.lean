/- The reference's PictureOf, by what TopOf answers: the walk. -/
import Derived.Test.YtnpboeodhpenmaaGreatDoorQlbb
namespace Go.Proofs.YtnpboeodhpenmaaGreatDoor
open Go.RowKit

set_option maxRecDepth 100000 in
set_option maxHeartbeats 6400000 in
theorem pictureOf_any (W H : Int) (a c m s : Option Addr) (zl ca cn cc mn mc sn' sc n : Nat) (l : List ((Int × Int × Int) × (Int × Int × Int) × Bool)) (w : World) (hn : n = l.length) (h0 : 0 < n) (hn3 : n ≤ 300) (hok : SnOk l)
    (CT : Hid (∀ V : World, Below w.heap.size w V → Calls Tryz.prog 24 #[.agg #[.int .i64 W, .int .i64 H, .slice a zl ca, .slice c cn cc, .slice m mn mc, .slice s sn' sc]] V fun e w' => ∃ (b : Option Addr) (bc : Nat), e = .returned (.slice b n bc) ∧ SnP w' b l ∧ Below V.heap.size V w')) :
    Calls Tryz.prog 26 #[.agg #[.int .i64 W, .int .i64 H, .slice a zl ca, .slice c cn cc, .slice m mn mc, .slice s sn' sc]] w fun e w' => e = .returned (.string (pic l)) ∧ Below w.heap.size w w' := by
  have CL : Hid (∀ (z : Int) (V : World), 0 ≤ z → z ≤ 15 → Calls Tryz.prog 75 #[.int .i64 z] V fun e w' => e = .returned (.string (hexI z)) ∧ Below V.heap.size V w') := fun z V h1 h2 => by
    have := refLetter_any z.toNat V (by omega)
    rwa [Int.toNat_of_nonneg h1] at this
  have HN : Hid (n = l.length ∧ SnOk l) := ⟨hn, hok⟩
  have n0 : (0 : Int) < (n : Int) := by omega
  clear hn hok
  go_enter Tryz.func26, Tryz.ntmps26
  go_wp2_with (go_at_call 24; refine (CT.out _ (bl_alloc (bl_refl _))).mono ?_; rintro e w1 ⟨b, bc, rfl, hs, hb⟩; have HS : Hid (SnP w1 b l) := hs; have HB : Hid (Below w.heap.size w w1) := bl_via (bl_alloc (bl_refl _)) hb; clear hs hb)
  obtain ⟨g, e0, c0, c1, _, _⟩ := HS.out 0 (by have := HN.out.1; omega)
  subst e0
  rw [Nat.zero_mul] at c0 c1
  have zg := World.block_lt_of_cell? _ _ c0
  obtain ⟨X0, hX0⟩ : ∃ X, X = (sn l 0).1.1 := ⟨_, rfl⟩
  obtain ⟨Y0, hY0⟩ : ∃ X, X = (sn l 0).1.2.1 := ⟨_, rfl⟩
  rw [← hX0] at c0
  rw [← hY0] at c1
  have HXY : Hid (X0 = (sn l 0).1.1 ∧ Y0 = (sn l 0).1.2.1) := ⟨hX0, hY0⟩
  have kc := Kin.cells w1
  have kn : Nonempty (Kin w1) := ⟨⟨w1, bl_refl _⟩⟩
  clear hX0 hY0
  refine wp_region_kin (by kernel_rfl) (by kernel_rfl) ?_
  repeat (go_big_quiet_step (fail))
  refine wpQuiet_nil ?_
  intro wq hw'
  obtain ⟨nq, hw''⟩ := hw'
  have hq : Below w1.heap.size w1 wq := hw'' ▸ nq.h
  clear hw'' nq kc kn c0 c1 zg
  have HS2 : Hid (SnP wq (some ⟨g, 0, none⟩) l) := HS.out.kept hq
  replace HB : Hid (Below w.heap.size w wq) := bl_via HB.out hq
  clear hq HS
  go_wp2
  go_loopg [4, 5, 6, 7, 8] n (fun gk s4 s5 s6 s7 s8 wx => ∃ i : Nat, i ≤ n ∧ gk = n - i ∧ s4 = .int .i64 (mnF (sx l) i) ∧ s5 = .int .i64 (mxF (sx l) i) ∧ s6 = .int .i64 (mnF (sy l) i) ∧ s7 = .int .i64 (mxF (sy l) i) ∧ s8 = .int .i64 (i : Int) ∧ Below wq.heap.size wq wx)
  case atStart => exact ⟨0, by omega, rfl, by rw [HXY.out.1]; rfl, by rw [HXY.out.1]; rfl, by rw [HXY.out.2]; rfl, by rw [HXY.out.2]; rfl, rfl, bl_refl _⟩
  case round =>
    obtain ⟨i, hi, rfl, rfl, rfl, rfl, rfl, rfl, hB⟩ := hrel
    have HJ : Hid (Below wq.heap.size wq wr) := hB
    clear hB
    by_cases h1 : i < n
    · have i1 : (i : Int) < (n : Int) := by omega
      have i0 : (0 : Int) ≤ (i : Int) := by omega
      obtain ⟨g', e1, d0, d1, d2, _⟩ := (HS2.out.kept HJ.out) i (by have := HN.out.1; omega)
      cases e1
      have zd := World.block_lt_of_cell? _ _ d0
      have E1 : Hid (mnF (sx l) (i + 1) = if (sn l i).1.1 < mnF (sx l) i then (sn l i).1.1 else mnF (sx l) i) := rfl
      have E2 : Hid (mxF (sx l) (i + 1) = if mxF (sx l) i < (sn l i).1.1 then (sn l i).1.1 else mxF (sx l) i) := rfl
      have E3 : Hid (mnF (sy l) (i + 1) = if (sn l i).1.2.1 < mnF (sy l) i then (sn l i).1.2.1 else mnF (sy l) i) := rfl
      have E4 : Hid (mxF (sy l) (i + 1) = if mxF (sy l) i < (sn l i).1.2.1 then (sn l i).1.2.1 else mxF (sy l) i) := rfl
      generalize (sn l i).1.1 = X at *
      generalize (sn l i).1.2.1 = Y at *
      generalize (sn l i).1.2.2 = K at *
      generalize mnF (sx l) i = x0 at *
      generalize mxF (sx l) i = x1 at *
      generalize mnF (sy l) i = y0 at *
      generalize mxF (sy l) i = y1 at *
      by_cases q1 : X < x0 <;> by_cases q2 : x1 < X <;> by_cases q3 : Y < y0 <;> by_cases q4 : y1 < Y
      all_goals
        have F1 := E1.out
        have F2 := E2.out
        have F3 := E3.out
        have F4 := E4.out
        simp only [q1, q2, q3, q4, if_true, if_false] at F1 F2 F3 F4
        have HF := (show Hid (_ ∧ _ ∧ _ ∧ _) from ⟨F1, F2, F3, F4⟩)
        clear F1 F2 F3 F4 E1 E2 E3 E4
        go_wp2
        go_roundg (n - (i + 1))
        case measure => omega
        case rel => exact ⟨i + 1, by omega, rfl, by rw [HF.out.1], by rw [HF.out.2.1], by rw [HF.out.2.2.1], by rw [HF.out.2.2.2], by go_num, bl_via HJ.out (bl_alloc (bl_refl _))⟩
    · have i1 : ¬ (i : Int) < (n : Int) := by omega
      obtain rfl : i = n := by omega
      obtain ⟨x0, hx0⟩ : ∃ x, x = mnF (sx l) i := ⟨_, rfl⟩
      obtain ⟨x1, hx1⟩ : ∃ x, x = mxF (sx l) i := ⟨_, rfl⟩
      obtain ⟨y0, hy0⟩ : ∃ x, x = mnF (sy l) i := ⟨_, rfl⟩
      obtain ⟨y1, hy1⟩ : ∃ x, x = mxF (sy l) i := ⟨_, rfl⟩
      obtain ⟨wd, hwd⟩ : ∃ k : Nat, k = (x1 - x0 + 1).toNat := ⟨_, rfl⟩
      obtain ⟨ht, hht⟩ : ∃ k : Nat, k = (y1 - y0 + 1).toNat := ⟨_, rfl⟩
      have HP : Hid (pic l = pcB l x0 y1 wd ht) := (by rw [hwd, hht, hx0, hx1, hy0, hy1, HN.out.1]; rfl : pic l = pcB l x0 y1 wd ht)
      have bx : ∀ k, k < i → (-1000000 ≤ sx l k ∧ sx l k ≤ 1000000) := fun k hk => (HN.out.2.1 k (by have := HN.out.1; omega)).1
      have by' : ∀ k, k < i → (-1000000 ≤ sy l k ∧ sy l k ≤ 1000000) := fun k hk => (HN.out.2.1 k (by have := HN.out.1; omega)).2.1
      obtain ⟨bx0, bx0'⟩ := mnF_in bx h0 i (Nat.le_refl _)
      obtain ⟨bx1, bx1'⟩ := mxF_in bx h0 i (Nat.le_refl _)
      obtain ⟨by0, by0'⟩ := mnF_in by' h0 i (Nat.le_refl _)
      obtain ⟨by1, by1'⟩ := mxF_in by' h0 i (Nat.le_refl _)
      rw [← hx0] at bx0 bx0' ⊢
      rw [← hx1] at bx1 bx1' ⊢
      rw [← hy0] at by0 by0' ⊢
      rw [← hy1] at by1 by1' ⊢
      have HW : Hid (∀ j : Nat, (j < wd ↔ x0 + (j : Int) ≤ x1)) := fun j => by rw [hwd]; omega
      have HH : Hid (∀ t : Nat, (t < ht ↔ y0 ≤ y1 - (t : Int))) := fun t => by rw [hht]; omega
      have HBD : Hid (wd ≤ 2000001 ∧ ht ≤ 2000001) := ⟨by omega, by omega⟩
      clear hx0 hx1 hy0 hy1 hwd hht bx by' HXY
      go_wp2
      go_loopg [10, 11] ht (fun gk s10 s11 wx => ∃ (t : Nat) (y : Int), t ≤ ht ∧ gk = ht - t ∧ y = y1 - (t : Int) ∧ s10 = .string (pcB l x0 y1 wd t) ∧ s11 = .int .i64 y ∧ Below wq.heap.size wq wx)
      case atStart => exact ⟨0, y1, by omega, rfl, by simp, rfl, rfl, HJ.out⟩
      case round =>
        obtain ⟨t, y, hti, rfl, hyt, rfl, rfl, hB⟩ := hrel
        have HT : Hid (Below wq.heap.size wq wr ∧ y = y1 - (t : Int) ∧ t ≤ ht) := ⟨hB, hyt, hti⟩
        by_cases hth : t < ht
        · have q1 : y0 ≤ y := by rw [hyt]; exact (HH.out t).1 hth
          have yb1 : -1000000 ≤ y := by omega
          have yb2 : y ≤ 1000000 := by omega
          have HTH : Hid (t < ht) := hth
          clear hB hyt hti hth
          go_wp2
          go_loopg [10, 12] wd (fun gk s10 s12 wx => ∃ (j : Nat) (x : Int), j ≤ wd ∧ gk = wd - j ∧ x = x0 + (j : Int) ∧ s10 = .string (rwB l x0 y (pcB l x0 y1 wd t) j) ∧ s12 = .int .i64 x ∧ Below wq.heap.size wq wx)
          case atStart => exact ⟨0, x0, by omega, rfl, by simp, rfl, rfl, HT.out.1⟩
          case round =>
            obtain ⟨j, x, hji, rfl, hxj, rfl, rfl, hB⟩ := hrel
            have HX : Hid (Below wq.heap.size wq wr ∧ x = x0 + (j : Int) ∧ j ≤ wd) := ⟨hB, hxj, hji⟩
            by_cases hjw : j < wd
            · have q2 : x ≤ x1 := by rw [hxj]; exact (HW.out j).1 hjw
              have xb1 : -1000000 ≤ x := by omega
              have xb2 : x ≤ 1000000 := by omega
              have HJW : Hid (j < wd) := hjw
              clear hB hxj hji hjw
              go_wp2
              go_loopg [13, 14, 15] i (fun gk s13 s14 s15 wx => ∃ k : Nat, k ≤ i ∧ gk = i - k ∧ s13 = .int .i64 (cvF l x y k) ∧ s14 = .int .i64 (bkF l x y k) ∧ s15 = .int .i64 (k : Int) ∧ Below wq.heap.size wq wx)
              case atStart => exact ⟨0, by omega, rfl, rfl, rfl, rfl, HX.out.1⟩
              case round =>
                obtain ⟨k, hki, rfl, rfl, rfl, rfl, hB⟩ := hrel
                have HK : Hid (Below wq.heap.size wq wr) := hB
                clear hB
                obtain ⟨⟨cb1, cb2⟩, cb3, cb4⟩ := HN.out.2.2 x y k (by have := HN.out.1; omega)
                by_cases hk : k < i
                · have k1 : (k : Int) < (i : Int) := by omega
                  have k0 : (0 : Int) ≤ (k : Int) := by omega
                  obtain ⟨g', e1, d0, d1, d2, d6⟩ := (HS2.out.kept HK.out) k (by have := HN.out.1; omega)
                  cases e1
                  have zd := World.block_lt_of_cell? _ _ d0
                  have E1 : Hid (cvF l x y (k + 1) = if (sn l k).1.1 = x ∧ (sn l k).1.2.1 = y then cvF l x y k + pw (sn l k).1.2.2 else cvF l x y k) := rfl
                  have E2 : Hid (bkF l x y (k + 1) = if (sn l k).1.1 = x ∧ (sn l k).1.2.1 = y then (if (sn l k).2.2 = true then bkF l x y k + pw (sn l k).1.2.2 else bkF l x y k) else bkF l x y k) := rfl
                  obtain ⟨kb1, kb2⟩ := (HN.out.2.1 k (by have := HN.out.1; omega)).2.2
                  generalize (sn l k).1.1 = X at *
                  generalize (sn l k).1.2.1 = Y at *
                  generalize (sn l k).1.2.2 = K at *
                  generalize (sn l k).2.2 = B at *
                  generalize cvF l x y k = cv at *
                  generalize bkF l x y k = bk at *
                  by_cases p1 : X = x
                  · by_cases p2 : Y = y
                    · have r1 : (X != x) = false := by simpa using p1
                      have r2 : (Y != y) = false := by simpa using p2
                      have F1 := E1.out
                      have F2 := E2.out
                      rw [if_pos ⟨p1, p2⟩] at F1 F2
                      clear p1 p2 E1 E2
                      have hK : K = 0 ∨ K = 1 ∨ K = 2 ∨ K = 3 := by omega
                      clear kb1 kb2
                      cases B <;> rcases hK with rfl | rfl | rfl | rfl
                      all_goals
                        simp [pw] at F1 F2
                        have HF := (show Hid (_ ∧ _) from ⟨F1, F2⟩)
                        clear F1 F2
                        go_wp2
                        go_roundg (i - (k + 1))
                        case measure => omega
                        case rel => exact ⟨k + 1, by omega, rfl, by rw [HF.out.1], by rw [HF.out.2], by go_num, HK.out⟩
                    · have r1 : (X != x) = false := by simpa using p1
                      have r2 : (Y != y) = true := by simpa using p2
                      have F1 := E1.out
                      have F2 := E2.out
                      rw [if_neg (fun h => p2 h.2)] at F1 F2
                      have HF := (show Hid (_ ∧ _) from ⟨F1, F2⟩)
                      clear F1 F2 p1 p2 E1 E2 kb1 kb2
                      go_wp2
                      go_roundg (i - (k + 1))
                      case measure => omega
                      case rel => exact ⟨k + 1, by omega, rfl, by rw [HF.out.1], by rw [HF.out.2], by go_num, HK.out⟩
                  · have r1 : (X != x) = true := by simpa using p1
                    have F1 := E1.out
                    have F2 := E2.out
                    rw [if_neg (fun h => p1 h.1)] at F1 F2
                    have HF := (show Hid (_ ∧ _) from ⟨F1, F2⟩)
                    clear F1 F2 p1 E1 E2 kb1 kb2
                    go_wp2
                    go_roundg (i - (k + 1))
                    case measure => omega
                    case rel => exact ⟨k + 1, by omega, rfl, by rw [HF.out.1], by rw [HF.out.2], by go_num, HK.out⟩
                · have k1 : ¬ (k : Int) < (i : Int) := by omega
                  obtain rfl : k = i := by omega
                  have E1 : Hid (rwB l x0 y (pcB l x0 y1 wd t) (j + 1) = clB (if 0 < j then rwB l x0 y (pcB l x0 y1 wd t) j ++ blk else rwB l x0 y (pcB l x0 y1 wd t) j) (cvF l x y k) (bkF l x y k)) := (by rw [HX.out.2.1, HN.out.1]; rfl : rwB l x0 y (pcB l x0 y1 wd t) (j + 1) = clB (if 0 < j then rwB l x0 y (pcB l x0 y1 wd t) j ++ blk else rwB l x0 y (pcB l x0 y1 wd t) j) (cvF l x y k) (bkF l x y k))
                  have D1 : Hid (∀ V : World, Calls Tryz.prog 75 #[.int .i64 (cvF l x y k)] V fun e w' => e = .returned (.string (hexI (cvF l x y k))) ∧ Below V.heap.size V w') := fun V => CL.out _ V cb1 cb2
                  have D2 : Hid (∀ V : World, Calls Tryz.prog 75 #[.int .i64 (bkF l x y k)] V fun e w' => e = .returned (.string (hexI (bkF l x y k))) ∧ Below V.heap.size V w') := fun V => CL.out _ V cb3 cb4
                  generalize cvF l x y k = cv at *
                  generalize bkF l x y k = bk at *
                  have hsz := pc_small l x0 y1 y HBD.out.1 HBD.out.2 HT.out.2.2 HX.out.2.2
                  generalize rwB l x0 y (pcB l x0 y1 wd t) j = sB at *
                  have HSZ : Hid (sB.size ≤ 100000000000000) := hsz
                  clear hsz
                  clear cb1 cb2 cb3 cb4
                  by_cases z1 : 0 < j
                  · have r1 : x0 < x := by have := HX.out.2.1; omega
                    by_cases z2 : cv = 0
                    · have r2 : (cv == 0) = true := by simpa using z2
                      have F1 := E1.out
                      rw [if_pos z1, clB, if_pos z2] at F1
                      have HF := (show Hid _ from F1)
                      have a1 := add_ok (a := sB) (b := ⟨#[32]⟩) (by have := HSZ.out; omega) (by decide)
                      have a2 := add_ok (a := sB ++ ⟨#[32]⟩) (b := ⟨#[46, 46]⟩) (by have := HSZ.out; rw [ByteArray.size_append, show (⟨#[32]⟩ : ByteArray).size = 1 from rfl]; omega) (by decide)
                      clear F1 E1 z2 D1 D2
                      go_wp2
                      go_roundg (wd - (j + 1))
                      case measure => have := HJW.out; omega
                      case rel => exact ⟨j + 1, x + 1, by have := HJW.out; omega, rfl, by have := HX.out.2.1; omega, (by rw [HF.out]; try rfl), by go_num, HK.out⟩
                    · have r2 : (cv == 0) = false := by simpa using z2
                      have F1 := E1.out
                      rw [if_pos z1, clB, if_neg z2] at F1
                      have HF := (show Hid _ from F1)
                      have a1 := add_ok (a := sB) (b := ⟨#[32]⟩) (by have := HSZ.out; omega) (by decide)
                      have a2 := add_ok (a := sB ++ ⟨#[32]⟩) (b := hexI cv) (by have := HSZ.out; rw [ByteArray.size_append, show (⟨#[32]⟩ : ByteArray).size = 1 from rfl]; omega) (by rw [hexI_size]; omega)
                      have a3 := add_ok (a := sB ++ ⟨#[32]⟩ ++ hexI cv) (b := hexI bk) (by have := HSZ.out; rw [ByteArray.size_append, ByteArray.size_append, hexI_size, show (⟨#[32]⟩ : ByteArray).size = 1 from rfl]; omega) (by rw [hexI_size]; omega)
                      clear F1 E1 z2
                      go_wp2_with (first | (go_at_call 75; (with_reducible refine (D1.out _).mono ?_); rintro e w5 ⟨rfl, hb5⟩) | (go_at_call 75; (with_reducible refine (D2.out _).mono ?_); rintro e w6 ⟨rfl, hb6⟩) | fail)
                      go_roundg (wd - (j + 1))
                      case measure => have := HJW.out; omega
                      case rel => exact ⟨j + 1, x + 1, by have := HJW.out; omega, rfl, by have := HX.out.2.1; omega, (by rw [HF.out]; try rfl), by go_num, bl_via HK.out (bl_via hb5 hb6)⟩
                  · have r1 : ¬ x0 < x := by have := HX.out.2.1; omega
                    by_cases z2 : cv = 0
                    · have r2 : (cv == 0) = true := by simpa using z2
                      have F1 := E1.out
                      rw [if_neg z1, clB, if_pos z2] at F1
                      have HF := (show Hid _ from F1)
                      have a2 := add_ok (a := sB) (b := ⟨#[46, 46]⟩) (by have := HSZ.out; omega) (by decide)
                      clear F1 E1 z2 D1 D2
                      go_wp2
                      go_roundg (wd - (j + 1))
                      case measure => have := HJW.out; omega
                      case rel => exact ⟨j + 1, x + 1, by have := HJW.out; omega, rfl, by have := HX.out.2.1; omega, (by rw [HF.out]; try rfl), by go_num, HK.out⟩
                    · have r2 : (cv == 0) = false := by simpa using z2
                      have F1 := E1.out
                      rw [if_neg z1, clB, if_neg z2] at F1
                      have HF := (show Hid _ from F1)
                      have a2 := add_ok (a := sB) (b := hexI cv) (by have := HSZ.out; omega) (by rw [hexI_size]; omega)
                      have a3 := add_ok (a := sB ++ hexI cv) (b := hexI bk) (by have := HSZ.out; rw [ByteArray.size_append, hexI_size]; omega) (by rw [hexI_size]; omega)
                      clear F1 E1 z2
                      go_wp2_with (first | (go_at_call 75; (with_reducible refine (D1.out _).mono ?_); rintro e w5 ⟨rfl, hb5⟩) | (go_at_call 75; (with_reducible refine (D2.out _).mono ?_); rintro e w6 ⟨rfl, hb6⟩) | fail)
                      go_roundg (wd - (j + 1))
                      case measure => have := HJW.out; omega
                      case rel => exact ⟨j + 1, x + 1, by have := HJW.out; omega, rfl, by have := HX.out.2.1; omega, (by rw [HF.out]; try rfl), by go_num, bl_via HK.out (bl_via hb5 hb6)⟩
            · have q2 : ¬ x ≤ x1 := by rw [hxj]; exact fun h => hjw ((HW.out j).2 h)
              obtain rfl : j = wd := by omega
              have E1 : Hid (pcB l x0 y1 j (t + 1) = rwB l x0 y (pcB l x0 y1 j t) j ++ lfd) := (by rw [HT.out.2.1]; rfl : pcB l x0 y1 j (t + 1) = rwB l x0 y (pcB l x0 y1 j t) j ++ lfd)
              have a1 := add_ok (a := rwB l x0 y (pcB l x0 y1 j t) j) (b := ⟨#[10]⟩) (by have := pc_small l x0 y1 y HBD.out.1 HBD.out.2 HT.out.2.2 (Nat.le_refl j); omega) (by decide)
              clear hB hxj hji hjw
              go_wp2
              go_roundg (ht - (t + 1))
              case measure => have := HTH.out; omega
              case rel => exact ⟨t + 1, y - 1, by have := HTH.out; omega, rfl, by have := HT.out.2.1; omega, (by rw [E1.out]; try rfl), by go_num, HX.out.1⟩
        · have q1 : ¬ y0 ≤ y := by rw [hyt]; exact fun h => hth ((HH.out t).2 h)
          obtain rfl : t = ht := by omega
          clear hB hyt hti hth
          go_wp2
          go_ret
          exact ⟨by rw [HP.out]; rfl, bl_via HB.out HT.out.1⟩
end Go.Proofs.YtnpboeodhpenmaaGreatDoor
