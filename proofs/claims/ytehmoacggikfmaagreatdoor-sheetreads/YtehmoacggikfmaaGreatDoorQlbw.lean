/- The edges on a way: the reference's. -/
import Derived.Test.YtehmoacggikfmaaGreatDoorQlbm
namespace Go.Proofs.YtehmoacggikfmaaGreatDoor
open Go.RowKit

theorem td_sg {X N : Int} (hN : 0 < N) (h : X = 0 ∨ X = N ∨ X = -N) : X.tdiv N = sgI X := by
  rcases h with rfl | rfl | rfl
  · simp [sgI]
  · rw [Int.tdiv_self (by omega)]
    unfold sgI
    rw [if_neg (by omega), if_pos hN]
  · rw [Int.neg_tdiv, Int.tdiv_self (by omega)]
    unfold sgI
    rw [if_neg (by omega), if_neg (by omega)]
theorem sg_bd (X : Int) : sgI X = 0 ∨ sgI X = 1 ∨ sgI X = -1 := by
  unfold sgI
  split
  · exact Or.inl rfl
  · split
    · exact Or.inr (Or.inl rfl)
    · exact Or.inr (Or.inr rfl)
theorem nmE_e (a b c d : Int) : nmE (a, b, c, d) = (eA a b c d, eB a b c d, eC a b c d, eD a b c d) := by
  have h : ltPt c d a b = lessB c d a b := by
    unfold ltPt lessB
    rw [Bool.eq_iff_iff]
    simp
  unfold nmE eA eB eC eD
  dsimp only
  rw [h]
  cases lessB c d a b <;> rfl
/-- Such a way: what is known of it. -/
theorem er_ok {a b c d : Nat} (ha : a ≤ 16) (hb : b ≤ 16) (hc : c ≤ 16) (hd : d ≤ 16) (h1 : a % 2 = b % 2) (h2 : c % 2 = d % 2) (hn : noR a b c d = false) :
    ∃ M : Nat, nR a b c d = M * byR a b c d ∧ 0 < nR a b c d ∧ nR a b c d ≤ 16 ∧ ((c : Int) - a = 0 ∨ (c : Int) - a = nR a b c d ∨ (c : Int) - a = -nR a b c d) ∧ ((d : Int) - b = 0 ∨ (d : Int) - b = nR a b c d ∨ (d : Int) - b = -nR a b c d) ∧ (slR a b c d = true → (c : Int) - a = d - b ∨ (c : Int) - a = -((d : Int) - b)) ∧ (slR a b c d = false → a % 2 = 0) ∧ egR a b c d = (bt M a b (byR a b c d * sgI ((c : Int) - a)) (byR a b c d * sgI ((d : Int) - b))).map nmE := by
  have hn2 : ¬ noR a b c d = true := by rw [hn]; decide
  obtain ⟨cs, hx⟩ := noR_dirs hn2
  have hs : slR a b c d = true ↔ (c : Int) - a ≠ 0 ∧ (d : Int) - b ≠ 0 := by unfold slR; rw [decide_eq_true_eq]
  have hsf : slR a b c d = false ↔ ¬ ((c : Int) - a ≠ 0 ∧ (d : Int) - b ≠ 0) := by rw [← hs]; simp
  have hby : byR a b c d = if slR a b c d = true then 1 else 2 := rfl
  have hN : nR a b c d = if (c : Int) - a = 0 then (if (d : Int) - b < 0 then -((d : Int) - b) else (d : Int) - b) else if (c : Int) - a < 0 then -((c : Int) - a) else (c : Int) - a := rfl
  have key : ∃ M : Nat, nR a b c d = M * byR a b c d ∧ 0 < nR a b c d ∧ nR a b c d ≤ 16 ∧ ((c : Int) - a = 0 ∨ (c : Int) - a = nR a b c d ∨ (c : Int) - a = -nR a b c d) ∧ ((d : Int) - b = 0 ∨ (d : Int) - b = nR a b c d ∨ (d : Int) - b = -nR a b c d) := by
    rcases cs with ⟨k1, k2⟩ | ⟨k1, k2⟩ | ⟨k1, k2⟩ | ⟨k1, k2⟩ | ⟨k1, k2⟩ | ⟨k1, k2⟩ | ⟨k1, k2⟩ | ⟨k1, k2⟩
    · have hy := hx (Or.inl k1)
      rw [hby, hsf.2 (by omega), if_neg (by decide), hN, if_pos k1, if_neg (by omega)]
      exact ⟨(((d : Int) - b) / 2).toNat, by omega, by omega, by omega, by omega, by omega⟩
    · have hy := hx (Or.inl k1)
      rw [hby, hsf.2 (by omega), if_neg (by decide), hN, if_pos k1, if_pos k2]
      exact ⟨(-((d : Int) - b) / 2).toNat, by omega, by omega, by omega, by omega, by omega⟩
    · have hy := hx (Or.inr k2)
      rw [hby, hsf.2 (by omega), if_neg (by decide), hN, if_neg (by omega), if_neg (by omega)]
      exact ⟨(((c : Int) - a) / 2).toNat, by omega, by omega, by omega, by omega, by omega⟩
    · have hy := hx (Or.inr k2)
      rw [hby, hsf.2 (by omega), if_neg (by decide), hN, if_neg (by omega), if_pos k1]
      exact ⟨(-((c : Int) - a) / 2).toNat, by omega, by omega, by omega, by omega, by omega⟩
    · rw [hby, hs.2 (by omega), if_pos rfl, hN, if_neg (by omega), if_neg (by omega)]
      exact ⟨((c : Int) - a).toNat, by omega, by omega, by omega, by omega, by omega⟩
    · rw [hby, hs.2 (by omega), if_pos rfl, hN, if_neg (by omega), if_neg (by omega)]
      exact ⟨((c : Int) - a).toNat, by omega, by omega, by omega, by omega, by omega⟩
    · rw [hby, hs.2 (by omega), if_pos rfl, hN, if_neg (by omega), if_pos (by omega)]
      exact ⟨(-((c : Int) - a)).toNat, by omega, by omega, by omega, by omega, by omega⟩
    · rw [hby, hs.2 (by omega), if_pos rfl, hN, if_neg (by omega), if_pos (by omega)]
      exact ⟨(-((c : Int) - a)).toNat, by omega, by omega, by omega, by omega, by omega⟩
  obtain ⟨M, e1, e2, e3, e4, e5⟩ := key
  refine ⟨M, e1, e2, e3, e4, e5, fun h => ?_, fun h => ?_, ?_⟩
  · have := hs.1 h
    omega
  · have := hsf.1 h
    have := hx (by omega)
    omega
  · unfold egR
    rw [if_neg hn2]
    have hq : (nR a b c d / byR a b c d).toNat = M := by
      have hb0 : byR a b c d = 1 ∨ byR a b c d = 2 := by rw [hby]; split <;> simp
      rcases hb0 with h | h
      · rw [e1, h]; omega
      · rw [e1, h]; omega
    rw [hq]
/-- Edges on a way, so many of them. -/
structure EO (w wx : World) (a b : Nat) (sl : Value) (l : List E4) : Prop where
  own : wx.ownsRow (w.heap.size + 2) 53 4 sl l.length (flE l)
  c0 : wx.cell? ⟨w.heap.size, 0, none⟩ = some (.int .i64 (a : Int))
  c1 : wx.cell? ⟨w.heap.size, 1, none⟩ = some (.int .i64 (b : Int))
  bl : Below w.heap.size w wx
  sz : w.heap.size + 2 ≤ wx.heap.size
set_option maxRecDepth 100000 in
set_option maxHeartbeats 3200000 in
theorem edgesOn_any (a b c d : Nat) (w : World) (ha : a ≤ 16) (hb : b ≤ 16) (hc : c ≤ 16) (hd : d ≤ 16) (h1 : a % 2 = b % 2) (h2 : c % 2 = d % 2) :
    Calls Tryz.prog 35 #[.agg #[.int .i64 (a : Int), .int .i64 (b : Int)], .agg #[.int .i64 (c : Int), .int .i64 (d : Int)]] w fun e w' => ∃ sl, e = .returned sl ∧ BtTo w w' sl (egR a b c d) := by
  obtain ⟨i0, hi, hz0, hz1, hz2⟩ := info_parts inf53
  have HI : Hid (Tryz.prog.info? 53 = some i0 ∧ i0.zero = some (.agg #[.int .i64 0, .int .i64 0, .int .i64 0, .int .i64 0]) ∧ i0.size = 4 ∧ i0.bytes = 32) := ⟨hi, hz0, hz1, hz2⟩
  clear hi hz0 hz1 hz2
  obtain ⟨X, hX⟩ : ∃ X : Int, X = (c : Int) - (a : Int) := ⟨_, rfl⟩
  obtain ⟨Y, hY⟩ : ∃ Y : Int, Y = (d : Int) - (b : Int) := ⟨_, rfl⟩
  obtain ⟨N, hN⟩ : ∃ N : Int, N = nR a b c d := ⟨_, rfl⟩
  obtain ⟨S, hS⟩ : ∃ S : Bool, S = slR a b c d := ⟨_, rfl⟩
  obtain ⟨BY, hBY⟩ : ∃ BY : Int, BY = byR a b c d := ⟨_, rfl⟩
  have wX : IntKind.i64.wrap ((c : Int) - (a : Int)) = X := by rw [IntKind.wrap_i64]; omega
  have wY : IntKind.i64.wrap ((d : Int) - (b : Int)) = Y := by rw [IntKind.wrap_i64]; omega
  have wnX : IntKind.i64.wrap (-X) = -X := by rw [IntKind.wrap_i64]; omega
  have wnY : IntKind.i64.wrap (-Y) = -Y := by rw [IntKind.wrap_i64]; omega
  have HND : Hid (N = if X = 0 then (if Y < 0 then -Y else Y) else if X < 0 then -X else X) := by
    show N = _
    rw [hN, hX, hY]
    rfl
  obtain ⟨AX, hAX⟩ : ∃ AX : Int, AX = if X < 0 then -X else X := ⟨_, rfl⟩
  have HAX : Hid (AX = if X < 0 then -X else X) := hAX
  clear hAX
  have HSD : Hid (S = decide (X ≠ 0 ∧ Y ≠ 0)) := by
    show S = _
    rw [hS, hX, hY]
    rfl
  have HBD : Hid (BY = if S then 1 else 2) := by
    show BY = _
    rw [hBY, hS]
    rfl
  have HNO : Hid (noR a b c d = decide (N = 0 ∨ (S = true ∧ X ≠ Y ∧ X ≠ -Y) ∨ (S = false ∧ (a : Int) % 2 ≠ 0))) := by
    show noR a b c d = _
    rw [hN, hS, hX, hY]
    rfl
  have HOK : Hid (noR a b c d = false → ∃ M : Nat, N = M * BY ∧ 0 < N ∧ N ≤ 16 ∧ (X = 0 ∨ X = N ∨ X = -N) ∧ (Y = 0 ∨ Y = N ∨ Y = -N) ∧ (S = true → X = Y ∨ X = -Y) ∧ (S = false → a % 2 = 0) ∧ egR a b c d = (bt M a b (BY * sgI X) (BY * sgI Y)).map nmE) := fun h => by
    have h9 := er_ok ha hb hc hd h1 h2 h
    rw [← hN, ← hS, ← hBY, ← hX, ← hY] at h9
    exact h9
  have HEN : Hid (noR a b c d = true → egR a b c d = []) := fun h => by
    unfold egR
    rw [if_pos h]
  clear hN hS hBY hX hY h1 h2 hc hd
  go_enter Tryz.func35, Tryz.ntmps35
  go_wp2
  go_cut [5, 6] (fun s5 s6 wx => s5 = .int .i64 X ∧ s6 = .int .i64 Y ∧ wx.cell? ⟨w.heap.size, 0, none⟩ = some (.int .i64 (a : Int)) ∧ wx.cell? ⟨w.heap.size, 1, none⟩ = some (.int .i64 (b : Int)) ∧ Below w.heap.size w wx ∧ w.heap.size + 2 ≤ wx.heap.size)
  case first =>
    go_region_held3 (fun w' => w'.cell? ⟨w.heap.size, 0, none⟩ = some (.int .i64 (a : Int)) ∧ w'.cell? ⟨w.heap.size, 1, none⟩ = some (.int .i64 (b : Int)) ∧ w'.cell? ⟨w.heap.size + 1, 0, none⟩ = some (.int .i64 (c : Int)) ∧ w'.cell? ⟨w.heap.size + 1, 1, none⟩ = some (.int .i64 (d : Int)))
      (refine ⟨?_, ?_, ?_, ?_⟩ <;> (simp [go_sem]; done))
      (fail)
    go_wp2
    go_meet
    case rel => exact ⟨rfl, rfl, by simp [go_sem], by simp [go_sem], bl_drew (bl_alloc (bl_alloc (bl_refl _))), by simp⟩
  case rest =>
    obtain ⟨rfl, rfl, c0, c1, hbl, hsz⟩ := hcut
    have HW : Hid (wc.cell? ⟨w.heap.size, 0, none⟩ = some (.int .i64 (a : Int)) ∧ wc.cell? ⟨w.heap.size, 1, none⟩ = some (.int .i64 (b : Int)) ∧ Below w.heap.size w wc ∧ w.heap.size + 2 ≤ wc.heap.size) := ⟨c0, c1, hbl, hsz⟩
    clear c1 hbl hsz wX wY
    obtain ⟨V, hV⟩ : ∃ V, V = wc := ⟨_, rfl⟩
    rw [← hV] at HW c0 ⊢
    clear hV
    go_upto_if 26 with (fail)
    go_cut [7] from 14 (fun s7 wx => s7 = .int .i64 AX ∧ wx = V)
    case first =>
      by_cases hx : X < 0
      · go_wp2
        go_meet
        case rel => exact ⟨by rw [HAX.out, if_pos (by omega)], rfl⟩
      · go_wp2
        go_meet
        case rel => exact ⟨by rw [HAX.out, if_neg (by omega)], rfl⟩
    case rest =>
      obtain ⟨rfl, hwc⟩ := hcut
      rw [hwc]
      clear hwc
      go_upto_if 30 with (fail)
      go_cut [7] from 14 (fun s7 wx => s7 = .int .i64 N ∧ wx = V)
      case first =>
        by_cases hx : X = 0
        · have hx0 : (X == 0) = true := by simpa using hx
          have hx0n : (X != 0) = false := by rw [bne, hx0]; rfl
          have HX : Hid (X = 0) := hx
          clear hx
          by_cases hy : Y < 0
          · go_wp2
            go_meet
            case rel => exact ⟨by rw [HND.out, if_pos HX.out, if_pos (by omega)], rfl⟩
          · go_wp2
            go_meet
            case rel => exact ⟨by rw [HND.out, if_pos HX.out, if_neg (by omega)], rfl⟩
        · have hx0 : (X == 0) = false := by simpa using hx
          have hx0n : (X != 0) = true := by rw [bne, hx0]; rfl
          have HX : Hid (¬ X = 0) := hx
          clear hx
          go_wp2
          go_meet
          case rel => exact ⟨by rw [HND.out, if_neg HX.out, HAX.out], rfl⟩
      case rest =>
        obtain ⟨rfl, hwc⟩ := hcut
        rw [hwc]
        clear hwc
        go_upto_region 9 with (fail)
        go_cut [5, 6, 8] from 14 (fun s5 s6 s8 wx => s5 = .int .i64 X ∧ s6 = .int .i64 Y ∧ s8 = .bool S ∧ wx = V)
        case first =>
          by_cases hx : X = 0
          · have hx0 : (X == 0) = true := by simpa using hx
            have hx0n : (X != 0) = false := by rw [bne, hx0]; rfl
            have HV : Hid (S = false) := by show S = false; rw [HSD.out]; simp [hx]
            have HX : Hid (X = 0) := hx
            clear hx
            go_wp2
            go_meet
            case rel => exact ⟨by rw [HX.out], rfl, by rw [HV.out], rfl⟩
          · have hx0 : (X == 0) = false := by simpa using hx
            have hx0n : (X != 0) = true := by rw [bne, hx0]; rfl
            by_cases hy : Y = 0
            · have hy0 : (Y == 0) = true := by simpa using hy
              have hy0n : (Y != 0) = false := by rw [bne, hy0]; rfl
              have HV : Hid (S = false) := by show S = false; rw [HSD.out]; simp [hy]
              have HY : Hid (Y = 0) := hy
              clear hx hy
              go_wp2
              go_meet
              case rel => exact ⟨rfl, by rw [HY.out], by rw [HV.out], rfl⟩
            · have hy0 : (Y == 0) = false := by simpa using hy
              have hy0n : (Y != 0) = true := by rw [bne, hy0]; rfl
              have HV : Hid (S = true) := by show S = true; rw [HSD.out]; simp [hx, hy]
              clear hx hy
              go_wp2
              go_meet
              case rel => exact ⟨rfl, rfl, by rw [HV.out], rfl⟩
        case rest =>
          obtain ⟨rfl, rfl, rfl, hwc⟩ := hcut
          rw [hwc]
          clear hwc
          cases hno : noR a b c d
          · obtain ⟨M, m1, m2, m3, m4, m5, m6, m7, m8⟩ := HOK.out hno
            have n0 : (N == 0) = false := by rw [beq_eq_false_iff_ne]; omega
            have n0n : (N != 0) = true := by rw [bne, n0]; rfl
            have n1 : ¬ N = 0 := by omega
            have HM : Hid (N = M * BY ∧ 0 < N ∧ N ≤ 16 ∧ (X = 0 ∨ X = N ∨ X = -N) ∧ (Y = 0 ∨ Y = N ∨ Y = -N) ∧ egR a b c d = (bt M a b (BY * sgI X) (BY * sgI Y)).map nmE) := ⟨m1, m2, m3, m4, m5, m8⟩
            have HM6 : Hid (S = true → X = Y ∨ X = -Y) := m6
            have HM7 : Hid (S = false → a % 2 = 0) := m7
            clear m1 m2 m3 m4 m5 m6 m7 m8 hno
            go_upto_region 10 with (fail)
            go_cut [5, 6, 7, 8, 67] from 14 (fun s5 s6 s7 s8 s67 wx => s5 = .int .i64 X ∧ s6 = .int .i64 Y ∧ s7 = .int .i64 N ∧ s8 = .bool S ∧ s67 = .bool false ∧ wx = V)
            case first =>
              cases hSS : S
              · have e2 : ((a : Int) % 2 == 0) = true := by have := HM7.out hSS; rw [beq_iff_eq]; omega
                have e2n : ((a : Int) % 2 != 0) = false := by rw [bne, e2]; rfl
                have e3 : ((a : Int).tmod 2 == 0) = true := by have := HM7.out hSS; rw [beq_iff_eq, tmod2]; omega
                have e3n : ((a : Int).tmod 2 != 0) = false := by rw [bne, e3]; rfl
                go_wp2
                go_meet
                case rel => exact ⟨rfl, rfl, rfl, by rw [hSS], rfl, rfl⟩
              · have e1 := HM6.out hSS
                by_cases hxy : X = Y
                · have e2 : (X == Y) = true := by rw [beq_iff_eq]; exact hxy
                  have e2n : (X != Y) = false := by rw [bne, e2]; rfl
                  have HXY : Hid (X = Y) := hxy
                  clear hxy e1
                  go_wp2
                  go_meet
                  case rel => exact ⟨by first | rfl | rw [HXY.out], by first | rfl | rw [HXY.out], rfl, by rw [hSS], rfl, rfl⟩
                · have e2 : (X == Y) = false := by rw [beq_eq_false_iff_ne]; exact hxy
                  have e2n : (X != Y) = true := by rw [bne, e2]; rfl
                  have e3 : X = -Y := by omega
                  have e4 : (X == -Y) = true := by rw [beq_iff_eq]; exact e3
                  have e4n : (X != -Y) = false := by rw [bne, e4]; rfl
                  have HXY : Hid (X = -Y) := e3
                  clear e3 hxy e1
                  go_wp2
                  go_meet
                  case rel => exact ⟨by first | rfl | rw [HXY.out], by first | rfl | rw [HXY.out], rfl, by rw [hSS], rfl, rfl⟩
            case rest =>
              obtain ⟨rfl, rfl, rfl, rfl, rfl, hwc⟩ := hcut
              rw [hwc]
              clear hwc
              go_upto_if 69 with (fail)
              go_cut [8, 9] from 14 (fun s8 s9 wx => s8 = .bool S ∧ s9 = .int .i64 BY ∧ wx = V)
              case first =>
                cases hSS : S
                · go_wp2
                  go_meet
                  case rel => exact ⟨by rw [hSS], by rw [HBD.out, hSS]; rfl, rfl⟩
                · go_wp2
                  go_meet
                  case rel => exact ⟨by rw [hSS], by rw [HBD.out, hSS]; rfl, rfl⟩
              case rest =>
                obtain ⟨rfl, rfl, hwc⟩ := hcut
                rw [hwc]
                clear hwc
                have hBB : BY = 1 ∨ BY = 2 := by rw [HBD.out]; cases S <;> simp
                go_wp2
                obtain ⟨m1, m2, m3, m4, m5, m8⟩ := HM.out
                have hMb : M ≤ 16 := by rcases hBB with h | h <;> rw [h] at m1 <;> omega
                obtain ⟨SX, hSX⟩ : ∃ x, x = sgI X := ⟨_, rfl⟩
                obtain ⟨SY, hSY⟩ : ∃ x, x = sgI Y := ⟨_, rfl⟩
                have bX : SX = 0 ∨ SX = 1 ∨ SX = -1 := by rw [hSX]; exact sg_bd X
                have bY : SY = 0 ∨ SY = 1 ∨ SY = -1 := by rw [hSY]; exact sg_bd Y
                have qx : X.tdiv N = SX := by rw [hSX]; exact td_sg m2 m4
                have qy : Y.tdiv N = SY := by rw [hSY]; exact td_sg m2 m5
                have wx1 : IntKind.i64.wrap SX = SX := by rw [IntKind.wrap_i64]; omega
                have wy1 : IntKind.i64.wrap SY = SY := by rw [IntKind.wrap_i64]; omega
                have HE0 : Hid (EO w V a b (.slice none 0 0) ((bt 0 a b (BY * SX) (BY * SY)).map nmE)) := { own := by simpa [bt, flE] using World.ownsRow_nil _ _ _ _, c0 := HW.out.1, c1 := HW.out.2.1, bl := HW.out.2.2.1, sz := HW.out.2.2.2 }
                have HM2 : Hid (N = M * BY ∧ N ≤ 16 ∧ (BY = 1 ∨ BY = 2) ∧ (SX = 0 ∨ SX = 1 ∨ SX = -1) ∧ (SY = 0 ∨ SY = 1 ∨ SY = -1) ∧ egR a b c d = (bt M a b (BY * SX) (BY * SY)).map nmE) := ⟨m1, m3, hBB, bX, bY, by rw [hSX, hSY]; exact m8⟩
                clear m1 m2 m3 m4 m5 m8 HM HM6 HM7 hBB bX bY hSX hSY c0 HW wnX wnY HOK HEN HNO HND HSD HBD HAX
                go_loopg [10, 11] M (fun g s10 s11 wx => ∃ (k : Nat) (T : Int), k ≤ M ∧ M - k = g ∧ T = k * BY ∧ s11 = .int .i64 T ∧ EO w wx a b s10 ((bt k a b (BY * SX) (BY * SY)).map nmE))
                case atStart => exact ⟨0, 0, by omega, rfl, by simp, rfl, HE0.out⟩
                case round =>
                  clear HE0
                  obtain ⟨k, T, hk, rfl, hT, rfl, hE⟩ := hrel
                  obtain ⟨va, hva⟩ : ∃ x, x = u10 := ⟨_, rfl⟩
                  subst hva
                  have c0 := hE.c0
                  have c1 := hE.c1
                  have HE : Hid (EO w wr a b va ((bt k a b (BY * SX) (BY * SY)).map nmE)) := hE
                  clear hE
                  obtain ⟨m1, m3, hBB, bX, bY, -⟩ := HM2.out
                  obtain ⟨T2, hT2⟩ : ∃ x, x = T + BY := ⟨_, rfl⟩
                  have tb : 0 ≤ T ∧ T ≤ 16 := by rcases hBB with h | h <;> rw [h] at m1 hT <;> omega
                  have wT : IntKind.i64.wrap (T + BY) = T2 := by rw [IntKind.wrap_i64]; rcases hBB with h | h <;> omega
                  have HT : Hid (T = k * BY ∧ T2 = T + BY) := ⟨hT, hT2⟩
                  by_cases hkm : k < M
                  · have tl : T2 ≤ N := by rcases hBB with h | h <;> rw [h] at m1 hT hT2 <;> omega
                    have tb2 : 0 ≤ T2 ∧ T2 ≤ 18 := by rcases hBB with h | h <;> omega
                    obtain ⟨U1, hU1⟩ : ∃ x, x = SX * T := ⟨_, rfl⟩
                    obtain ⟨V1, hV1⟩ : ∃ x, x = SY * T := ⟨_, rfl⟩
                    obtain ⟨U2, hU2⟩ : ∃ x, x = SX * T2 := ⟨_, rfl⟩
                    obtain ⟨V2, hV2⟩ : ∃ x, x = SY * T2 := ⟨_, rfl⟩
                    have u1 : -18 ≤ U1 ∧ U1 ≤ 18 := by rcases bX with h | h | h <;> rw [hU1, h] <;> omega
                    have v1 : -18 ≤ V1 ∧ V1 ≤ 18 := by rcases bY with h | h | h <;> rw [hV1, h] <;> omega
                    have u2 : -18 ≤ U2 ∧ U2 ≤ 18 := by rcases bX with h | h | h <;> rw [hU2, h] <;> omega
                    have v2 : -18 ≤ V2 ∧ V2 ≤ 18 := by rcases bY with h | h | h <;> rw [hV2, h] <;> omega
                    obtain ⟨A1, hA1⟩ : ∃ x, x = (a : Int) + U1 := ⟨_, rfl⟩
                    obtain ⟨B1, hB1⟩ : ∃ x, x = (b : Int) + V1 := ⟨_, rfl⟩
                    obtain ⟨A2, hA2⟩ : ∃ x, x = (a : Int) + U2 := ⟨_, rfl⟩
                    obtain ⟨B2, hB2⟩ : ∃ x, x = (b : Int) + V2 := ⟨_, rfl⟩
                    have p1 : IntKind.i64.wrap (SX * T) = U1 := by rw [← hU1, IntKind.wrap_i64]; omega
                    have p2 : IntKind.i64.wrap (SY * T) = V1 := by rw [← hV1, IntKind.wrap_i64]; omega
                    have p3 : IntKind.i64.wrap (SX * T2) = U2 := by rw [← hU2, IntKind.wrap_i64]; omega
                    have p4 : IntKind.i64.wrap (SY * T2) = V2 := by rw [← hV2, IntKind.wrap_i64]; omega
                    have p5 : IntKind.i64.wrap ((a : Int) + U1) = A1 := by rw [← hA1, IntKind.wrap_i64]; omega
                    have p6 : IntKind.i64.wrap ((b : Int) + V1) = B1 := by rw [← hB1, IntKind.wrap_i64]; omega
                    have p7 : IntKind.i64.wrap ((a : Int) + U2) = A2 := by rw [← hA2, IntKind.wrap_i64]; omega
                    have p8 : IntKind.i64.wrap ((b : Int) + V2) = B2 := by rw [← hB2, IntKind.wrap_i64]; omega
                    have HV : Hid ((A1, B1, A2, B2) = ((a : Int) + k * (BY * SX), (b : Int) + k * (BY * SY), (a : Int) + (k + 1) * (BY * SX), (b : Int) + (k + 1) * (BY * SY))) := by
                      show (A1, B1, A2, B2) = _
                      simp only [Prod.mk.injEq]
                      refine ⟨?_, ?_, ?_, ?_⟩
                      · rw [hA1, hU1, hT]; grind
                      · rw [hB1, hV1, hT]; grind
                      · rw [hA2, hU2, hT2, hT]; grind
                      · rw [hB2, hV2, hT2, hT]; grind
                    clear hU1 hV1 hU2 hV2 hA1 hB1 hA2 hB2 u1 v1 u2 v2 m1 m3 hBB bX bY hT hT2 tb tb2
                    have zw : w.heap.size < wr.heap.size := World.block_lt_of_cell? _ _ c0
                    go_wp2
                    go_region_held3 (fun w' => w'.cell? ⟨w.heap.size, 0, none⟩ = some (.int .i64 (a : Int)) ∧ w'.cell? ⟨w.heap.size, 1, none⟩ = some (.int .i64 (b : Int)))
                      (refine ⟨?_, ?_⟩ <;> (first | ((repeat' (first | (with_reducible assumption) | (with_reducible refine al_old ?_) | (with_reducible refine dr_old ?_))); done) | (simp [go_sem, *]; done)))
                      (fail)
                    go_wp2
                    go_region_held3 (fun w' => w'.cell? ⟨w.heap.size, 0, none⟩ = some (.int .i64 (a : Int)) ∧ w'.cell? ⟨w.heap.size, 1, none⟩ = some (.int .i64 (b : Int)))
                      (refine ⟨?_, ?_⟩ <;> (first | ((repeat' (first | (with_reducible assumption) | (with_reducible refine al_old ?_) | (with_reducible refine dr_old ?_))); done) | (simp [go_sem, *]; done)))
                      (fail)
                    go_wp2_with (first
                      | (go_at_call 57; (with_reducible refine (edgeOf_num A1 B1 A2 B2 _).mono ?_); rintro e w5 ⟨rfl, o1, o2, o3, o4, o5, hw5⟩; have B5 : Hid (Below wr.heap.size wr w5) := hw5 ▸ bl_alloc (bl_alloc (bl_alloc (bl_alloc (bl_alloc (bl_drew (bl_drew (bl_alloc (bl_alloc (bl_refl wr))))))))); clear hw5)
                      | (at_builtin; refine wpList_append_own _ rfl (.tmp 116) (.tmp 120) 69 rfl (w.heap.size + 2) 53 i0 (.agg #[.int .i64 0, .int .i64 0, .int .i64 0, .int .i64 0]) 4 32 Tryz.underlying69 HI.out.1 HI.out.2.1 HI.out.2.2.1 HI.out.2.2.2 rfl (by decide) va ((bt k a b (BY * SX) (BY * SY)).map nmE).length (flE ((bt k a b (BY * SX) (BY * SY)).map nmE)) rfl (own_below HE.out.own (bl_alloc B5.out)) ⟨w5.heap.size, 0, none⟩ 1 1 [.int .i64 (eA A1 B1 A2 B2), .int .i64 (eB A1 B1 A2 B2), .int .i64 (eC A1 B1 A2 B2), .int .i64 (eD A1 B1 A2 B2)] rfl rfl (four_new _ _ _ _ _ _ rfl) (four_one _ _ _ _) (by rw [List.length_map, bt_length]; unfold maxLen; omega) (by rw [List.length_map, bt_length]; omega) (by have h8 := HE.out.sz; have h9 := B5.out.size; simp; omega) ?gA))
                    case gA =>
                      intro v' w3 ho hg _
                      have hbl := bl_via HE.out.bl (bl_alloc (o := .cells #[.int .i64 (eA A1 B1 A2 B2), .int .i64 (eB A1 B1 A2 B2), .int .i64 (eC A1 B1 A2 B2), .int .i64 (eD A1 B1 A2 B2)] 53) B5.out)
                      have hne : some w.heap.size ≠ va.ownBlock := fun h => by have := HE.out.own.lt _ h.symm; omega
                      have HN : Hid (EO w w3 a b v' ((bt (k + 1) a b (BY * SX) (BY * SY)).map nmE)) := {
                        own := by
                          rw [bt_snoc, List.map_append, flE_add, List.length_append]
                          rw [← HV.out, List.map_singleton, nmE_e]
                          simpa [flE] using ho
                        c0 := grown_co hg hne (cl_kept (bl_alloc B5.out) c0)
                        c1 := grown_co hg hne (cl_kept (bl_alloc B5.out) c1)
                        bl := hbl.grown hg hbl.size (fun r e => by have := HE.out.own.lt r e; omega)
                        sz := Nat.le_trans HE.out.sz (Nat.le_trans (bl_alloc (o := .cells #[.int .i64 (eA A1 B1 A2 B2), .int .i64 (eB A1 B1 A2 B2), .int .i64 (eC A1 B1 A2 B2), .int .i64 (eD A1 B1 A2 B2)] 53) B5.out).size hg.size) }
                      clear ho hg hbl hne B5
                      go_wp2
                      go_roundg (M - (k + 1))
                      case measure => omega
                      case rel => exact ⟨k + 1, T2, by omega, rfl, by rw [HT.out.2, HT.out.1]; push_cast; grind, rfl, HN.out⟩
                  · obtain rfl : k = M := by omega
                    have tl : ¬ T2 ≤ N := by rcases hBB with h | h <;> rw [h] at m1 hT hT2 <;> omega
                    clear m1 m3 hBB bX bY hT hT2 tb
                    have HF : Hid (BtTo w wr va (egR a b c d)) := ⟨w.heap.size + 2, by rw [HM2.out.2.2.2.2.2]; exact HE.out.own, by omega, HE.out.bl⟩
                    go_wp2
                    go_ret
                    exact ⟨_, rfl, HF.out⟩
          · have hns := HNO.out
            rw [hno] at hns
            have HEE : Hid (egR a b c d = []) := HEN.out hno
            clear hno
            have hns2 := of_decide_eq_true hns.symm
            by_cases hn0 : N = 0
            · have n0 : (N == 0) = true := by simpa using hn0
              have n0n : (N != 0) = false := by rw [bne, n0]; rfl
              clear hns hns2 hn0
              go_wp2
              go_ret
              exact ⟨_, rfl, w.heap.size, by rw [HEE.out]; simpa [flE] using World.ownsRow_nil _ _ _ _, Nat.le_refl _, HW.out.2.2.1⟩
            · have n0 : (N == 0) = false := by simpa using hn0
              have n0n : (N != 0) = true := by rw [bne, n0]; rfl
              cases S
              · have e1 : (a : Int) % 2 ≠ 0 := by simpa [hn0] using hns2
                have e2 : ((a : Int) % 2 == 0) = false := by rw [beq_eq_false_iff_ne]; exact e1
                have e4 : ((a : Int).tmod 2 == 0) = false := by rw [beq_eq_false_iff_ne, ne_eq, tmod2]; exact e1
                have e4n : ((a : Int).tmod 2 != 0) = true := by rw [bne, e4]; rfl
                have e2n : ((a : Int) % 2 != 0) = true := by rw [bne, e2]; rfl
                clear hns hns2 hn0 e1
                go_wp2
                go_ret
                exact ⟨_, rfl, w.heap.size, by rw [HEE.out]; simpa [flE] using World.ownsRow_nil _ _ _ _, Nat.le_refl _, HW.out.2.2.1⟩
              · have e1 : X ≠ Y ∧ X ≠ -Y := by simpa [hn0] using hns2
                have e2 : (X == Y) = false := by rw [beq_eq_false_iff_ne]; exact e1.1
                have e2n : (X != Y) = true := by rw [bne, e2]; rfl
                have e3 : (X == -Y) = false := by rw [beq_eq_false_iff_ne]; exact e1.2
                have e3n : (X != -Y) = true := by rw [bne, e3]; rfl
                clear hns hns2 hn0 e1
                go_wp2
                go_ret
                exact ⟨_, rfl, w.heap.size, by rw [HEE.out]; simpa [flE] using World.ownsRow_nil _ _ _ _, Nat.le_refl _, HW.out.2.2.1⟩
end Go.Proofs.YtehmoacggikfmaaGreatDoor
