/- The reference's goodOrder. -/
import Derived.Test.YtoedcefbmbfnhacRefk
namespace Go.Proofs.Ytoedcefbmbfnhac
open Go.RowKit

def okJ (X : List Int) (n : Nat) (G : List Int) (j : Nat) : Bool := ((List.range n).all fun c => !(rPast X c j && bet (gt G c) (gt G (sA n j)) (gt G j))) && ((List.range j).all fun k => !rPair X n G j k)
theorem goodR_eq (X : List Int) (n : Nat) (G : List Int) : goodR X n G = (List.range n).all fun j => okJ X n G j := rfl
set_option maxRecDepth 100000 in
set_option maxHeartbeats 1600000 in
theorem goodOrder_any (gx cx gg cg : Nat) (X G : List Int) (w : World) (hx : Rw w gx X) (hg : Rw w gg G) (hl : X.length = G.length + 1) (h2 : 2 ≤ G.length) (h8 : G.length ≤ 8) :
    Calls Try.prog 28 #[.slice (some ⟨gx, 0, none⟩) X.length cx, .slice (some ⟨gg, 0, none⟩) G.length cg] w fun e w' => e = .returned (.bool (goodR X G.length G)) ∧ Below w.heap.size w w' := by
  have HX : Hid (∀ i, i ≤ G.length → w.cell? ⟨gx, i, none⟩ = some (.int .i64 (gt X i))) := fun i hi => hx i (by omega)
  have HG : Hid (Rw w gg G) := hg
  have CB : Hid (∀ (h a b : Int) (W : World), Calls Try.prog 33 #[.int .i64 h, .int .i64 a, .int .i64 b] W fun e w' => e = .returned (.bool (bet h a b)) ∧ Below W.heap.size W w') := betw_any
  have hl2 : (G.length : Int) < (X.length : Int) := by omega
  have n0 : (G.length : Int) ≠ 0 := by omega
  obtain ⟨gv, hgv⟩ : ∃ b, b = goodR X G.length G := ⟨_, rfl⟩
  have HV : Hid (gv = (List.range G.length).all fun j => okJ X G.length G j) := hgv
  rw [← hgv]
  clear hgv hx hg hl
  go_enter Try.func28, Try.ntmps28
  go_wp2
  go_loopg [6] G.length (fun gk s6 wx => ∃ j : Nat, j ≤ G.length ∧ gk = G.length - j ∧ s6 = .int .i64 (j : Int) ∧ Below w.heap.size w wx ∧ ∀ i, i < j → okJ X G.length G i = true)
  case atStart => exact ⟨0, by omega, rfl, rfl, bl_refl _, fun k hk => by omega⟩
  case round =>
    obtain ⟨j, hj, rfl, rfl, hB, hno⟩ := hrel
    have HB : Hid (Below w.heap.size w wr ∧ ∀ i, i < j → okJ X G.length G i = true) := ⟨hB, hno⟩
    clear hB hno
    by_cases h1 : j < G.length
    · have i1 : (j : Int) < (G.length : Int) := by omega
      have i0 : (0 : Int) ≤ (j : Int) := by omega
      have i2 : (j : Int) < (X.length : Int) := by omega
      have i3 : (j : Int) + 1 < (X.length : Int) := by omega
      have i4 : (0 : Int) ≤ (j : Int) + 1 := by omega
      have hs := sA_int (j := j) h2
      have sl := sA_lt (j := j) h2
      obtain ⟨s, hs'⟩ : ∃ s, s = sA G.length j := ⟨_, rfl⟩
      obtain ⟨va, hva⟩ : ∃ v, v = gt G (sA G.length j) := ⟨_, rfl⟩
      obtain ⟨vb, hvb⟩ : ∃ v, v = gt G j := ⟨_, rfl⟩
      obtain ⟨xj, hxj⟩ : ∃ v, v = gt X j := ⟨_, rfl⟩
      obtain ⟨xk, hxk⟩ : ∃ v, v = gt X (j + 1) := ⟨_, rfl⟩
      have c0 := cl_kept HB.out.1 (HG.out j h1)
      have c1 := cl_kept HB.out.1 (HG.out _ sl)
      have c2 := cl_kept HB.out.1 (HX.out j (by omega))
      have c3 := cl_kept HB.out.1 (HX.out (j + 1) (by omega))
      have zg : gg < wr.heap.size := World.block_lt_of_cell? _ _ c0
      have zx : gx < wr.heap.size := World.block_lt_of_cell? _ _ c2
      rw [← hvb] at c0
      rw [← hva, ← hs'] at c1
      rw [← hxj] at c2
      rw [← hxk] at c3
      rw [← hs'] at hs sl
      have HN : Hid (s = sA G.length j ∧ va = gt G (sA G.length j) ∧ vb = gt G j ∧ xj = gt X j ∧ xk = gt X (j + 1)) := ⟨hs', hva, hvb, hxj, hxk⟩
      have i5 : (s : Int) < (G.length : Int) := by omega
      have i6 : (0 : Int) ≤ (s : Int) := by omega
      clear hs' hva hvb hxj hxk sl
      have kc := Kin.cells wr
      have kn : Nonempty (Kin wr) := ⟨⟨wr, bl_refl _⟩⟩
      go_wp2
      refine wp_region_kin (by kernel_rfl) (by kernel_rfl) ?_
      repeat (go_big_quiet_step (fail))
      refine wpQuiet_nil ?_
      intro wq hw'
      obtain ⟨nq, hw''⟩ := hw'
      have hq : Below wr.heap.size wr wq := hw'' ▸ nq.h
      clear hw'' nq
      clear kc kn
      replace c2 := cl_kept hq c2
      replace c3 := cl_kept hq c3
      have zx2 : gx < wq.heap.size := World.block_lt_of_cell? _ _ c2
      have HBq : Hid (Below w.heap.size w wq) := bl_via HB.out.1 hq
      have kc := Kin.cells wq
      have kn : Nonempty (Kin wq) := ⟨⟨wq, bl_refl _⟩⟩
      clear hq c0 c1 zg zx hs
      go_wp2
      refine wp_region_kin (by kernel_rfl) (by kernel_rfl) ?_
      repeat (go_big_quiet_step (fail))
      refine wpQuiet_nil ?_
      intro w5 hw'
      obtain ⟨nq, hw''⟩ := hw'
      have hq : Below wq.heap.size wq w5 := hw'' ▸ nq.h
      clear hw'' nq
      have HB5 : Hid (Below w.heap.size w w5) := bl_via HBq.out hq
      clear kc kn c2 c3 hq zx2
      go_wp2
      go_loopg [11] G.length (fun gk s11 wx => ∃ c : Nat, c ≤ G.length ∧ gk = G.length - c ∧ s11 = .int .i64 (c : Int) ∧ Below w.heap.size w wx ∧ ∀ k, k < c → (rPast X k j && bet (gt G k) va vb) = false)
      case atStart => exact ⟨0, by omega, rfl, rfl, HB5.out, fun k hk => by omega⟩
      case round =>
        clear HB5 HBq
        obtain ⟨c, hc, rfl, rfl, hB, hno⟩ := hrel
        have HC : Hid (Below w.heap.size w wr ∧ ∀ k, k < c → (rPast X k j && bet (gt G k) va vb) = false) := ⟨hB, hno⟩
        clear hB hno
        by_cases h3 : c < G.length
        · have m1 : (c : Int) < (G.length : Int) := by omega
          have m0 : (0 : Int) ≤ (c : Int) := by omega
          have m2 : (c : Int) < (X.length : Int) := by omega
          have m3 : (c : Int) + 1 < (X.length : Int) := by omega
          have m4 : (0 : Int) ≤ (c : Int) + 1 := by omega
          obtain ⟨xc, hxc⟩ : ∃ v, v = gt X c := ⟨_, rfl⟩
          obtain ⟨xd, hxd⟩ : ∃ v, v = gt X (c + 1) := ⟨_, rfl⟩
          obtain ⟨vc, hvc⟩ : ∃ v, v = gt G c := ⟨_, rfl⟩
          have d0 := cl_kept HC.out.1 (HX.out j (by omega))
          have d1 := cl_kept HC.out.1 (HX.out c (by omega))
          have d2 := cl_kept HC.out.1 (HX.out (c + 1) (by omega))
          have d3 := cl_kept HC.out.1 (HG.out c h3)
          rw [← HN.out.2.2.2.1] at d0
          rw [← hxc] at d1
          rw [← hxd] at d2
          rw [← hvc] at d3
          have zx : gx < wr.heap.size := World.block_lt_of_cell? _ _ d0
          have zg : gg < wr.heap.size := World.block_lt_of_cell? _ _ d3
          obtain ⟨pb, hpb⟩ : ∃ b, b = bet xj xc xd := ⟨_, rfl⟩
          have HP : Hid (pb = bet xj xc xd) := hpb
          have HP2 : Hid (pb = rPast X c j ∧ vc = gt G c) := by
            have : pb = rPast X c j ∧ vc = gt G c := ⟨by rw [hpb, rPast, hxc, hxd, HN.out.2.2.2.1], hvc⟩
            exact this
          clear hxc hxd hvc hpb
          go_wp2
          go_cut [12] (fun s12 wx => s12 = .bool pb ∧ Below wr.heap.size wr wx)
          case first =>
            have kc := Kin.cells wr
            have kn : Nonempty (Kin wr) := ⟨⟨wr, bl_refl _⟩⟩
            by_cases q1 : xc < xj
            · by_cases q2 : xj < xd
              · refine wp_region_kin (by kernel_rfl) (by kernel_rfl) ?_
                repeat (go_big_quiet_step (fail))
                refine wpQuiet_nil ?_
                intro wq hw'
                obtain ⟨nq, hw''⟩ := hw'
                have hq : Below wr.heap.size wr wq := hw'' ▸ nq.h
                clear hw'' nq
                go_wp2
                all_goals
                  go_meet
                  case rel =>
                    refine ⟨?_, hq⟩
                    congr 1
                    rw [HP.out]
                    unfold bet
                    rw [Bool.eq_iff_iff]
                    simp only [decide_eq_true_eq, true_iff]
                    omega
              · by_cases q3 : xd < xj
                · refine wp_region_kin (by kernel_rfl) (by kernel_rfl) ?_
                  repeat (go_big_quiet_step (fail))
                  refine wpQuiet_nil ?_
                  intro wq hw'
                  obtain ⟨nq, hw''⟩ := hw'
                  have hq : Below wr.heap.size wr wq := hw'' ▸ nq.h
                  clear hw'' nq
                  go_wp2
                  all_goals
                    go_meet
                    case rel =>
                      refine ⟨?_, hq⟩
                      congr 1
                      rw [HP.out]
                      unfold bet
                      rw [Bool.eq_iff_iff]
                      simp only [decide_eq_true_eq]
                      omega
                · refine wp_region_kin (by kernel_rfl) (by kernel_rfl) ?_
                  repeat (go_big_quiet_step (fail))
                  refine wpQuiet_nil ?_
                  intro wq hw'
                  obtain ⟨nq, hw''⟩ := hw'
                  have hq : Below wr.heap.size wr wq := hw'' ▸ nq.h
                  clear hw'' nq
                  go_wp2
                  all_goals
                    go_meet
                    case rel =>
                      refine ⟨?_, hq⟩
                      congr 1
                      rw [HP.out]
                      unfold bet
                      rw [Bool.eq_iff_iff]
                      simp only [decide_eq_true_eq, Bool.false_eq_true, false_iff]
                      omega
            · by_cases q3 : xd < xj
              · refine wp_region_kin (by kernel_rfl) (by kernel_rfl) ?_
                repeat (go_big_quiet_step (fail))
                refine wpQuiet_nil ?_
                intro wq hw'
                obtain ⟨nq, hw''⟩ := hw'
                have hq : Below wr.heap.size wr wq := hw'' ▸ nq.h
                clear hw'' nq
                go_wp2
                all_goals
                  go_meet
                  case rel =>
                    refine ⟨?_, hq⟩
                    congr 1
                    rw [HP.out]
                    unfold bet
                    rw [Bool.eq_iff_iff]
                    simp only [decide_eq_true_eq]
                    omega
              · refine wp_region_kin (by kernel_rfl) (by kernel_rfl) ?_
                repeat (go_big_quiet_step (fail))
                refine wpQuiet_nil ?_
                intro wq hw'
                obtain ⟨nq, hw''⟩ := hw'
                have hq : Below wr.heap.size wr wq := hw'' ▸ nq.h
                clear hw'' nq
                go_wp2
                all_goals
                  go_meet
                  case rel =>
                    refine ⟨?_, hq⟩
                    congr 1
                    rw [HP.out]
                    unfold bet
                    rw [Bool.eq_iff_iff]
                    simp only [decide_eq_true_eq, Bool.false_eq_true, false_iff]
                    omega
          case rest =>
            obtain ⟨rfl, hb6⟩ := hcut
            have d4 := cl_kept hb6 d3
            have zg6 : gg < wc.heap.size := World.block_lt_of_cell? _ _ d4
            have HB6 : Hid (Below w.heap.size w wc) := bl_via HC.out.1 hb6
            clear d0 d1 d2 d3 zx zg hb6 HP
            obtain ⟨bb, hbb⟩ : ∃ b, b = bet vc va vb := ⟨_, rfl⟩
            have C1 : Hid (∀ W : World, Calls Try.prog 33 #[.int .i64 vc, .int .i64 va, .int .i64 vb] W fun e w' => e = .returned (.bool bb) ∧ Below W.heap.size W w') := fun W => by
              rw [hbb]
              exact CB.out vc va vb W
            have HQ : Hid ((rPast X c j && bet (gt G c) va vb) = (pb && bb)) := by
              have : (rPast X c j && bet (gt G c) va vb) = (pb && bb) := by rw [hbb, ← HP2.out.1, ← HP2.out.2]
              exact this
            clear hbb
            cases pb
            · go_wp2
              go_roundg (G.length - (c + 1))
              case measure => omega
              case rel =>
                refine ⟨c + 1, by omega, rfl, by go_num, HB6.out, fun k hk => ?_⟩
                by_cases hki : k < c
                · exact HC.out.2 k hki
                · have : k = c := by omega
                  rw [this, HQ.out]
                  rfl
            · cases bb
              · go_wp2_with (go_at_call 33; refine (C1.out _).mono ?_; rintro e w7 ⟨rfl, hb7⟩)
                go_roundg (G.length - (c + 1))
                case measure => omega
                case rel =>
                  refine ⟨c + 1, by omega, rfl, by go_num, bl_via HB6.out hb7, fun k hk => ?_⟩
                  by_cases hki : k < c
                  · exact HC.out.2 k hki
                  · have : k = c := by omega
                    rw [this, HQ.out]
                    rfl
              · go_wp2_with (go_at_call 33; refine (C1.out _).mono ?_; rintro e w7 ⟨rfl, hb7⟩)
                go_ret
                refine ⟨ret_bool ?_, bl_via HB6.out hb7⟩
                rw [HV.out]
                symm
                rw [List.all_eq_false]
                refine ⟨j, List.mem_range.2 h1, ?_⟩
                unfold okJ
                rw [Bool.and_eq_true, List.all_eq_true, not_and]
                intro h
                have := h c (List.mem_range.2 h3)
                rw [← HN.out.2.1, ← HN.out.2.2.1, HQ.out] at this
                simp at this
        · have m1 : ¬ (c : Int) < (G.length : Int) := by omega
          obtain rfl : c = G.length := by omega
          have HA : Hid (((List.range G.length).all fun c => !(rPast X c j && bet (gt G c) (gt G (sA G.length j)) (gt G j))) = true) := by
            have : ((List.range G.length).all fun c => !(rPast X c j && bet (gt G c) (gt G (sA G.length j)) (gt G j))) = true := by
              rw [List.all_eq_true]
              intro k hk
              have := HC.out.2 k (List.mem_range.1 hk)
              rw [HN.out.2.1, HN.out.2.2.1] at this
              rw [this]
              rfl
            exact this
          go_wp2
          go_loopg [13] j (fun gk s13 wx => ∃ k : Nat, k ≤ j ∧ gk = j - k ∧ s13 = .int .i64 (k : Int) ∧ Below w.heap.size w wx ∧ ∀ i, i < k → rPair X G.length G j i = false)
          case atStart => exact ⟨0, by omega, rfl, rfl, HC.out.1, fun k hk => by omega⟩
          case round =>
            clear HC
            obtain ⟨k, hk, rfl, rfl, hB, hno⟩ := hrel
            have HC : Hid (Below w.heap.size w wr ∧ ∀ i, i < k → rPair X G.length G j i = false) := ⟨hB, hno⟩
            clear hB hno
            by_cases h3 : k < j
            · have m1 : (k : Int) < (j : Int) := by omega
              have m0 : (0 : Int) ≤ (k : Int) := by omega
              have m2 : (k : Int) < (X.length : Int) := by omega
              have m3 : (k : Int) + 1 < (X.length : Int) := by omega
              have m4 : (0 : Int) ≤ (k : Int) + 1 := by omega
              have m5 : (k : Int) < (G.length : Int) := by omega
              obtain ⟨xc, hxc⟩ : ∃ v, v = gt X k := ⟨_, rfl⟩
              obtain ⟨xd, hxd⟩ : ∃ v, v = gt X (k + 1) := ⟨_, rfl⟩
              obtain ⟨vd, hvd⟩ : ∃ v, v = gt G k := ⟨_, rfl⟩
              obtain ⟨vc, hvc⟩ : ∃ v, v = gt G (sA G.length k) := ⟨_, rfl⟩
              have ks := sA_int (j := k) h2
              have ksl := sA_lt (j := k) h2
              have d0 := cl_kept HC.out.1 (HX.out j (by omega))
              have d1 := cl_kept HC.out.1 (HX.out k (by omega))
              have d2 := cl_kept HC.out.1 (HX.out (k + 1) (by omega))
              have HD : Hid (wr.cell? ⟨gg, k, none⟩ = some (.int .i64 vd) ∧ wr.cell? ⟨gg, sA G.length k, none⟩ = some (.int .i64 vc)) := by
                have : wr.cell? ⟨gg, k, none⟩ = some (.int .i64 vd) ∧ wr.cell? ⟨gg, sA G.length k, none⟩ = some (.int .i64 vc) := by
                  rw [hvd, hvc]
                  exact ⟨cl_kept HC.out.1 (HG.out k (by omega)), cl_kept HC.out.1 (HG.out _ ksl)⟩
                exact this
              rw [← HN.out.2.2.2.1] at d0
              rw [← hxc] at d1
              rw [← hxd] at d2
              have zx : gx < wr.heap.size := World.block_lt_of_cell? _ _ d0
              have HQ : Hid (rPair X G.length G j k = (decide (xc = xj) && (decide (decide (xd > xc) = decide (xk > xj)) && (decide (vc ≠ va) && (decide (vc ≠ vb) && (decide (vd ≠ va) && (decide (vd ≠ vb) && (bet vc va vb != bet vd va vb)))))))) := by
                have : rPair X G.length G j k = (decide (xc = xj) && (decide (decide (xd > xc) = decide (xk > xj)) && (decide (vc ≠ va) && (decide (vc ≠ vb) && (decide (vd ≠ va) && (decide (vd ≠ vb) && (bet vc va vb != bet vd va vb))))))) := by
                  rw [rPair, hxc, hxd, hvc, hvd, HN.out.2.1, HN.out.2.2.1, HN.out.2.2.2.1, HN.out.2.2.2.2]
                exact this
              obtain ⟨r, hr⟩ : ∃ s, s = sA G.length k := ⟨_, rfl⟩
              rw [← hr] at ks ksl HD
              have m6 : (r : Int) < (G.length : Int) := by omega
              have m7 : (0 : Int) ≤ (r : Int) := by omega
              clear hxc hxd hvc hvd hr ksl
              go_wp2
              go_cut [133] (fun s133 wx => s133 = .bool (!(decide (xc = xj) && decide (decide (xd > xc) = decide (xk > xj)))) ∧ Below wr.heap.size wr wx)
              case first =>
                have kc := Kin.cells wr
                have kn : Nonempty (Kin wr) := ⟨⟨wr, bl_refl _⟩⟩
                by_cases q1 : xc = xj
                · have q1b : (xc != xj) = false := by simpa using q1
                  have Q1 : Hid (xc = xj) := q1
                  clear q1
                  refine wp_region_kin (by kernel_rfl) (by kernel_rfl) ?_
                  repeat (go_big_quiet_step (fail))
                  refine wpQuiet_nil ?_
                  intro wq hw'
                  obtain ⟨nq, hw''⟩ := hw'
                  have hq : Below wr.heap.size wr wq := hw'' ▸ nq.h
                  clear hw'' nq
                  go_wp2
                  all_goals
                    go_meet
                    case rel =>
                      refine ⟨?_, hq⟩
                      congr 1
                      rw [decide_eq_true Q1.out]
                      rw [Bool.eq_iff_iff]
                      simp
                · have q1b : (xc != xj) = true := by simpa using q1
                  refine wp_region_kin (by kernel_rfl) (by kernel_rfl) ?_
                  repeat (go_big_quiet_step (fail))
                  refine wpQuiet_nil ?_
                  intro wq hw'
                  obtain ⟨nq, hw''⟩ := hw'
                  have hq : Below wr.heap.size wr wq := hw'' ▸ nq.h
                  clear hw'' nq
                  go_wp2
                  all_goals
                    go_meet
                    case rel =>
                      refine ⟨?_, hq⟩
                      congr 1
                      simp [q1]
              case rest =>
                obtain ⟨rfl, hb6⟩ := hcut
                have HB6 : Hid (Below wr.heap.size wr wc) := hb6
                clear d0 d1 d2 zx hb6
                obtain ⟨ub, hub⟩ : ∃ b, b = (decide (xc = xj) && decide (decide (xd > xc) = decide (xk > xj))) := ⟨_, rfl⟩
                rw [← hub]
                have HU : Hid (rPair X G.length G j k = (ub && (decide (vc ≠ va) && (decide (vc ≠ vb) && (decide (vd ≠ va) && (decide (vd ≠ vb) && (bet vc va vb != bet vd va vb))))))) := by
                  have : rPair X G.length G j k = (ub && (decide (vc ≠ va) && (decide (vc ≠ vb) && (decide (vd ≠ va) && (decide (vd ≠ vb) && (bet vc va vb != bet vd va vb)))))) := by
                    rw [HQ.out, hub, Bool.and_assoc]
                  exact this
                clear hub HQ
                cases ub
                · go_wp2
                  go_roundg (j - (k + 1))
                  case measure => omega
                  case rel =>
                    refine ⟨k + 1, by omega, rfl, by go_num, bl_via HC.out.1 HB6.out, fun i hi => ?_⟩
                    by_cases hki : i < k
                    · exact HC.out.2 i hki
                    · have : i = k := by omega
                      rw [this, HU.out]
                      rfl
                · have e0 := cl_kept HB6.out HD.out.1
                  have e1 := cl_kept HB6.out HD.out.2
                  have zg : gg < wc.heap.size := World.block_lt_of_cell? _ _ e0
                  have HBc : Hid (Below w.heap.size w wc) := bl_via HC.out.1 HB6.out
                  go_wp2
                  have kc := Kin.cells wc
                  have kn : Nonempty (Kin wc) := ⟨⟨wc, bl_refl _⟩⟩
                  refine wp_region_kin (by kernel_rfl) (by kernel_rfl) ?_
                  repeat (go_big_quiet_step (fail))
                  refine wpQuiet_nil ?_
                  intro wq hw'
                  obtain ⟨nq, hw''⟩ := hw'
                  have hq : Below wc.heap.size wc wq := hw'' ▸ nq.h
                  clear hw'' nq
                  have HB8 : Hid (Below w.heap.size w wq) := bl_via HBc.out hq
                  clear kc kn e0 e1 zg hq HB6 HD ks
                  obtain ⟨b1, hb1⟩ : ∃ b, b = bet vc va vb := ⟨_, rfl⟩
                  obtain ⟨b2, hb2⟩ : ∃ b, b = bet vd va vb := ⟨_, rfl⟩
                  have C1 : Hid (∀ W : World, Calls Try.prog 33 #[.int .i64 vc, .int .i64 va, .int .i64 vb] W fun e w' => e = .returned (.bool b1) ∧ Below W.heap.size W w') := fun W => by
                    rw [hb1]
                    exact CB.out vc va vb W
                  have C2 : Hid (∀ W : World, Calls Try.prog 33 #[.int .i64 vd, .int .i64 va, .int .i64 vb] W fun e w' => e = .returned (.bool b2) ∧ Below W.heap.size W w') := fun W => by
                    rw [hb2]
                    exact CB.out vd va vb W
                  have HU2 : Hid (rPair X G.length G j k = (decide (vc ≠ va) && (decide (vc ≠ vb) && (decide (vd ≠ va) && (decide (vd ≠ vb) && (b1 != b2)))))) := by
                    have : rPair X G.length G j k = (decide (vc ≠ va) && (decide (vc ≠ vb) && (decide (vd ≠ va) && (decide (vd ≠ vb) && (b1 != b2))))) := by
                      rw [HU.out, hb1, hb2]
                      rfl
                    exact this
                  clear hb1 hb2 HU
                  by_cases a1 : vc = va
                  · have ab1 : (vc != va) = false := by simpa using a1
                    have A1 : Hid (vc = va) := a1
                    clear a1
                    go_wp2
                    go_roundg (j - (k + 1))
                    case measure => omega
                    case rel =>
                      refine ⟨k + 1, by omega, rfl, by go_num, HB8.out, fun i hi => ?_⟩
                      by_cases hki : i < k
                      · exact HC.out.2 i hki
                      · have : i = k := by omega
                        rw [this, HU2.out]
                        simp [A1.out]
                  have ab1 : (vc != va) = true := by simpa using a1
                  by_cases a2 : vc = vb
                  · have ab2 : (vc != vb) = false := by simpa using a2
                    have A2 : Hid (vc = vb) := a2
                    clear a2
                    go_wp2
                    go_roundg (j - (k + 1))
                    case measure => omega
                    case rel =>
                      refine ⟨k + 1, by omega, rfl, by go_num, HB8.out, fun i hi => ?_⟩
                      by_cases hki : i < k
                      · exact HC.out.2 i hki
                      · have : i = k := by omega
                        rw [this, HU2.out]
                        simp [A2.out]
                  have ab2 : (vc != vb) = true := by simpa using a2
                  by_cases a3 : vd = va
                  · have ab3 : (vd != va) = false := by simpa using a3
                    have A3 : Hid (vd = va) := a3
                    clear a3
                    go_wp2
                    go_roundg (j - (k + 1))
                    case measure => omega
                    case rel =>
                      refine ⟨k + 1, by omega, rfl, by go_num, HB8.out, fun i hi => ?_⟩
                      by_cases hki : i < k
                      · exact HC.out.2 i hki
                      · have : i = k := by omega
                        rw [this, HU2.out]
                        simp [A3.out]
                  have ab3 : (vd != va) = true := by simpa using a3
                  by_cases a4 : vd = vb
                  · have ab4 : (vd != vb) = false := by simpa using a4
                    have A4 : Hid (vd = vb) := a4
                    clear a4
                    go_wp2
                    go_roundg (j - (k + 1))
                    case measure => omega
                    case rel =>
                      refine ⟨k + 1, by omega, rfl, by go_num, HB8.out, fun i hi => ?_⟩
                      by_cases hki : i < k
                      · exact HC.out.2 i hki
                      · have : i = k := by omega
                        rw [this, HU2.out]
                        simp [A4.out]
                  have ab4 : (vd != vb) = true := by simpa using a4
                  cases b1
                  · cases b2
                    · go_wp2_with (go_at_call 33; first | (with_reducible refine (C1.out _).mono ?_; rintro e w7 ⟨rfl, hb7⟩) | (with_reducible refine (C2.out _).mono ?_; rintro e w8 ⟨rfl, hb8⟩))
                      go_roundg (j - (k + 1))
                      case measure => omega
                      case rel =>
                        refine ⟨k + 1, by omega, rfl, by go_num, bl_via HB8.out (bl_via hb7 hb8), fun i hi => ?_⟩
                        by_cases hki : i < k
                        · exact HC.out.2 i hki
                        · have : i = k := by omega
                          rw [this, HU2.out]
                          simp
                    · go_wp2_with (go_at_call 33; first | (with_reducible refine (C1.out _).mono ?_; rintro e w7 ⟨rfl, hb7⟩) | (with_reducible refine (C2.out _).mono ?_; rintro e w8 ⟨rfl, hb8⟩))
                      go_ret
                      refine ⟨ret_bool ?_, bl_via HB8.out (bl_via hb7 hb8)⟩
                      rw [HV.out]
                      symm
                      rw [List.all_eq_false]
                      refine ⟨j, List.mem_range.2 h1, ?_⟩
                      unfold okJ
                      rw [HA.out, Bool.true_and, List.all_eq_true]
                      intro h
                      have := h k (List.mem_range.2 h3)
                      rw [HU2.out] at this
                      simp [a1, a2, a3, a4] at this
                  · cases b2
                    · go_wp2_with (go_at_call 33; first | (with_reducible refine (C1.out _).mono ?_; rintro e w7 ⟨rfl, hb7⟩) | (with_reducible refine (C2.out _).mono ?_; rintro e w8 ⟨rfl, hb8⟩))
                      go_ret
                      refine ⟨ret_bool ?_, bl_via HB8.out (bl_via hb7 hb8)⟩
                      rw [HV.out]
                      symm
                      rw [List.all_eq_false]
                      refine ⟨j, List.mem_range.2 h1, ?_⟩
                      unfold okJ
                      rw [HA.out, Bool.true_and, List.all_eq_true]
                      intro h
                      have := h k (List.mem_range.2 h3)
                      rw [HU2.out] at this
                      simp [a1, a2, a3, a4] at this
                    · go_wp2_with (go_at_call 33; first | (with_reducible refine (C1.out _).mono ?_; rintro e w7 ⟨rfl, hb7⟩) | (with_reducible refine (C2.out _).mono ?_; rintro e w8 ⟨rfl, hb8⟩))
                      go_roundg (j - (k + 1))
                      case measure => omega
                      case rel =>
                        refine ⟨k + 1, by omega, rfl, by go_num, bl_via HB8.out (bl_via hb7 hb8), fun i hi => ?_⟩
                        by_cases hki : i < k
                        · exact HC.out.2 i hki
                        · have : i = k := by omega
                          rw [this, HU2.out]
                          simp
            · have m1 : ¬ (k : Int) < (j : Int) := by omega
              obtain rfl : k = j := by omega
              go_wp2
              go_roundg (G.length - (k + 1))
              case measure => omega
              case rel =>
                refine ⟨k + 1, by omega, rfl, by go_num, HC.out.1, fun i hi => ?_⟩
                by_cases hki : i < k
                · exact HB.out.2 i hki
                · have : i = k := by omega
                  rw [this, okJ, HA.out, Bool.true_and, List.all_eq_true]
                  intro i' hi'
                  rw [HC.out.2 i' (List.mem_range.1 hi')]
                  rfl
    · have i1 : ¬ (j : Int) < (G.length : Int) := by omega
      obtain rfl : j = G.length := by omega
      go_wp2
      go_ret
      refine ⟨ret_bool ?_, HB.out.1⟩
      rw [HV.out]
      symm
      rw [List.all_eq_true]
      exact fun k hk => HB.out.2 k (List.mem_range.1 hk)
end Go.Proofs.Ytoedcefbmbfnhac
