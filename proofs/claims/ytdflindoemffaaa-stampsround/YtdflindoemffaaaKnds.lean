/- kindsOf. -/
import Derived.Test.YtdflindoemffaaaHght
namespace Go.Proofs.Ytdflindoemffaaa
open Go.RowKit

def kds (l : List Int) (m i : Nat) : List Int := (List.range m).map fun k : Nat => if k < i then kdV l k else 0
theorem kds_len (l : List Int) (m i : Nat) : (kds l m i).length = m := by simp [kds]
theorem kds_at {l : List Int} {m i k : Nat} (h : k < m) : gt (kds l m i) k = if k < i then kdV l k else 0 := by
  rw [gt_lt (by rw [kds_len]; exact h)]
  simp [kds]
theorem kds_step {l : List Int} {m i : Nat} (hi : i < m) : kds l m (i + 1) = (kds l m i).set i (kdV l i) := by
  refine ext_gt (by rw [List.length_set, kds_len, kds_len]) (fun k hk' => ?_)
  rw [kds_len] at hk'
  rw [gt_set (by rw [kds_len]; exact hi), kds_at hk', kds_at hk']
  by_cases c : k = i
  · subst c
    simp
  · rw [if_neg c]
    by_cases d : k < i
    · rw [if_pos d, if_pos (by omega)]
    · rw [if_neg d, if_neg (by omega)]
theorem kds_zero (l : List Int) (m : Nat) : kds l m 0 = List.replicate m 0 := by
  refine ext_gt (by rw [kds_len]; simp) (fun k hk' => ?_)
  rw [kds_len] at hk'
  rw [kds_at hk', gt_rep _ _ hk']
  simp
theorem kds_end {l : List Int} {m : Nat} (h : l.length = m + 1) : kds l m m = kdL l := by
  refine ext_gt (by rw [kds_len, kdL_len]; omega) (fun k hk' => ?_)
  rw [kds_len] at hk'
  rw [kds_at hk', kdL_at (by omega), if_pos hk']
theorem set_twice (l : List Int) (i : Nat) (x y : Int) : (l.set i x).set i y = l.set i y := by simp
set_option maxRecDepth 100000 in
set_option maxHeartbeats 1600000 in
theorem kindsOf_any (v : Value) (l : List Int) (w : World) (hv : Sg w v l) (hp : Prm l) (h1 : 1 ≤ l.length) (h8 : l.length ≤ 8) :
    Calls Try.prog 24 #[v] w fun e w' => ∃ g, e = .returned (.slice (some ⟨g, 0, none⟩) (kdL l).length (kdL l).length) ∧ Rw w' g (kdL l) ∧ Below w.heap.size w w' := by
  have CH : Hid (Calls Try.prog 34 #[v] w fun e w' => ∃ g, e = .returned (.slice (some ⟨g, 0, none⟩) l.length l.length) ∧ Rw w' g (hL l) ∧ Below w.heap.size w w') := heights_any v l w hv hp h8
  obtain ⟨i3, hI⟩ := info_parts inf3
  have HI : Hid (Try.prog.info? 3 = some i3 ∧ i3.zero = some (.int .i64 0) ∧ i3.size = 1 ∧ i3.bytes = 8) := hI
  obtain ⟨m, hm⟩ : ∃ m, l.length = m + 1 := ⟨l.length - 1, by omega⟩
  have hm1 : (l.length : Int) - 1 = (m : Int) := by omega
  have HM : Hid (l.length = m + 1) := hm
  obtain ⟨a, c, rfl, _⟩ := hv
  rw [show (kdL l).length = m by rw [kdL_len]; omega]
  clear hI hp hm
  go_enter Try.func24, Try.ntmps24
  go_wp2_with (first | (go_at_call 34; refine CH.out.mono ?_; rintro e w1 ⟨g, rfl, hr, hb⟩; have H1 : Hid (Rw w1 g (hL l) ∧ Below w.heap.size w w1) := ⟨hr, hb⟩; clear hr hb) | (at_make; refine wpList_make_full _ rfl _ _ 22 rfl w1.heap.size 3 i3 (.int .i64 0) 1 Try.underlying22 HI.out.1 HI.out.2.1 HI.out.2.2.1 _ _ _ _ m rfl rfl (by first | with_reducible rfl | with_reducible exact hm1 | omega) (by first | with_reducible rfl | with_reducible exact hm1 | omega) (by rw [HI.out.2.2.2]; omega) (by unfold maxLen; omega) (Nat.le_refl _) ?mk2))
  case mk2 =>
    intro w2 hown2 hg2
    have hb2 : Below w1.heap.size w1 w2 := (bl_refl w1).grown hg2 (Nat.le_refl _) (fun k hk => by cases hk)
    have HO : Hid (HR w2 w1.heap.size m (kds l m 0) ∧ Below w1.heap.size w1 w2) := by
      refine ⟨⟨kds_len _ _ _, fun i hi => ?_⟩, hb2⟩
      rw [kds_zero, gt_rep _ _ hi]
      exact made_cells hown2 i hi
    clear hown2 hg2 hb2 CH HI
    go_wp2
    go_loopg [16] m (fun gk s16 wx => ∃ i : Nat, i ≤ m ∧ gk = m - i ∧ s16 = .int .i64 (i : Int) ∧ Below w1.heap.size w1 wx ∧ HR wx w1.heap.size m (kds l m i))
    case atStart => exact ⟨0, by omega, rfl, rfl, HO.out.2, HO.out.1⟩
    case round =>
      clear HO
      obtain ⟨i, hi, rfl, rfl, hB, hT⟩ := hrel
      have HB : Hid (Below w1.heap.size w1 wr ∧ HR wr w1.heap.size m (kds l m i)) := ⟨hB, hT⟩
      clear hB hT
      by_cases h2 : i < m
      · have i1 : (i : Int) < (m : Int) := by omega
        have i0 : (0 : Int) ≤ (i : Int) := by omega
        have i2 : (i : Int) < (l.length : Int) := by omega
        have i3 : (i : Int) + 1 < (l.length : Int) := by omega
        have i4 : (0 : Int) ≤ (i : Int) + 1 := by omega
        have c0 := cl_kept HB.out.1 (H1.out.1 i (by rw [hL_len]; omega))
        have c1 := cl_kept HB.out.1 (H1.out.1 (i + 1) (by rw [hL_len]; omega))
        rw [hL_at (by omega)] at c0 c1
        have zg : g < wr.heap.size := World.block_lt_of_cell? _ _ c0
        obtain ⟨va, hva⟩ : ∃ v, v = hk l i := ⟨_, rfl⟩
        obtain ⟨vb, hvb⟩ : ∃ v, v = hk l (i + 1) := ⟨_, rfl⟩
        rw [← hva] at c0
        rw [← hvb] at c1
        have HK : Hid (kdV l i = if decide (i % 2 = 0) = decide (va < vb) then 2 else 1) := by rw [hva, hvb]; exact (rfl : kdV l i = _)
        clear hva hvb
        have kc := Kin.cells wr
        have kn : Nonempty (Kin wr) := ⟨⟨wr, bl_refl _⟩⟩
        have t1 := two_int i
        by_cases q1 : (i : Int) % 2 = 0
        · have q1b : ((i : Int) % 2 == 0) = true := by simpa using q1
          by_cases q2 : va < vb
          · have q2b : decide (va < vb) = true := by simpa using q2
            have HV : Hid (kdV l i = 2) := by
              have : kdV l i = 2 := by
                rw [HK.out, if_pos (by simp; omega)]
              exact this
            go_wp2
            refine wp_region_kin (by kernel_rfl) (by kernel_rfl) ?_
            repeat (go_big_quiet_step (fail))
            refine wpQuiet_nil ?_
            intro wq hw'
            obtain ⟨nq, hw''⟩ := hw'
            have hq : Below wr.heap.size wr wq := hw'' ▸ nq.h
            clear hw'' nq kc kn c0 c1
            have HQ : Hid (Below w1.heap.size w1 wq ∧ HR wq w1.heap.size m (kds l m i)) := ⟨bl_via HB.out.1 hq, HB.out.2.kept hq⟩
            clear hq
            have c1 := (HQ.out.2.2 i h2).1
            have f1 := (HQ.out.2.2 i h2).2
            have z1 : w1.heap.size < wq.heap.size := World.block_lt_of_cell? _ _ c1
            have HS1 : Hid (HR (wq.setCell ⟨w1.heap.size, i, none⟩ (.int .i64 1)) w1.heap.size m ((kds l m i).set i 1)) := HQ.out.2.set (k := i) 1 h2
            have c2 := (HS1.out.2 i h2).1
            have f2 := (HS1.out.2 i h2).2
            have z2 : w1.heap.size < (wq.setCell ⟨w1.heap.size, i, none⟩ (.int .i64 1)).heap.size := World.block_lt_of_cell? _ _ c2
            have HS2 : Hid (HR ((wq.setCell ⟨w1.heap.size, i, none⟩ (.int .i64 1)).setCell ⟨w1.heap.size, i, none⟩ (.int .i64 2)) w1.heap.size m (kds l m (i + 1))) := by
              have := HS1.out.set (k := i) 2 h2
              rw [set_twice, ← HV.out, ← kds_step h2, HV.out] at this
              exact this
            go_wp2
            go_roundg (m - (i + 1))
            case measure => omega
            case rel => exact ⟨i + 1, by omega, rfl, by go_num, bl_set (bl_set HQ.out.1 (Nat.le_refl _)) (Nat.le_refl _), HS2.out⟩
          · have q2b : decide (va < vb) = false := by simpa using q2
            have HV : Hid (kdV l i = 1) := by
              have : kdV l i = 1 := by
                rw [HK.out, if_neg (by simp; omega)]
              exact this
            go_wp2
            refine wp_region_kin (by kernel_rfl) (by kernel_rfl) ?_
            repeat (go_big_quiet_step (fail))
            refine wpQuiet_nil ?_
            intro wq hw'
            obtain ⟨nq, hw''⟩ := hw'
            have hq : Below wr.heap.size wr wq := hw'' ▸ nq.h
            clear hw'' nq kc kn c0 c1
            have HQ : Hid (Below w1.heap.size w1 wq ∧ HR wq w1.heap.size m (kds l m i)) := ⟨bl_via HB.out.1 hq, HB.out.2.kept hq⟩
            clear hq
            have c1 := (HQ.out.2.2 i h2).1
            have f1 := (HQ.out.2.2 i h2).2
            have z1 : w1.heap.size < wq.heap.size := World.block_lt_of_cell? _ _ c1
            have HS2 : Hid (HR (wq.setCell ⟨w1.heap.size, i, none⟩ (.int .i64 1)) w1.heap.size m (kds l m (i + 1))) := by
              have := HQ.out.2.set (k := i) 1 h2
              rw [← HV.out, ← kds_step h2, HV.out] at this
              exact this
            go_wp2
            go_roundg (m - (i + 1))
            case measure => omega
            case rel => exact ⟨i + 1, by omega, rfl, by go_num, bl_set HQ.out.1 (Nat.le_refl _), HS2.out⟩
        · have q1b : ((i : Int) % 2 == 0) = false := by simpa using q1
          by_cases q2 : va < vb
          · have q2b : decide (va < vb) = true := by simpa using q2
            have HV : Hid (kdV l i = 1) := by
              have : kdV l i = 1 := by
                rw [HK.out, if_neg (by simp; omega)]
              exact this
            go_wp2
            refine wp_region_kin (by kernel_rfl) (by kernel_rfl) ?_
            repeat (go_big_quiet_step (fail))
            refine wpQuiet_nil ?_
            intro wq hw'
            obtain ⟨nq, hw''⟩ := hw'
            have hq : Below wr.heap.size wr wq := hw'' ▸ nq.h
            clear hw'' nq kc kn c0 c1
            have HQ : Hid (Below w1.heap.size w1 wq ∧ HR wq w1.heap.size m (kds l m i)) := ⟨bl_via HB.out.1 hq, HB.out.2.kept hq⟩
            clear hq
            have c1 := (HQ.out.2.2 i h2).1
            have f1 := (HQ.out.2.2 i h2).2
            have z1 : w1.heap.size < wq.heap.size := World.block_lt_of_cell? _ _ c1
            have HS2 : Hid (HR (wq.setCell ⟨w1.heap.size, i, none⟩ (.int .i64 1)) w1.heap.size m (kds l m (i + 1))) := by
              have := HQ.out.2.set (k := i) 1 h2
              rw [← HV.out, ← kds_step h2, HV.out] at this
              exact this
            go_wp2
            go_roundg (m - (i + 1))
            case measure => omega
            case rel => exact ⟨i + 1, by omega, rfl, by go_num, bl_set HQ.out.1 (Nat.le_refl _), HS2.out⟩
          · have q2b : decide (va < vb) = false := by simpa using q2
            have HV : Hid (kdV l i = 2) := by
              have : kdV l i = 2 := by
                rw [HK.out, if_pos (by simp; omega)]
              exact this
            go_wp2
            refine wp_region_kin (by kernel_rfl) (by kernel_rfl) ?_
            repeat (go_big_quiet_step (fail))
            refine wpQuiet_nil ?_
            intro wq hw'
            obtain ⟨nq, hw''⟩ := hw'
            have hq : Below wr.heap.size wr wq := hw'' ▸ nq.h
            clear hw'' nq kc kn c0 c1
            have HQ : Hid (Below w1.heap.size w1 wq ∧ HR wq w1.heap.size m (kds l m i)) := ⟨bl_via HB.out.1 hq, HB.out.2.kept hq⟩
            clear hq
            have c1 := (HQ.out.2.2 i h2).1
            have f1 := (HQ.out.2.2 i h2).2
            have z1 : w1.heap.size < wq.heap.size := World.block_lt_of_cell? _ _ c1
            have HS1 : Hid (HR (wq.setCell ⟨w1.heap.size, i, none⟩ (.int .i64 1)) w1.heap.size m ((kds l m i).set i 1)) := HQ.out.2.set (k := i) 1 h2
            have c2 := (HS1.out.2 i h2).1
            have f2 := (HS1.out.2 i h2).2
            have z2 : w1.heap.size < (wq.setCell ⟨w1.heap.size, i, none⟩ (.int .i64 1)).heap.size := World.block_lt_of_cell? _ _ c2
            have HS2 : Hid (HR ((wq.setCell ⟨w1.heap.size, i, none⟩ (.int .i64 1)).setCell ⟨w1.heap.size, i, none⟩ (.int .i64 2)) w1.heap.size m (kds l m (i + 1))) := by
              have := HS1.out.set (k := i) 2 h2
              rw [set_twice, ← HV.out, ← kds_step h2, HV.out] at this
              exact this
            go_wp2
            go_roundg (m - (i + 1))
            case measure => omega
            case rel => exact ⟨i + 1, by omega, rfl, by go_num, bl_set (bl_set HQ.out.1 (Nat.le_refl _)) (Nat.le_refl _), HS2.out⟩
      · have i1 : ¬ (i : Int) < (m : Int) := by omega
        obtain rfl : i = m := by omega
        go_wp2
        go_ret
        refine ⟨w1.heap.size, rfl, ?_, bl_via H1.out.2 HB.out.1⟩
        rw [← kds_end HM.out]
        exact HB.out.2.rw
end Go.Proofs.Ytdflindoemffaaa
