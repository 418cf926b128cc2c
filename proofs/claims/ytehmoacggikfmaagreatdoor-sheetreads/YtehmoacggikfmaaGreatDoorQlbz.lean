/- Two states are the same. -/
import Derived.Test.YtehmoacggikfmaaGreatDoorQlbl
namespace Go.Proofs.YtehmoacggikfmaaGreatDoor
open Go.RowKit

set_option maxRecDepth 100000 in
set_option maxHeartbeats 3200000 in
theorem sameSheet_yes (W H : Int) (a1 a2 c1 c2 : Option Addr) (k1 k2 d1 d2 n : Nat) (zs ks : List Int) (w : World) (hz1 : Row w a1 zs) (hz2 : Row w a2 zs) (hk1 : Row w c1 ks) (hk2 : Row w c2 ks) (hn : ks.length = n * 5) (hl : zs.length ≤ 17592186044416) (hn2 : n ≤ 3518437208883) :
    Calls Tryz.prog 6 #[.agg #[.int .i64 W, .int .i64 H, .slice a1 zs.length k1, .slice c1 n d1], .agg #[.int .i64 W, .int .i64 H, .slice a2 zs.length k2, .slice c2 n d2]] w fun e w' => e = .returned (.bool true) ∧ Below w.heap.size w w' := by
  have HR : Hid (Row w a1 zs ∧ Row w a2 zs ∧ Row w c1 ks ∧ Row w c2 ks ∧ ks.length = n * 5) := ⟨hz1, hz2, hk1, hk2, hn⟩
  obtain ⟨w0, hw0⟩ : ∃ W0, W0 = (w.alloc (.cells #[.int .i64 W, .int .i64 H, .slice a1 zs.length k1, .slice c1 n d1] 25)).alloc (.cells #[.int .i64 W, .int .i64 H, .slice a2 zs.length k2, .slice c2 n d2] 25) := ⟨_, rfl⟩
  have hx : w0.cell? ⟨w.heap.size, 2, none⟩ = some (.slice a1 zs.length k1) ∧ w0.cell? ⟨w.heap.size, 3, none⟩ = some (.slice c1 n d1) ∧ w0.cell? ⟨w.heap.size + 1, 2, none⟩ = some (.slice a2 zs.length k2) ∧ w0.cell? ⟨w.heap.size + 1, 3, none⟩ = some (.slice c2 n d2) := by
    rw [hw0]
    simp [go_sem]
  have HX : Hid (w0.cell? ⟨w.heap.size, 2, none⟩ = some (.slice a1 zs.length k1) ∧ w0.cell? ⟨w.heap.size, 3, none⟩ = some (.slice c1 n d1) ∧ w0.cell? ⟨w.heap.size + 1, 2, none⟩ = some (.slice a2 zs.length k2) ∧ w0.cell? ⟨w.heap.size + 1, 3, none⟩ = some (.slice c2 n d2)) := hx
  have hb0 : Below w.heap.size w w0 := by
    rw [hw0]
    exact bl_alloc (bl_alloc (bl_refl _))
  have HB0 : Hid (Below w.heap.size w w0) := hb0
  have HW0 : Hid ((w.alloc (.cells #[.int .i64 W, .int .i64 H, .slice a1 zs.length k1, .slice c1 n d1] 25)).alloc (.cells #[.int .i64 W, .int .i64 H, .slice a2 zs.length k2, .slice c2 n d2] 25) = w0) := hw0.symm
  have q1 : (W != W) = false := by simp
  have q2 : (H != H) = false := by simp
  have q3 : ((zs.length : Int) != (zs.length : Int)) = false := by simp
  have q4 : ((n : Int) != (n : Int)) = false := by simp
  have hc := neqC
  clear hx hb0 hw0 hz1 hz2 hk1 hk2 hn
  go_enter Tryz.func6, Tryz.ntmps6
  go_wp2
  go_loopg [5] zs.length (fun gk s5 wx => ∃ i : Nat, i ≤ zs.length ∧ gk = zs.length - i ∧ s5 = .int .i64 (i : Int) ∧ Below w0.heap.size w0 wx)
  case atStart => exact ⟨0, by omega, rfl, rfl, by rw [HW0.out]; exact bl_refl _⟩
  case round =>
    obtain ⟨i, hi, rfl, rfl, hB⟩ := hrel
    have HB : Hid (Below w0.heap.size w0 wr) := hB
    have p0 := cl_kept hB HX.out.1
    have p1 := cl_kept hB HX.out.2.2.1
    have zp : w.heap.size < wr.heap.size := World.block_lt_of_cell? _ _ p0
    have zp1 : w.heap.size + 1 < wr.heap.size := World.block_lt_of_cell? _ _ p1
    clear hB
    by_cases h1 : i < zs.length
    · have i1 : (i : Int) < (zs.length : Int) := by omega
      have i0 : (0 : Int) ≤ (i : Int) := by omega
      obtain ⟨b1, o1, rfl, r1⟩ := HR.out.1 i h1
      obtain ⟨b2, o2, rfl, r2⟩ := HR.out.2.1 i h1
      replace r1 := cl_kept (bl_via HB0.out HB.out) r1
      replace r2 := cl_kept (bl_via HB0.out HB.out) r2
      have zb1 : b1 < wr.heap.size := World.block_lt_of_cell? _ _ r1
      have zb2 : b2 < wr.heap.size := World.block_lt_of_cell? _ _ r2
      obtain ⟨z, hz⟩ : ∃ z, z = zs[i] := ⟨_, rfl⟩
      rw [← hz] at r1 r2
      have qz : (z != z) = false := by simp
      clear hz
      go_wp2
      have kc := Kin.cells wr
      have kn : Nonempty (Kin wr) := ⟨⟨wr, bl_refl _⟩⟩
      refine wp_region_kin (by kernel_rfl) (by kernel_rfl) ?_
      repeat (go_big_quiet_step (fail))
      refine wpQuiet_nil ?_
      intro wq hw'
      obtain ⟨nq, hw''⟩ := hw'
      have hq : Below wr.heap.size wr wq := hw'' ▸ nq.h
      clear hw'' nq kc kn p0 p1 r1 r2
      go_wp2
      go_roundg (zs.length - (i + 1))
      case measure => omega
      case rel => exact ⟨i + 1, by omega, rfl, by go_num, bl_via HB.out hq⟩
    · have i1 : ¬ (i : Int) < (zs.length : Int) := by omega
      go_wp2
      clear p0 p1 zp zp1 i1 h1
      go_loopg [6] n (fun gk s6 wx => ∃ i : Nat, i ≤ n ∧ gk = n - i ∧ s6 = .int .i64 (i : Int) ∧ Below w0.heap.size w0 wx)
      case atStart => exact ⟨0, by omega, rfl, rfl, HB.out⟩
      case round =>
        clear HB
        obtain ⟨i, hi, rfl, rfl, hB⟩ := hrel
        have HB : Hid (Below w0.heap.size w0 wr) := hB
        have p0 := cl_kept hB HX.out.2.1
        have p1 := cl_kept hB HX.out.2.2.2
        have zp : w.heap.size < wr.heap.size := World.block_lt_of_cell? _ _ p0
        have zp1 : w.heap.size + 1 < wr.heap.size := World.block_lt_of_cell? _ _ p1
        clear hB
        by_cases h1 : i < n
        · have i1 : (i : Int) < (n : Int) := by omega
          have i0 : (0 : Int) ≤ (i : Int) := by omega
          obtain ⟨b1, o1, rfl, r0, r1, r2, r3, r4⟩ := (row_crow HR.out.2.2.1 HR.out.2.2.2.2).kept (bl_via HB0.out HB.out) i h1
          obtain ⟨b2, o2, rfl, s0, s1, s2, s3, s4⟩ := (row_crow HR.out.2.2.2.1 HR.out.2.2.2.2).kept (bl_via HB0.out HB.out) i h1
          have zb1 : b1 < wr.heap.size := World.block_lt_of_cell? _ _ r0
          have zb2 : b2 < wr.heap.size := World.block_lt_of_cell? _ _ s0
          obtain ⟨v0, hv0⟩ : ∃ z, z = ck ks i 0 := ⟨_, rfl⟩
          obtain ⟨v1, hv1⟩ : ∃ z, z = ck ks i 1 := ⟨_, rfl⟩
          obtain ⟨v2, hv2⟩ : ∃ z, z = ck ks i 2 := ⟨_, rfl⟩
          obtain ⟨v3, hv3⟩ : ∃ z, z = ck ks i 3 := ⟨_, rfl⟩
          obtain ⟨v4, hv4⟩ : ∃ z, z = ck ks i 4 := ⟨_, rfl⟩
          rw [← hv0] at r0 s0
          rw [← hv1] at r1 s1
          rw [← hv2] at r2 s2
          rw [← hv3] at r3 s3
          rw [← hv4] at r4 s4
          clear hv0 hv1 hv2 hv3 hv4
          go_wp2
          have kc := Kin.cells wr
          have kn : Nonempty (Kin wr) := ⟨⟨wr, bl_refl _⟩⟩
          refine wp_region_kin (by kernel_rfl) (by kernel_rfl) ?_
          repeat (go_big_quiet_step (fail))
          refine wpQuiet_nil ?_
          intro wq hw'
          obtain ⟨nq, hw''⟩ := hw'
          have hq : Below wr.heap.size wr wq := hw'' ▸ nq.h
          clear hw'' nq kc kn p0 p1 r0 r1 r2 r3 r4 s0 s1 s2 s3 s4
          go_wp2
          go_roundg (n - (i + 1))
          case measure => omega
          case rel => exact ⟨i + 1, by omega, rfl, by go_num, bl_via HB.out hq⟩
        · have i1 : ¬ (i : Int) < (n : Int) := by omega
          go_wp2
          go_ret
          exact ⟨rfl, bl_via HB0.out HB.out⟩
end Go.Proofs.YtehmoacggikfmaaGreatDoor
