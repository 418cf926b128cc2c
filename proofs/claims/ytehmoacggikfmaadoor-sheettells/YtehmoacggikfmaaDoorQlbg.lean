/- A sheet's text: the reference's way. -/
import Derived.Test.YtehmoacggikfmaaDoorQlag
import Derived.Test.YtehmoacggikfmaaDoorQlbf
namespace Go.Proofs.YtehmoacggikfmaaDoor
open Go.RowKit

/-- A cell's letter. -/
def ltB (z : Int) : UInt8 := if z < 10 then UInt8.ofNat (48 + z.toNat) else UInt8.ofNat (87 + z.toNat)
/-- The first x letters of a row; the first k rows, from the highest on; a crease's line; the first n lines; the whole text. -/
def rwT (zs : List Int) (W y x : Nat) : List UInt8 := (List.range x).map fun x' => ltB (zs.getD (y * W + x') 0)
def rsT (zs : List Int) (W H : Nat) : Nat → List UInt8
  | 0 => []
  | k + 1 => rsT zs W H k ++ rwT zs W (H - 1 - k) W ++ [10]
def crT (ks : List Int) (i : Nat) : List UInt8 :=
  [if ck ks i 4 = 1 then 109 else 118, 32] ++ dgs (ck ks i 0).toNat ++ [32] ++ dgs (ck ks i 1).toNat ++ [32] ++ dgs (ck ks i 2).toNat ++ [32] ++ dgs (ck ks i 3).toNat ++ [10]
def csT (ks : List Int) : Nat → List UInt8
  | 0 => []
  | i + 1 => csT ks i ++ crT ks i
def hdT (W H : Nat) : List UInt8 := [115, 104, 101, 101, 116, 32] ++ dgs W ++ [32] ++ dgs H ++ [10]
def shT (zs ks : List Int) (W H n : Nat) : List UInt8 := hdT W H ++ rsT zs W H H ++ csT ks n
theorem rwT_succ (zs : List Int) (W y x : Nat) : rwT zs W y (x + 1) = rwT zs W y x ++ [ltB (zs.getD (y * W + x) 0)] := by simp [rwT, List.range_succ]

theorem bsz (a : ByteArray) : a.size = a.data.toList.length := by rw [Array.length_toList]; rfl

set_option maxRecDepth 100000 in
set_option maxHeartbeats 6400000 in
theorem sheetText_any (W H b off cap n ccap : Nat) (cb : Option Addr) (zs ks : List Int) (w : World) (hr : Row w (some ⟨b, off, none⟩) zs) (hW : 1 ≤ W ∧ W ≤ 8) (hH : 1 ≤ H ∧ H ≤ 8) (hl : zs.length = W * H) (hm : maskB zs = true) (hk : Row w cb ks) (hn : ks.length = n * 5) (hn2 : n ≤ 3518437208883) (hcr : ∀ i, i < n → ∀ j, j < 4 → 0 ≤ ck ks i j ∧ ck ks i j < 100) :
    Calls Tryd.prog 11 #[.agg #[.int .i64 (W : Int), .int .i64 (H : Int), .slice (some ⟨b, off, none⟩) zs.length cap, .slice cb n ccap]] w fun e w' => ∃ t, e = .returned (.string t) ∧ t.data.toList = shT zs ks W H n ∧ Below w.heap.size w w' := by
  have HR : Hid (Row w (some ⟨b, off, none⟩) zs) := hr
  have h64 : zs.length ≤ 64 := by rw [hl]; exact Nat.le_trans (Nat.mul_le_mul hW.2 hH.2) (by decide)
  have HM : Hid (∀ z ∈ zs, 0 ≤ z ∧ z ≤ 15) := by
    show ∀ z ∈ zs, 0 ≤ z ∧ z ≤ 15
    simpa [maskB] using hm
  have HL : Hid (zs.length = W * H) := hl
  have HCR : Hid (CRow w cb ks n) := row_crow hk hn
  have HCB : Hid (∀ i, i < n → ∀ j, j < 4 → 0 ≤ ck ks i j ∧ ck ks i j < 100) := hcr
  have C79 : Hid (∀ (z : Int) (W' : World), 0 ≤ z → z < 100 → Calls Tryd.prog 19 #[.int .i64 z] W' fun e w' => e = .returned (.string (dgB z.toNat)) ∧ Below W'.heap.size W' w') := fun z W' h0 h1 => by
    have e : ((z.toNat : Nat) : Int) = z := by omega
    have := dec_any z.toNat W' (by omega)
    rwa [e] at this
  obtain ⟨w1, w8⟩ := hW
  obtain ⟨h1, h8⟩ := hH
  have CN : Hid (∀ (m : Nat) (W' : World), m < 100 → Calls Tryd.prog 19 #[.int .i64 (m : Int)] W' fun e w' => e = .returned (.string (dgB m)) ∧ Below W'.heap.size W' w') := fun m W' h => dec_any m W' h
  have zW := dgB_size W
  have zH := dgB_size H
  clear hr hm hl hk hn hcr
  go_enter Tryd.func11, Tryd.ntmps11
  go_wp2
  refine wp_named (fun W0 hW0 => ?_)
  have hB0 : Below w.heap.size w W0 := by rw [hW0]; exact bl_alloc (bl_refl _)
  have s0 : W0.cell? ⟨w.heap.size, 0, none⟩ = some (.int .i64 (W : Int)) := by rw [hW0]; simp [go_sem]
  have s1 : W0.cell? ⟨w.heap.size, 1, none⟩ = some (.int .i64 (H : Int)) := by rw [hW0]; simp [go_sem]
  have s2 : W0.cell? ⟨w.heap.size, 2, none⟩ = some (.slice (some ⟨b, off, none⟩) zs.length cap) := by rw [hW0]; simp [go_sem]
  have s3 : W0.cell? ⟨w.heap.size, 3, none⟩ = some (.slice cb n ccap) := by rw [hW0]; simp [go_sem]
  have HS0 : Hid (Sh W0 w.heap.size (.int .i64 (W : Int)) (.int .i64 (H : Int)) (.slice (some ⟨b, off, none⟩) zs.length cap) (.slice cb n ccap) ∧ Below w.heap.size w W0) := ⟨⟨s0, s1, s2, s3⟩, hB0⟩
  have z0 : w.heap.size < W0.heap.size := World.block_lt_of_cell? _ _ s0
  have kc := Kin.cells W0
  have kn : Nonempty (Kin W0) := ⟨⟨W0, bl_refl _⟩⟩
  have tok1 : True := trivial
  clear hW0 hB0
  refine wp_region_kin (by kernel_rfl) (by kernel_rfl) ?_
  repeat (go_big_quiet_step (((go_at_call 19; refine kin_of (CN.out _ _ ?_); omega))))
  refine wpQuiet_nil ?_
  intro wq hw'
  obtain ⟨nq, hw''⟩ := hw'
  have hq : Below W0.heap.size W0 wq := hw'' ▸ nq.h
  have HQ : Hid (Sh wq w.heap.size (.int .i64 (W : Int)) (.int .i64 (H : Int)) (.slice (some ⟨b, off, none⟩) zs.length cap) (.slice cb n ccap) ∧ Below w.heap.size w wq) := ⟨HS0.out.1.kept hq, bl_via HS0.out.2 hq⟩
  clear hw'' nq hq kc kn s0 s1 s2 s3 z0 HS0 tok1
  obtain ⟨s0, s1, s2, s3⟩ := HQ.out.1
  go_wp2
  clear s0 s1 s2 s3
  go_loopg [3, 4] (H + 1) (fun gk s3 s4 wx => ∃ (r : Nat) (v : Int) (t : ByteArray), r ≤ H ∧ gk = r + 1 ∧ v = (r : Int) - 1 ∧ s4 = .int .i64 v ∧ s3 = .string t ∧ t.data.toList = hdT W H ++ rsT zs W H (H - r) ∧ t.size ≤ 20 + 9 * (H - r) ∧ Sh wx w.heap.size (.int .i64 (W : Int)) (.int .i64 (H : Int)) (.slice (some ⟨b, off, none⟩) zs.length cap) (.slice cb n ccap) ∧ Below w.heap.size w wx)
  case atStart =>
    refine ⟨H, _, _, by omega, rfl, rfl, rfl, rfl, ?_, ?_, HQ.out.1, HQ.out.2⟩
    · simp only [app_list, dgB_list, Nat.sub_self, rsT, List.append_nil, hdT]
    · simp [ByteArray.size_append]
      have e1 : ByteArray.size ⟨#[115, 104, 101, 101, 116, 32]⟩ = 6 := rfl
      have e2 : ByteArray.size ⟨#[32]⟩ = 1 := rfl
      have e3 : ByteArray.size ⟨#[10]⟩ = 1 := rfl
      omega
  case round =>
    clear HQ
    obtain ⟨r, v, t, hr, rfl, hv, rfl, rfl, ht, htz, hS, hB⟩ := hrel
    have HT : Hid (t.data.toList = hdT W H ++ rsT zs W H (H - r)) := ht
    have HS : Hid (Sh wr w.heap.size (.int .i64 (W : Int)) (.int .i64 (H : Int)) (.slice (some ⟨b, off, none⟩) zs.length cap) (.slice cb n ccap) ∧ Below w.heap.size w wr) := ⟨hS, hB⟩
    obtain ⟨s0, s1, s2, s3⟩ := hS
    have zs0 : w.heap.size < wr.heap.size := World.block_lt_of_cell? _ _ s0
    clear ht hB
    by_cases hr0' : 0 < r
    · obtain ⟨y, rfl⟩ : ∃ y, r = y + 1 := ⟨r - 1, by omega⟩
      obtain rfl : v = (y : Int) := by omega
      clear hv
      have iy : (0 : Int) ≤ (y : Int) := by omega
      go_wp2
      go_loopg [3, 5] W (fun gk s3 s5 wx => ∃ (x : Nat) (t : ByteArray), x ≤ W ∧ gk = W - x ∧ s5 = .int .i64 (x : Int) ∧ s3 = .string t ∧ t.data.toList = hdT W H ++ rsT zs W H (H - (y + 1)) ++ rwT zs W y x ∧ t.size ≤ 20 + 9 * (H - (y + 1)) + x ∧ Sh wx w.heap.size (.int .i64 (W : Int)) (.int .i64 (H : Int)) (.slice (some ⟨b, off, none⟩) zs.length cap) (.slice cb n ccap) ∧ Below w.heap.size w wx)
      case atStart => exact ⟨0, t, by omega, rfl, rfl, rfl, by rw [HT.out]; simp [rwT], by omega, HS.out.1, HS.out.2⟩
      case round =>
        clear HT HS s0 s1 s2 s3 zs0
        obtain ⟨x, t2, hx, rfl, rfl, rfl, ht, htz2, hS, hB⟩ := hrel
        have HT : Hid (t2.data.toList = hdT W H ++ rsT zs W H (H - (y + 1)) ++ rwT zs W y x) := ht
        have HS : Hid (Sh wr w.heap.size (.int .i64 (W : Int)) (.int .i64 (H : Int)) (.slice (some ⟨b, off, none⟩) zs.length cap) (.slice cb n ccap) ∧ Below w.heap.size w wr) := ⟨hS, hB⟩
        obtain ⟨s0, s1, s2, s3⟩ := hS
        have zs0 : w.heap.size < wr.heap.size := World.block_lt_of_cell? _ _ s0
        clear ht hB
        by_cases hx1 : x < W
        · have ix : (x : Int) < (W : Int) := by omega
          have hyw : y * W + W ≤ W * H := by
            have := Nat.mul_le_mul_right W (show y + 1 ≤ H by omega)
            rw [Nat.succ_mul, Nat.mul_comm H W] at this
            exact this
          have hm : y * W + x < zs.length := by rw [HL.out]; omega
          have hyw2 : y * W ≤ 64 := by have := HL.out; omega
          obtain ⟨b', off', e', hc⟩ := (HR.out.kept HS.out.2) (y * W + x) hm
          simp at e'
          obtain ⟨rfl, rfl⟩ := e'
          have hzb := HM.out _ (List.getElem_mem hm)
          have HZ : Hid (zs.getD (y * W + x) 0 = zs[y * W + x]) := by show _ = _; simp [hm]
          obtain ⟨z, hz⟩ : ∃ z, z = zs[y * W + x] := ⟨_, rfl⟩
          rw [← hz] at hc hzb HZ
          have yw0 : (0 : Int) ≤ (y : Int) * (W : Int) := by rw [← Int.natCast_mul]; omega
          have yw1 : (y : Int) * (W : Int) ≤ 64 := by rw [← Int.natCast_mul]; omega
          have yx : (y : Int) * (W : Int) + (x : Int) = ((y * W + x : Nat) : Int) := by simp
          have i1 : ((y * W + x : Nat) : Int) < (zs.length : Int) := by omega
          have i0 : (0 : Int) ≤ ((y * W + x : Nat) : Int) := by omega
          obtain ⟨m, hmm2⟩ : ∃ m, m = y * W + x := ⟨_, rfl⟩
          rw [← hmm2] at hc yx i1 i0 HZ
          have HMM : Hid (m = y * W + x) := hmm2
          have zbb := World.block_lt_of_cell? _ _ hc
          clear hz hm hyw hyw2 hmm2
          obtain ⟨z0, z15⟩ := hzb
          by_cases hz10 : z < 10
          · have zz := dgB_size z.toNat
            go_wp2_with (go_at_call 19; refine (C79.out _ _ z0 (by omega)).mono ?_; rintro e w5 ⟨rfl, hb5⟩; have HS5 : Hid (Sh w5 w.heap.size (.int .i64 (W : Int)) (.int .i64 (H : Int)) (.slice (some ⟨b, off, none⟩) zs.length cap) (.slice cb n ccap) ∧ Below w.heap.size w w5) := ⟨HS.out.1.kept hb5, bl_via HS.out.2 hb5⟩; clear hb5)
            go_roundg (W - (x + 1))
            case measure => omega
            case rel =>
              refine ⟨x + 1, t2 ++ dgB z.toNat, by omega, rfl, by go_num, rfl, ?_, ?_, HS5.out.1, HS5.out.2⟩
              · have hd : dgs z.toNat = [ltB z] := by
                  have q : z.toNat < 10 := by omega
                  simp [dgs, ltB, q, hz10]
                rw [app_list, HT.out, dgB_list, rwT_succ, ← HMM.out, HZ.out, hd]
                simp only [List.append_assoc]
              · rw [ByteArray.size_append, bsz (dgB z.toNat), dgB_list]
                have q : z.toNat < 10 := by omega
                simp only [dgs, q, if_true, List.length_singleton]
                omega
          · have hcv := byte_conv (87 + z.toNat) (by omega) wr
            have e1 : ((87 + z.toNat : Nat) : Int) = 97 + z - 10 := by omega
            rw [e1] at hcv
            obtain ⟨bz, hbz⟩ : ∃ b : ByteArray, b = ⟨#[UInt8.ofNat (87 + z.toNat)]⟩ := ⟨_, rfl⟩
            rw [← hbz] at hcv
            have hbs : bz.size = 1 := by rw [hbz]; rfl
            have HBZ : Hid (bz.data.toList = [ltB z]) := by
              show _ = _
              rw [hbz]
              simp [ltB, hz10]
            clear hbz e1
            go_wp2
            go_roundg (W - (x + 1))
            case measure => omega
            case rel =>
              refine ⟨x + 1, t2 ++ bz, by omega, rfl, by go_num, rfl, ?_, ?_, HS.out.1.kept (bl_alloc (bl_refl _)), bl_alloc HS.out.2⟩
              · rw [app_list, HT.out, HBZ.out, rwT_succ, ← HMM.out, HZ.out]
                simp only [List.append_assoc]
              · rw [ByteArray.size_append, hbs]
                omega
        · have ix : ¬ (x : Int) < (W : Int) := by omega
          obtain rfl : x = W := by omega
          go_wp2
          go_roundg (y + 1)
          case measure => omega
          case rel =>
            refine ⟨y, (y : Int) - 1, t2 ++ ⟨#[10]⟩, by omega, rfl, rfl, rfl, rfl, ?_, ?_, HS.out.1, HS.out.2⟩
            · have e : H - y = (H - (y + 1)) + 1 := by omega
              rw [app_list, HT.out, e, rsT, show H - 1 - (H - (y + 1)) = y by omega]
              simp
            · rw [ByteArray.size_append, show ByteArray.size ⟨#[10]⟩ = 1 from rfl]
              omega
    · obtain rfl : r = 0 := by omega
      obtain rfl : v = -1 := by omega
      clear hv
      go_wp2
      go_loopg [3, 7] n (fun gk s3 s7 wx => ∃ (i : Nat) (t : ByteArray), i ≤ n ∧ gk = n - i ∧ s7 = .int .i64 (i : Int) ∧ s3 = .string t ∧ t.data.toList = hdT W H ++ rsT zs W H H ++ csT ks i ∧ t.size ≤ 100 + 15 * i ∧ Sh wx w.heap.size (.int .i64 (W : Int)) (.int .i64 (H : Int)) (.slice (some ⟨b, off, none⟩) zs.length cap) (.slice cb n ccap) ∧ Below w.heap.size w wx)
      case atStart => exact ⟨0, t, by omega, rfl, rfl, rfl, by rw [HT.out]; simp [csT], by omega, HS.out.1, HS.out.2⟩
      case round =>
        clear HT HS s0 s1 s2 s3 zs0 htz
        obtain ⟨i, t, hi, rfl, rfl, rfl, ht, htz, hS, hB⟩ := hrel
        have HT : Hid (t.data.toList = hdT W H ++ rsT zs W H H ++ csT ks i) := ht
        have HS : Hid (Sh wr w.heap.size (.int .i64 (W : Int)) (.int .i64 (H : Int)) (.slice (some ⟨b, off, none⟩) zs.length cap) (.slice cb n ccap) ∧ Below w.heap.size w wr) := ⟨hS, hB⟩
        obtain ⟨s0, s1, s2, s3⟩ := hS
        have zs0 : w.heap.size < wr.heap.size := World.block_lt_of_cell? _ _ s0
        clear ht hB
        by_cases h1' : i < n
        · have i1 : (i : Int) < (n : Int) := by omega
          have i0 : (0 : Int) ≤ (i : Int) := by omega
          obtain ⟨bb, bo, rfl, c0, c1, c2, c3, c4⟩ := (HCR.out.kept HS.out.2) i h1'
          have zb : bb < wr.heap.size := World.block_lt_of_cell? _ _ c0
          obtain ⟨p0, p0'⟩ := HCB.out i h1' 0 (by omega)
          obtain ⟨p1, p1'⟩ := HCB.out i h1' 1 (by omega)
          obtain ⟨p2, p2'⟩ := HCB.out i h1' 2 (by omega)
          obtain ⟨p3, p3'⟩ := HCB.out i h1' 3 (by omega)
          have d0 := dgB_size (ck ks i 0).toNat
          have d1 := dgB_size (ck ks i 1).toNat
          have d2 := dgB_size (ck ks i 2).toNat
          have d3 := dgB_size (ck ks i 3).toNat
          by_cases k1 : ck ks i 4 = 1
          · have HK : Hid (ck ks i 4 = 1) := k1
            have k1b : (ck ks i 4 == 1) = true := by simpa using k1
            clear k1
            go_wp2
            refine wp_named (fun W0 hW0 => ?_)
            have hB0 : Below wr.heap.size wr W0 := by rw [hW0]; exact bl_alloc (bl_refl _)
            have t0 : W0.cell? ⟨wr.heap.size, 0, none⟩ = some (.int .i64 (ck ks i 0)) := by rw [hW0]; simp [go_sem]
            have t1 : W0.cell? ⟨wr.heap.size, 1, none⟩ = some (.int .i64 (ck ks i 1)) := by rw [hW0]; simp [go_sem]
            have t2 : W0.cell? ⟨wr.heap.size, 2, none⟩ = some (.int .i64 (ck ks i 2)) := by rw [hW0]; simp [go_sem]
            have t3 : W0.cell? ⟨wr.heap.size, 3, none⟩ = some (.int .i64 (ck ks i 3)) := by rw [hW0]; simp [go_sem]
            have t4 : W0.cell? ⟨wr.heap.size, 4, none⟩ = some (.int .i64 (ck ks i 4)) := by rw [hW0]; simp [go_sem]
            have z0 : wr.heap.size < W0.heap.size := World.block_lt_of_cell? _ _ t0
            have HB0 : Hid (Below wr.heap.size wr W0) := hB0
            have kc := Kin.cells W0
            have kn : Nonempty (Kin W0) := ⟨⟨W0, bl_refl _⟩⟩
            clear hW0 hB0
            refine wp_region_kin (by kernel_rfl) (by kernel_rfl) ?_
            repeat (go_big_quiet_step ((go_at_call 19; refine kin_of (C79.out _ _ ?_ ?_) <;> omega)))
            refine wpQuiet_nil ?_
            intro wq hw'
            obtain ⟨nq, hw''⟩ := hw'
            have hq : Below W0.heap.size W0 wq := hw'' ▸ nq.h
            have HS5 : Hid (Sh wq w.heap.size (.int .i64 (W : Int)) (.int .i64 (H : Int)) (.slice (some ⟨b, off, none⟩) zs.length cap) (.slice (some ⟨bb, bo, none⟩) n ccap) ∧ Below w.heap.size w wq) := ⟨HS.out.1.kept (bl_via HB0.out hq), bl_via HS.out.2 (bl_via HB0.out hq)⟩
            clear hw'' nq hq kc kn
            go_wp2
            go_roundg (n - (i + 1))
            case measure => omega
            case rel =>
              refine ⟨i + 1, _, by omega, rfl, by go_num, rfl, ?_, ?_, HS5.out.1, HS5.out.2⟩
              · simp only [app_list, dgB_list, HT.out, csT, crT, HK.out, if_true]
                simp
              · simp only [ByteArray.size_append]
                have e2 : ByteArray.size ⟨#[32]⟩ = 1 := rfl
                have e3 : ByteArray.size ⟨#[10]⟩ = 1 := rfl
                have e4 : ByteArray.size ⟨#[109, 32]⟩ = 2 := rfl
                omega
          · have HK : Hid (¬ ck ks i 4 = 1) := k1
            have k1b : (ck ks i 4 == 1) = false := by simpa using k1
            clear k1
            go_wp2
            refine wp_named (fun W0 hW0 => ?_)
            have hB0 : Below wr.heap.size wr W0 := by rw [hW0]; exact bl_alloc (bl_refl _)
            have t0 : W0.cell? ⟨wr.heap.size, 0, none⟩ = some (.int .i64 (ck ks i 0)) := by rw [hW0]; simp [go_sem]
            have t1 : W0.cell? ⟨wr.heap.size, 1, none⟩ = some (.int .i64 (ck ks i 1)) := by rw [hW0]; simp [go_sem]
            have t2 : W0.cell? ⟨wr.heap.size, 2, none⟩ = some (.int .i64 (ck ks i 2)) := by rw [hW0]; simp [go_sem]
            have t3 : W0.cell? ⟨wr.heap.size, 3, none⟩ = some (.int .i64 (ck ks i 3)) := by rw [hW0]; simp [go_sem]
            have t4 : W0.cell? ⟨wr.heap.size, 4, none⟩ = some (.int .i64 (ck ks i 4)) := by rw [hW0]; simp [go_sem]
            have z0 : wr.heap.size < W0.heap.size := World.block_lt_of_cell? _ _ t0
            have HB0 : Hid (Below wr.heap.size wr W0) := hB0
            have kc := Kin.cells W0
            have kn : Nonempty (Kin W0) := ⟨⟨W0, bl_refl _⟩⟩
            clear hW0 hB0
            refine wp_region_kin (by kernel_rfl) (by kernel_rfl) ?_
            repeat (go_big_quiet_step ((go_at_call 19; refine kin_of (C79.out _ _ ?_ ?_) <;> omega)))
            refine wpQuiet_nil ?_
            intro wq hw'
            obtain ⟨nq, hw''⟩ := hw'
            have hq : Below W0.heap.size W0 wq := hw'' ▸ nq.h
            have HS5 : Hid (Sh wq w.heap.size (.int .i64 (W : Int)) (.int .i64 (H : Int)) (.slice (some ⟨b, off, none⟩) zs.length cap) (.slice (some ⟨bb, bo, none⟩) n ccap) ∧ Below w.heap.size w wq) := ⟨HS.out.1.kept (bl_via HB0.out hq), bl_via HS.out.2 (bl_via HB0.out hq)⟩
            clear hw'' nq hq kc kn
            go_wp2
            go_roundg (n - (i + 1))
            case measure => omega
            case rel =>
              refine ⟨i + 1, _, by omega, rfl, by go_num, rfl, ?_, ?_, HS5.out.1, HS5.out.2⟩
              · simp only [app_list, dgB_list, HT.out, csT, crT, HK.out, if_false]
                simp
              · simp only [ByteArray.size_append]
                have e2 : ByteArray.size ⟨#[32]⟩ = 1 := rfl
                have e3 : ByteArray.size ⟨#[10]⟩ = 1 := rfl
                have e4 : ByteArray.size ⟨#[118, 32]⟩ = 2 := rfl
                omega
        · have i1 : ¬ (i : Int) < (n : Int) := by omega
          obtain rfl : i = n := by omega
          go_wp2
          go_ret
          exact ⟨t, rfl, HT.out, HS.out.2⟩
end Go.Proofs.YtehmoacggikfmaaDoor
