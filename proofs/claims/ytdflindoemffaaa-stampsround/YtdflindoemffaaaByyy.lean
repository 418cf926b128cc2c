/- By. -/
import Derived.Test.YtdflindoemffaaaPilb
namespace Go.Proofs.Ytdflindoemffaaa
open Go.RowKit

def p11 (v : Int) : Bool := decide (v ≠ 1) && decide (v ≠ 2)
set_option maxRecDepth 100000 in
theorem by_size (v : Value) (ks : List Int) (w : World) (hv : Sg w v ks) (hl : ks.length ≤ 17592186044416) (h8 : 8 ≤ ks.length) :
    Calls Try.prog 18 #[v] w fun e w' => e = .returned (.tuple #[.slice none 0 0, .int .i64 2]) ∧ Below w.heap.size w w' := by
  have CN : Hid (∀ W : World, Calls Try.prog 28 #[.int .i64 ((ks.length : Int) + 1)] W fun e w' => e = .returned (.bool false) ∧ Below W.heap.size W w') := fun W => by
    have := counted_any ((ks.length : Int) + 1) W
    rwa [show cntB ((ks.length : Int) + 1) = false by simp [cntB]; omega] at this
  obtain ⟨a, c, rfl, _⟩ := hv
  go_enter Try.func18, Try.ntmps18
  go_wp2_with (go_at_call 28; refine (CN.out _).mono ?_; rintro e w1 ⟨rfl, hb⟩)
  go_ret2
  exact ⟨rfl, bl_via (bl_alloc (bl_refl w)) hb⟩
set_option maxRecDepth 100000 in
set_option maxHeartbeats 1000000 in
theorem by_kind (v : Value) (ks : List Int) (w : World) (hv : Sg w v ks) (h8 : ks.length < 8) (hk : ks.any p11 = true) :
    Calls Try.prog 18 #[v] w fun e w' => e = .returned (.tuple #[.slice none 0 0, .int .i64 4]) ∧ Below w.heap.size w w' := by
  have CN : Hid (∀ W : World, Calls Try.prog 28 #[.int .i64 ((ks.length : Int) + 1)] W fun e w' => e = .returned (.bool true) ∧ Below W.heap.size W w') := fun W => by
    have := counted_any ((ks.length : Int) + 1) W
    rwa [show cntB ((ks.length : Int) + 1) = true by simp [cntB]; omega] at this
  obtain ⟨a, c, rfl, hR⟩ := hv
  have HRD : Hid (∀ i, i < ks.length → ∃ g off, a = some ⟨g, off, none⟩ ∧ w.cell? ⟨g, off + i, none⟩ = some (.int .i64 (gt ks i))) := hR
  have HK : Hid (∃ k, k < ks.length ∧ p11 (gt ks k) = true) := by
    have : ∃ k, k < ks.length ∧ p11 (gt ks k) = true := by
      obtain ⟨x, hx, hp⟩ := List.any_eq_true.1 hk
      obtain ⟨k, h1, e⟩ := mem_gt hx
      exact ⟨k, h1, by rw [e]; exact hp⟩
    exact this
  clear hR hk
  go_enter Try.func18, Try.ntmps18
  go_wp2_with (go_at_call 28; refine (CN.out _).mono ?_; rintro e w1 ⟨rfl, hb⟩; have HB1 : Hid (Below w.heap.size w w1) := bl_via (bl_alloc (bl_refl w)) hb; have c1 : w1.cell? ⟨w.heap.size, 0, none⟩ = some (.slice a ks.length c) := cl_kept hb (by simp [go_sem]); have z1 : w.heap.size < w1.heap.size := World.block_lt_of_cell? _ _ c1; clear hb)
  go_loopg [14] ks.length (fun gk s14 wx => ∃ i : Nat, i ≤ ks.length ∧ gk = ks.length - i ∧ s14 = .int .i64 (i : Int) ∧ Below w.heap.size w wx ∧ ∀ k, k < i → p11 (gt ks k) = false)
  case atStart => exact ⟨0, by omega, rfl, rfl, HB1.out, fun k hk => by omega⟩
  case round =>
    clear HB1 c1 z1
    obtain ⟨i, hi, rfl, rfl, hB, hno⟩ := hrel
    have HB : Hid (Below w.heap.size w wr ∧ ∀ k, k < i → p11 (gt ks k) = false) := ⟨hB, hno⟩
    clear hB hno
    by_cases h1 : i < ks.length
    · have i1 : (i : Int) < (ks.length : Int) := by omega
      have i0 : (0 : Int) ≤ (i : Int) := by omega
      obtain ⟨g, off, rfl, c0⟩ := HRD.out i h1
      replace c0 := cl_kept HB.out.1 c0
      have zg : g < wr.heap.size := World.block_lt_of_cell? _ _ c0
      obtain ⟨vi, hvi⟩ : ∃ v, v = gt ks i := ⟨_, rfl⟩
      rw [← hvi] at c0
      have HVI : Hid (vi = gt ks i) := hvi
      clear hvi
      have hnext : ∀ x, vi = x → p11 x = false → Hid (∀ k, k < i + 1 → p11 (gt ks k) = false) := fun x e hp k hk => by
        by_cases hki : k < i
        · exact HB.out.2 k hki
        · have : k = i := by omega
          rw [this, ← HVI.out, e]
          exact hp
      by_cases q1 : vi = 1
      · have HN := hnext 1 q1 rfl
        subst q1
        clear hnext
        go_wp2
        go_roundg (ks.length - (i + 1))
        case measure => omega
        case rel => exact ⟨i + 1, by omega, rfl, by go_num, HB.out.1, HN.out⟩
      · by_cases q2 : vi = 2
        · have HN := hnext 2 q2 rfl
          subst q2
          clear hnext
          go_wp2
          go_roundg (ks.length - (i + 1))
          case measure => omega
          case rel => exact ⟨i + 1, by omega, rfl, by go_num, HB.out.1, HN.out⟩
        · have q1b : (vi != 1) = true := by simpa using q1
          have q2b : (vi != 2) = true := by simpa using q2
          clear hnext
          go_wp2
          go_ret2
          exact ⟨rfl, HB.out.1⟩
    · exfalso
      obtain ⟨k, hk, e⟩ := HK.out
      have := HB.out.2 k (by omega)
      rw [e] at this
      cases this
set_option maxRecDepth 100000 in
set_option maxHeartbeats 1000000 in
theorem by_ok (v : Value) (ks : List Int) (w : World) (hv : Sg w v ks) (h8 : ks.length < 8) (hk : ks.any p11 = false) :
    Calls Try.prog 18 #[v] w fun e w' => ∃ z u es, e = .returned (.tuple #[u, .int .i64 0]) ∧ OutS w' z u es ∧ lsO es = ords (byP ks) (ks.length + 1) (ks.length + 1) [] ∧ Below w.heap.size w w' := by
  have CN : Hid (∀ W : World, Calls Try.prog 28 #[.int .i64 ((ks.length : Int) + 1)] W fun e w' => e = .returned (.bool true) ∧ Below W.heap.size W w') := fun W => by
    have := counted_any ((ks.length : Int) + 1) W
    rwa [show cntB ((ks.length : Int) + 1) = true by simp [cntB]; omega] at this
  have CT : Hid (∀ (W : World) (Bk : Nat), KF W Bk ks → Calls Try.prog 29 #[.int .i64 ((ks.length : Int) + 1), .func (.func 30) #[] #[.pointer (some ⟨Bk, 0, none⟩)]] W fun e w' => ∃ z u es, e = .returned u ∧ OutS w' z u es ∧ lsO es = ords (byP ks) (ks.length + 1) (ks.length + 1) [] ∧ Below W.heap.size W w') := fun W Bk h => by
    have := those_anyB (ks.length + 1) W Bk ks h (by omega) (by omega) (by omega)
    rwa [show ((ks.length + 1 : Nat) : Int) = (ks.length : Int) + 1 by omega] at this
  have HSG : Hid (Sg w v ks) := hv
  obtain ⟨a, c, rfl, hR⟩ := hv
  have HRD : Hid (∀ i, i < ks.length → ∃ g off, a = some ⟨g, off, none⟩ ∧ w.cell? ⟨g, off + i, none⟩ = some (.int .i64 (gt ks i))) := hR
  have HK : Hid (∀ k, k < ks.length → p11 (gt ks k) = false) := fun k hk1 => by
    have := List.any_eq_false.1 hk _ (gt_mem hk1)
    simpa using this
  clear hR hk
  go_enter Try.func18, Try.ntmps18
  go_wp2_with (go_at_call 28; refine (CN.out _).mono ?_; rintro e w1 ⟨rfl, hb⟩; have HB1 : Hid (Below w.heap.size w w1) := bl_via (bl_alloc (bl_refl w)) hb; have c1 : w1.cell? ⟨w.heap.size, 0, none⟩ = some (.slice a ks.length c) := cl_kept hb (by simp [go_sem]); have z1 : w.heap.size < w1.heap.size := World.block_lt_of_cell? _ _ c1; clear hb)
  have HC1 : Hid (w1.cell? ⟨w.heap.size, 0, none⟩ = some (.slice a ks.length c)) := c1
  go_loopg [14] ks.length (fun gk s14 wx => ∃ i : Nat, i ≤ ks.length ∧ gk = ks.length - i ∧ s14 = .int .i64 (i : Int) ∧ Below w1.heap.size w1 wx)
  case atStart => exact ⟨0, by omega, rfl, rfl, bl_refl _⟩
  case round =>
    clear c1 z1
    obtain ⟨i, hi, rfl, rfl, hB⟩ := hrel
    have HB : Hid (Below w1.heap.size w1 wr) := hB
    clear hB
    by_cases h1 : i < ks.length
    · have i1 : (i : Int) < (ks.length : Int) := by omega
      have i0 : (0 : Int) ≤ (i : Int) := by omega
      obtain ⟨g, off, rfl, c0⟩ := HRD.out i h1
      replace c0 := cl_kept (bl_via HB1.out HB.out) c0
      have zg : g < wr.heap.size := World.block_lt_of_cell? _ _ c0
      have hp := HK.out i h1
      obtain ⟨vi, hvi⟩ : ∃ v, v = gt ks i := ⟨_, rfl⟩
      rw [← hvi] at c0 hp
      clear hvi
      have q : vi = 1 ∨ vi = 2 := by
        simp [p11] at hp
        omega
      clear hp
      rcases q with rfl | rfl
      · go_wp2
        go_roundg (ks.length - (i + 1))
        case measure => omega
        case rel => exact ⟨i + 1, by omega, rfl, by go_num, HB.out⟩
      · go_wp2
        go_roundg (ks.length - (i + 1))
        case measure => omega
        case rel => exact ⟨i + 1, by omega, rfl, by go_num, HB.out⟩
    · have i1 : ¬ (i : Int) < (ks.length : Int) := by omega
      obtain rfl : i = ks.length := by omega
      have c2 := cl_kept HB.out HC1.out
      have z2 : w.heap.size < wr.heap.size := World.block_lt_of_cell? _ _ c2
      have HKF : Hid (KF wr w.heap.size ks) := ⟨_, c2, HSG.out.kept (bl_via HB1.out HB.out)⟩
      go_wp2_with (go_at_call 29; refine (CT.out _ _ HKF.out).mono ?_; rintro e w5 ⟨z, u, es, rfl, hO, hls, hb5⟩; have H5 : Hid (OutS w5 z u es ∧ lsO es = ords (byP ks) (ks.length + 1) (ks.length + 1) [] ∧ Below w.heap.size w w5) := ⟨hO, hls, bl_via (bl_via HB1.out HB.out) hb5⟩; clear hO hls hb5)
      go_ret2
      first
        | exact ⟨z, u, es, rfl, H5.out⟩
        | exact ⟨z, u, rfl, es, H5.out⟩
        | exact ⟨u, rfl, z, es, H5.out⟩
end Go.Proofs.Ytdflindoemffaaa
