/- Numbers as text: the reference's way. -/
import Derived.Test.YtehmoacggikfmaaDoorQlac
import Derived.Test.YtehmoacggikfmaaDoorQlaf
import Derived.Laws.IdiomStrings
namespace Go.Proofs.YtehmoacggikfmaaDoor
open Go.RowKit

/-- A number's digits, of a number below 100; the same as a text. -/
def dgs (n : Nat) : List UInt8 := if n < 10 then [UInt8.ofNat (48 + n)] else [UInt8.ofNat (48 + n / 10), UInt8.ofNat (48 + n % 10)]
def dgB (n : Nat) : ByteArray := ⟨(dgs n).toArray⟩
theorem dgs_lib (n : Nat) (h : n < 100) : Lib.decDigits n = dgs n := by
  unfold dgs
  rw [Lib.decDigits]
  split
  · rfl
  · rw [Lib.decDigits, dif_pos (by omega)]
    rfl
theorem dgB_list (n : Nat) : (dgB n).data.toList = dgs n := by simp [dgB]
theorem dgB_size (n : Nat) : (dgB n).size ≤ 2 := by
  unfold dgB dgs
  split <;> simp [ByteArray.size]
theorem app_list (a b : ByteArray) : (a ++ b).data.toList = a.data.toList ++ b.data.toList := by simp
theorem byte_conv (b : Nat) (hb : b < 256) (w : World) : (convert 55 9 (.slice (some ⟨w.heap.size, 0, none⟩) 1 1)).run Tryd.prog (w.alloc (.cells #[.int .u8 (b : Int)] 5)) = .ok (.string ⟨#[UInt8.ofNat b]⟩) (w.alloc (.cells #[.int .u8 (b : Int)] 5)) :=
  run_convert_bytes_back (P := Tryd.prog) (w.alloc (.cells #[.int .u8 (b : Int)] 5)) 55 9 5 ⟨w.heap.size, 0, none⟩ 1 [UInt8.ofNat b] Tryd.underlying55 Tryd.underlying5 Tryd.underlying9 (fun j hj => by
    obtain rfl : j = 0 := by simpa using hj
    have : (UInt8.ofNat b).toNat = b := by simp; omega
    simp [go_sem, Addr.add, this])

set_option maxRecDepth 100000 in
theorem dec_small (n : Nat) (w : World) (h : n < 10) : Calls Tryd.prog 19 #[.int .i64 (n : Int)] w fun e w' => e = .returned (.string (dgB n)) ∧ Below w.heap.size w w' := by
  have h1 : (n : Int) < 10 := by omega
  have h0 : ¬ (n : Int) < 0 := by omega
  have hc := byte_conv (48 + n) (by omega) w
  have hd : (⟨#[UInt8.ofNat (48 + n)]⟩ : ByteArray) = dgB n := by simp [dgB, dgs, h]
  rw [hd] at hc
  have e1 : ((48 + n : Nat) : Int) = 48 + (n : Int) := by omega
  rw [e1] at hc
  clear hd e1
  go_enter Tryd.func19, Tryd.ntmps19
  go_wp2_with (fail)
  go_ret
  exact ⟨rfl, bl_alloc (bl_refl _)⟩
set_option maxRecDepth 100000 in
theorem dec_any (n : Nat) (w : World) (h : n < 100) : Calls Tryd.prog 19 #[.int .i64 (n : Int)] w fun e w' => e = .returned (.string (dgB n)) ∧ Below w.heap.size w w' := by
  by_cases h10 : n < 10
  · exact dec_small n w h10
  · have h1 : ¬ (n : Int) < 10 := by omega
    have h0 : ¬ (n : Int) < 0 := by omega
    have z1 := dgB_size (n / 10)
    have z2 := dgB_size (n % 10)
    have HD : Hid (dgB (n / 10) ++ dgB (n % 10) = dgB n) := by
      show dgB (n / 10) ++ dgB (n % 10) = dgB n
      have q1 : n / 10 < 10 := by omega
      have q2 : n % 10 < 10 := by omega
      simp [dgB, dgs, h10, q1, q2]
      rfl
    have e1 : ((n / 10 : Nat) : Int) = (n : Int) / 10 := by omega
    have e2 : ((n % 10 : Nat) : Int) = (n : Int) % 10 := by omega
    have C1 : Hid (∀ W' : World, Calls Tryd.prog 19 #[.int .i64 ((n : Int) / 10)] W' fun e w' => e = .returned (.string (dgB (n / 10))) ∧ Below W'.heap.size W' w') := fun W' => e1 ▸ dec_small (n / 10) W' (by omega)
    have C2 : Hid (∀ W' : World, Calls Tryd.prog 19 #[.int .i64 ((n : Int) % 10)] W' fun e w' => e = .returned (.string (dgB (n % 10))) ∧ Below W'.heap.size W' w') := fun W' => e2 ▸ dec_small (n % 10) W' (by omega)
    clear e1 e2
    have tok1 : True := trivial
    go_enter Tryd.func19, Tryd.ntmps19
    go_wp2_with (first
      | (go_at_call 19; have _t := tok1; refine (C1.out _).mono ?_; rintro e w1 ⟨rfl, hb1⟩; have HB1 : Hid (Below w.heap.size w w1) := hb1; clear hb1 tok1 _t)
      | (go_at_call 19; refine (C2.out _).mono ?_; rintro e w2 ⟨rfl, hb2⟩; have HB2 : Hid (Below w.heap.size w w2) := bl_via HB1.out hb2; clear hb2))
    go_ret
    exact ⟨by rw [← HD.out]; rfl, HB2.out⟩
end Go.Proofs.YtehmoacggikfmaaDoor
