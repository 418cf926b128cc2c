/- A sheet's cells, the reference's way: may they be? -/
import Derived.Test.YtehmoacggikfmaaDoorQlad
namespace Go.Proofs.YtehmoacggikfmaaDoor
open Go.RowKit

/-- May a sheet's cells be? -/
def cellsB (W H : Int) (zs : List Int) : Bool := sideB W && sideB H && decide ((zs.length : Int) = W * H) && maskB zs

set_option maxHeartbeats 1600000 in
theorem cellsMay_w (W H : Int) (a : Option Addr) (cap : Nat) (zs : List Int) (c : Value) (w : World) (hW : sideB W = false) :
    Calls Tryd.prog 14 #[.agg #[.int .i64 W, .int .i64 H, .slice a zs.length cap, c]] w fun e w' => e = .returned (.bool false) ∧ ∃ o, w' = w.alloc o := by
  have e1 : inB W 1 8 = false := by simpa [inB, sideB] using hW
  go_enter Tryd.func14, Tryd.ntmps14
  go_wp2_with (go_at_call 30; refine (inBounds_any _ _ _ _).mono ?_; rintro e w' ⟨rfl, rfl⟩)
  go_ret
  exact ⟨rfl, _, rfl⟩

set_option maxHeartbeats 1600000 in
theorem cellsMay_h (W H : Int) (a : Option Addr) (cap : Nat) (zs : List Int) (c : Value) (w : World) (hW : sideB W = true) (hH : sideB H = false) :
    Calls Tryd.prog 14 #[.agg #[.int .i64 W, .int .i64 H, .slice a zs.length cap, c]] w fun e w' => e = .returned (.bool false) ∧ ∃ o, w' = w.alloc o := by
  have e1 : inB W 1 8 = true := by simpa [inB, sideB] using hW
  have e2 : inB H 1 8 = false := by simpa [inB, sideB] using hH
  go_enter Tryd.func14, Tryd.ntmps14
  go_wp2_with (go_at_call 30; refine (inBounds_any _ _ _ _).mono ?_; rintro e w' ⟨rfl, rfl⟩)
  go_ret
  exact ⟨rfl, _, rfl⟩

set_option maxHeartbeats 1600000 in
theorem cellsMay_l (W H : Int) (a : Option Addr) (cap : Nat) (zs : List Int) (c : Value) (w : World) (hW : sideB W = true) (hH : sideB H = true) (hl : ¬ (zs.length : Int) = W * H) :
    Calls Tryd.prog 14 #[.agg #[.int .i64 W, .int .i64 H, .slice a zs.length cap, c]] w fun e w' => e = .returned (.bool false) ∧ ∃ o, w' = w.alloc o := by
  have b1 : 1 ≤ W ∧ W ≤ 8 := by simpa [sideB] using hW
  have b2 : 1 ≤ H ∧ H ≤ 8 := by simpa [sideB] using hH
  have hm : 0 ≤ W * H ∧ W * H ≤ 64 := by
    have h1 : W = 1 ∨ W = 2 ∨ W = 3 ∨ W = 4 ∨ W = 5 ∨ W = 6 ∨ W = 7 ∨ W = 8 := by omega
    rcases h1 with rfl | rfl | rfl | rfl | rfl | rfl | rfl | rfl <;> omega
  have e1 : inB W 1 8 = true := by simpa [inB] using b1
  have e2 : inB H 1 8 = true := by simpa [inB] using b2
  go_enter Tryd.func14, Tryd.ntmps14
  go_wp2_with (go_at_call 30; refine (inBounds_any _ _ _ _).mono ?_; rintro e w' ⟨rfl, rfl⟩)
  go_ret
  exact ⟨rfl, _, rfl⟩

set_option maxHeartbeats 1600000 in
theorem cellsMay_m (W H : Int) (a : Option Addr) (cap : Nat) (zs : List Int) (c : Value) (w : World) (hW : sideB W = true) (hH : sideB H = true) (hr : Row w a zs) (hl : (zs.length : Int) = W * H) :
    Calls Tryd.prog 14 #[.agg #[.int .i64 W, .int .i64 H, .slice a zs.length cap, c]] w fun e w' => e = .returned (.bool (maskB zs)) ∧ ∃ o, w' = w.alloc o := by
  have b1 : 1 ≤ W ∧ W ≤ 8 := by simpa [sideB] using hW
  have b2 : 1 ≤ H ∧ H ≤ 8 := by simpa [sideB] using hH
  have hm : 0 ≤ W * H ∧ W * H ≤ 64 := by
    have h1 : W = 1 ∨ W = 2 ∨ W = 3 ∨ W = 4 ∨ W = 5 ∨ W = 6 ∨ W = 7 ∨ W = 8 := by omega
    rcases h1 with rfl | rfl | rfl | rfl | rfl | rfl | rfl | rfl <;> omega
  have e1 : inB W 1 8 = true := by simpa [inB] using b1
  have e2 : inB H 1 8 = true := by simpa [inB] using b2
  have HR : Hid (Row w a zs) := hr
  clear hr
  go_enter Tryd.func14, Tryd.ntmps14
  go_wp2_with (go_at_call 30; refine (inBounds_any _ _ _ _).mono ?_; rintro e w' ⟨rfl, rfl⟩)
  go_loopg [3] zs.length (fun g s3 wx => ∃ n : Nat, n ≤ zs.length ∧ g = zs.length - n ∧ s3 = .int .i64 n ∧ (∀ i (hi : i < zs.length), i < n → 0 ≤ zs[i] ∧ zs[i] ≤ 15) ∧ wx = w.alloc (.cells #[.int .i64 W, .int .i64 H, .slice a zs.length cap, c] 25))
  case atStart => exact ⟨0, by omega, rfl, rfl, fun i _ h => by omega, rfl⟩
  case round =>
    obtain ⟨n, hn, rfl, rfl, hp, rfl⟩ := hrel
    have HP : Hid (∀ i (hi : i < zs.length), i < n → 0 ≤ zs[i] ∧ zs[i] ≤ 15) := hp
    clear hp
    by_cases h1 : n < zs.length
    · obtain ⟨b, off, rfl, hc⟩ := HR.out n h1
      have i1 : (n : Int) < (zs.length : Int) := by omega
      have i0 : (0 : Int) ≤ (n : Int) := by omega
      have u1 : (w.alloc (.cells #[.int .i64 W, .int .i64 H, .slice (some ⟨b, off, none⟩) zs.length cap, c] 25)).cell? ⟨b, off + n, none⟩ = some (.int .i64 zs[n]) := al_old hc
      obtain ⟨z, hz⟩ : ∃ z, z = zs[n] := ⟨_, rfl⟩
      rw [← hz] at u1
      clear hc
      have HZ : Hid (z = zs[n]) := hz
      clear hz
      cases g1 : inB z 0 15
      · have HM : Hid (maskB zs = false) := by
          show maskB zs = false
          simp only [maskB, List.all_eq_false, decide_eq_true_eq]
          refine ⟨zs[n], List.getElem_mem h1, ?_⟩
          rw [← HZ.out]
          simpa [inB] using g1
        go_wp2_with (go_at_call 30; refine (inBounds_any _ _ _ _).mono ?_; rintro e w' ⟨rfl, rfl⟩)
        go_ret
        exact ⟨by rw [HM.out]; rfl, _, rfl⟩
      · go_wp2_with (go_at_call 30; refine (inBounds_any _ _ _ _).mono ?_; rintro e w' ⟨rfl, rfl⟩)
        go_roundg (zs.length - (n + 1))
        case measure => omega
        case rel =>
          refine ⟨n + 1, by omega, rfl, by go_num, fun i hi h => ?_, rfl⟩
          by_cases e : i = n
          · subst e
            have := HZ.out
            simp [inB] at g1
            omega
          · exact HP.out i hi (by omega)
    · have i1 : ¬ (n : Int) < (zs.length : Int) := by omega
      have HM : Hid (maskB zs = true) := by
        show maskB zs = true
        by_cases h : maskB zs = true
        · exact h
        · exact (mask_at (by simpa using h) (fun i hi => HP.out i hi (by omega))).elim
      go_wp2
      go_ret
      exact ⟨by rw [HM.out]; rfl, _, rfl⟩

theorem cellsMay_any (W H : Int) (a : Option Addr) (cap : Nat) (zs : List Int) (c : Value) (w : World) (hr : Row w a zs) :
    Calls Tryd.prog 14 #[.agg #[.int .i64 W, .int .i64 H, .slice a zs.length cap, c]] w fun e w' => e = .returned (.bool (cellsB W H zs)) ∧ ∃ o, w' = w.alloc o := by
  unfold cellsB
  cases hW : sideB W
  · exact cellsMay_w W H a cap zs c w hW
  cases hH : sideB H
  · exact cellsMay_h W H a cap zs c w hW hH
  by_cases hl : (zs.length : Int) = W * H
  · rw [decide_eq_true hl]
    exact cellsMay_m W H a cap zs c w hW hH hr hl
  · rw [decide_eq_false hl]
    exact cellsMay_l W H a cap zs c w hW hH hl

end Go.Proofs.YtehmoacggikfmaaDoor
