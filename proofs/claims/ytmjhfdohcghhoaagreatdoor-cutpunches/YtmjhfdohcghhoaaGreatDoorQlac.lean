/- A part of the proof of cutPunches_holds. -/
import Derived.Test.YtmjhfdohcghhoaaGreatDoorQlaa
import Derived.Deep.LoopGhost
import Derived.Deep.DeepCutAuto
import Derived.Deep.CutBlock
import Derived.Deep.QuietTactic
import Derived.BigQuiet
import Derived.Shelf.Bits.Mul64
import Derived.Test.YtmjhfdohcghhoaaGreatDoorProg
import Derived.Shelf.Slices.Turned
namespace Go.Proofs.YtmjhfdohcghhoaaGreatDoor
open Go.RowKit

/-- Numbers in a row of memory, as a slice has them. -/
def Row (w : World) (a : Option Addr) (zs : List Int) : Prop :=
  ∀ i (h : i < zs.length), ∃ b off, a = some ⟨b, off, none⟩ ∧ w.cell? ⟨b, off + i, none⟩ = some (.int .i64 zs[i])
theorem Row.kept {w wx : World} {a : Option Addr} {zs : List Int} (h : Row w a zs) (hb : Below w.heap.size w wx) : Row wx a zs := fun i hi => by
  obtain ⟨b, off, e, hc⟩ := h i hi
  exact ⟨b, off, e, cl_kept hb hc⟩

/-- May a mask's numbers be? -/
def maskB (zs : List Int) : Bool := zs.all fun z => decide (0 ≤ z ∧ z ≤ 15)
/-- May a side's length be? -/
def sideB (n : Int) : Bool := decide (1 ≤ n ∧ n ≤ 8)

theorem maySide_any (n : Int) (w : World) :
    Calls Tryz.prog 84 #[.int .i64 n] w fun e w' => e = .returned (.bool (sideB n)) ∧ w' = w := by
  go_enter Tryz.func84, Tryz.ntmps84
  go_wp2
  all_goals
    go_ret
    exact ⟨ret_bool (by rw [Bool.eq_iff_iff]; simp_all [sideB] <;> omega), rfl⟩

theorem mask_at {zs : List Int} (h : maskB zs = false) (hp : ∀ i (hi : i < zs.length), 0 ≤ zs[i] ∧ zs[i] ≤ 15) : False := by
  have : maskB zs = true := by
    simp only [maskB, List.all_eq_true, decide_eq_true_eq]
    intro z hz
    obtain ⟨i, hi, rfl⟩ := List.getElem_of_mem hz
    exact hp i hi
  rw [this] at h
  exact Bool.noConfusion h

set_option maxHeartbeats 1600000 in
theorem mayMask_len (W H : Int) (a : Option Addr) (cap : Nat) (zs : List Int) (c : Value) (w : World) (hW : sideB W = true) (hH : sideB H = true) (hl : ¬ (zs.length : Int) = W * H) :
    Calls Tryz.prog 85 #[.agg #[.int .i64 W, .int .i64 H, .slice a zs.length cap, c]] w fun e w' => e = .returned (.bool false) ∧ ∃ o, w' = w.alloc o := by
  have b1 : 1 ≤ W ∧ W ≤ 8 := by simpa [sideB] using hW
  have b2 : 1 ≤ H ∧ H ≤ 8 := by simpa [sideB] using hH
  have hm : 0 ≤ W * H ∧ W * H ≤ 64 := by
    have h1 : W = 1 ∨ W = 2 ∨ W = 3 ∨ W = 4 ∨ W = 5 ∨ W = 6 ∨ W = 7 ∨ W = 8 := by omega
    rcases h1 with rfl | rfl | rfl | rfl | rfl | rfl | rfl | rfl <;> omega
  go_enter Tryz.func85, Tryz.ntmps85
  go_wp2
  go_ret
  exact ⟨rfl, _, rfl⟩

set_option maxHeartbeats 1600000 in
theorem mayMask_any (W H : Int) (a : Option Addr) (cap : Nat) (zs : List Int) (c : Value) (w : World) (hW : sideB W = true) (hH : sideB H = true) (hr : Row w a zs) (hl : (zs.length : Int) = W * H) :
    Calls Tryz.prog 85 #[.agg #[.int .i64 W, .int .i64 H, .slice a zs.length cap, c]] w fun e w' => e = .returned (.bool (maskB zs)) ∧ ∃ o, w' = w.alloc o := by
  have b1 : 1 ≤ W ∧ W ≤ 8 := by simpa [sideB] using hW
  have b2 : 1 ≤ H ∧ H ≤ 8 := by simpa [sideB] using hH
  have hm : 0 ≤ W * H ∧ W * H ≤ 64 := by
    have h1 : W = 1 ∨ W = 2 ∨ W = 3 ∨ W = 4 ∨ W = 5 ∨ W = 6 ∨ W = 7 ∨ W = 8 := by omega
    rcases h1 with rfl | rfl | rfl | rfl | rfl | rfl | rfl | rfl <;> omega
  have HR : Hid (Row w a zs) := hr
  clear hr
  go_enter Tryz.func85, Tryz.ntmps85
  go_wp2
  go_loopg [17] zs.length (fun g s17 wx => ∃ n : Nat, n ≤ zs.length ∧ g = zs.length - n ∧ s17 = .int .i64 n ∧ (∀ i (hi : i < zs.length), i < n → 0 ≤ zs[i] ∧ zs[i] ≤ 15) ∧ wx = w.alloc (.cells #[.int .i64 W, .int .i64 H, .slice a zs.length cap, c] 25))
  case atStart => exact ⟨0, by omega, rfl, rfl, fun i _ h => by omega, rfl⟩
  case round =>
    obtain ⟨n, hn, rfl, rfl, hp, rfl⟩ := hrel
    have HP : Hid (∀ i (hi : i < zs.length), i < n → 0 ≤ zs[i] ∧ zs[i] ≤ 15) := hp
    clear hp
    by_cases h1 : n < zs.length
    · obtain ⟨b, off, rfl, hc⟩ := HR.out n h1
      have i1 : (n : Int) < (zs.length : Int) := by omega
      have i0 : (0 : Int) ≤ (n : Int) := by omega
      have u1 : (w.alloc (.cells #[.int .i64 W, .int .i64 H, .slice (some ⟨b, off, none⟩) zs.length cap, c] 25)).cell? ⟨b, off + n, none⟩ = some (.int .i64 zs[n]) := al_old hc
      obtain ⟨z, hz⟩ : ∃ z, z = zs[n] := ⟨_, rfl⟩
      rw [← hz] at u1
      clear hc
      by_cases g1 : z < 0
      · have HM : Hid (maskB zs = false) := by
          show maskB zs = false
          simp only [maskB, List.all_eq_false, decide_eq_true_eq]
          exact ⟨zs[n], List.getElem_mem h1, by omega⟩
        go_wp2
        go_ret
        exact ⟨by rw [HM.out]; rfl, _, rfl⟩
      · by_cases g2 : 15 < z
        · have HM : Hid (maskB zs = false) := by
            show maskB zs = false
            simp only [maskB, List.all_eq_false, decide_eq_true_eq]
            exact ⟨zs[n], List.getElem_mem h1, by omega⟩
          go_wp2
          go_ret
          exact ⟨by rw [HM.out]; rfl, _, rfl⟩
        · go_wp2
          go_roundg (zs.length - (n + 1))
          case measure => omega
          case rel =>
            refine ⟨n + 1, by omega, rfl, by go_num, fun i hi h => ?_, rfl⟩
            by_cases e : i = n
            · subst e; omega
            · exact HP.out i hi (by omega)
    · have i1 : ¬ (n : Int) < (zs.length : Int) := by omega
      have HM : Hid (maskB zs = true) := by
        show maskB zs = true
        by_cases h : maskB zs = true
        · exact h
        · exact (mask_at (by simpa using h) (fun i hi => HP.out i hi (by omega))).elim
      go_wp2
      go_ret
      exact ⟨by rw [HM.out]; rfl, _, rfl⟩

/-- May a sheet's cells be? -/
def cellsB (W H : Int) (zs : List Int) : Bool := sideB W && sideB H && decide ((zs.length : Int) = W * H) && maskB zs

set_option maxHeartbeats 1600000 in
theorem cellsMay_w (W H : Int) (a : Option Addr) (cap : Nat) (zs : List Int) (c : Value) (w : World) (hW : sideB W = false) :
    Calls Tryz.prog 52 #[.agg #[.int .i64 W, .int .i64 H, .slice a zs.length cap, c]] w fun e w' => e = .returned (.bool false) ∧ ∃ o, w' = w.alloc o := by
  have e1 : inB W 1 8 = false := by simpa [inB, sideB] using hW
  go_enter Tryz.func52, Tryz.ntmps52
  go_wp2_with (go_at_call 34; refine (inBounds_any _ _ _ _).mono ?_; rintro e w' ⟨rfl, rfl⟩)
  go_ret
  exact ⟨rfl, _, rfl⟩

set_option maxHeartbeats 1600000 in
theorem cellsMay_h (W H : Int) (a : Option Addr) (cap : Nat) (zs : List Int) (c : Value) (w : World) (hW : sideB W = true) (hH : sideB H = false) :
    Calls Tryz.prog 52 #[.agg #[.int .i64 W, .int .i64 H, .slice a zs.length cap, c]] w fun e w' => e = .returned (.bool false) ∧ ∃ o, w' = w.alloc o := by
  have e1 : inB W 1 8 = true := by simpa [inB, sideB] using hW
  have e2 : inB H 1 8 = false := by simpa [inB, sideB] using hH
  go_enter Tryz.func52, Tryz.ntmps52
  go_wp2_with (go_at_call 34; refine (inBounds_any _ _ _ _).mono ?_; rintro e w' ⟨rfl, rfl⟩)
  go_ret
  exact ⟨rfl, _, rfl⟩

set_option maxHeartbeats 1600000 in
theorem cellsMay_l (W H : Int) (a : Option Addr) (cap : Nat) (zs : List Int) (c : Value) (w : World) (hW : sideB W = true) (hH : sideB H = true) (hl : ¬ (zs.length : Int) = W * H) :
    Calls Tryz.prog 52 #[.agg #[.int .i64 W, .int .i64 H, .slice a zs.length cap, c]] w fun e w' => e = .returned (.bool false) ∧ ∃ o, w' = w.alloc o := by
  have b1 : 1 ≤ W ∧ W ≤ 8 := by simpa [sideB] using hW
  have b2 : 1 ≤ H ∧ H ≤ 8 := by simpa [sideB] using hH
  have hm : 0 ≤ W * H ∧ W * H ≤ 64 := by
    have h1 : W = 1 ∨ W = 2 ∨ W = 3 ∨ W = 4 ∨ W = 5 ∨ W = 6 ∨ W = 7 ∨ W = 8 := by omega
    rcases h1 with rfl | rfl | rfl | rfl | rfl | rfl | rfl | rfl <;> omega
  have e1 : inB W 1 8 = true := by simpa [inB] using b1
  have e2 : inB H 1 8 = true := by simpa [inB] using b2
  go_enter Tryz.func52, Tryz.ntmps52
  go_wp2_with (go_at_call 34; refine (inBounds_any _ _ _ _).mono ?_; rintro e w' ⟨rfl, rfl⟩)
  go_ret
  exact ⟨rfl, _, rfl⟩

set_option maxHeartbeats 1600000 in
theorem cellsMay_m (W H : Int) (a : Option Addr) (cap : Nat) (zs : List Int) (c : Value) (w : World) (hW : sideB W = true) (hH : sideB H = true) (hr : Row w a zs) (hl : (zs.length : Int) = W * H) :
    Calls Tryz.prog 52 #[.agg #[.int .i64 W, .int .i64 H, .slice a zs.length cap, c]] w fun e w' => e = .returned (.bool (maskB zs)) ∧ ∃ o, w' = w.alloc o := by
  have b1 : 1 ≤ W ∧ W ≤ 8 := by simpa [sideB] using hW
  have b2 : 1 ≤ H ∧ H ≤ 8 := by simpa [sideB] using hH
  have hm : 0 ≤ W * H ∧ W * H ≤ 64 := by
    have h1 : W = 1 ∨ W = 2 ∨ W = 3 ∨ W = 4 ∨ W = 5 ∨ W = 6 ∨ W = 7 ∨ W = 8 := by omega
    rcases h1 with rfl | rfl | rfl | rfl | rfl | rfl | rfl | rfl <;> omega
  have e1 : inB W 1 8 = true := by simpa [inB] using b1
  have e2 : inB H 1 8 = true := by simpa [inB] using b2
  have HR : Hid (Row w a zs) := hr
  clear hr
  go_enter Tryz.func52, Tryz.ntmps52
  go_wp2_with (go_at_call 34; refine (inBounds_any _ _ _ _).mono ?_; rintro e w' ⟨rfl, rfl⟩)
  go_loopg [3] zs.length (fun g s3 wx => ∃ n : Nat, n ≤ zs.length ∧ g = zs.length - n ∧ s3 = .int .i64 n ∧ (∀ i (hi : i < zs.length), i < n → 0 ≤ zs[i] ∧ zs[i] ≤ 15) ∧ wx = w.alloc (.cells #[.int .i64 W, .int .i64 H, .slice a zs.length cap, c] 25))
  case atStart => exact ⟨0, by omega, rfl, rfl, fun i _ h => by omega, rfl⟩
  case round =>
    obtain ⟨n, hn, rfl, rfl, hp, rfl⟩ := hrel
    have HP : Hid (∀ i (hi : i < zs.length), i < n → 0 ≤ zs[i] ∧ zs[i] ≤ 15) := hp
    clear hp
    by_cases h1 : n < zs.length
    · obtain ⟨b, off, rfl, hc⟩ := HR.out n h1
      have i1 : (n : Int) < (zs.length : Int) := by omega
      have i0 : (0 : Int) ≤ (n : Int) := by omega
      have u1 : (w.alloc (.cells #[.int .i64 W, .int .i64 H, .slice (some ⟨b, off, none⟩) zs.length cap, c] 25)).cell? ⟨b, off + n, none⟩ = some (.int .i64 zs[n]) := al_old hc
      obtain ⟨z, hz⟩ : ∃ z, z = zs[n] := ⟨_, rfl⟩
      rw [← hz] at u1
      clear hc
      have HZ : Hid (z = zs[n]) := hz
      clear hz
      cases g1 : inB z 0 15
      · have HM : Hid (maskB zs = false) := by
          show maskB zs = false
          simp only [maskB, List.all_eq_false, decide_eq_true_eq]
          refine ⟨zs[n], List.getElem_mem h1, ?_⟩
          rw [← HZ.out]
          simpa [inB] using g1
        go_wp2_with (go_at_call 34; refine (inBounds_any _ _ _ _).mono ?_; rintro e w' ⟨rfl, rfl⟩)
        go_ret
        exact ⟨by rw [HM.out]; rfl, _, rfl⟩
      · go_wp2_with (go_at_call 34; refine (inBounds_any _ _ _ _).mono ?_; rintro e w' ⟨rfl, rfl⟩)
        go_roundg (zs.length - (n + 1))
        case measure => omega
        case rel =>
          refine ⟨n + 1, by omega, rfl, by go_num, fun i hi h => ?_, rfl⟩
          by_cases e : i = n
          · subst e
            have := HZ.out
            simp [inB] at g1
            omega
          · exact HP.out i hi (by omega)
    · have i1 : ¬ (n : Int) < (zs.length : Int) := by omega
      have HM : Hid (maskB zs = true) := by
        show maskB zs = true
        by_cases h : maskB zs = true
        · exact h
        · exact (mask_at (by simpa using h) (fun i hi => HP.out i hi (by omega))).elim
      go_wp2
      go_ret
      exact ⟨by rw [HM.out]; rfl, _, rfl⟩

theorem cellsMay_any (W H : Int) (a : Option Addr) (cap : Nat) (zs : List Int) (c : Value) (w : World) (hr : Row w a zs) :
    Calls Tryz.prog 52 #[.agg #[.int .i64 W, .int .i64 H, .slice a zs.length cap, c]] w fun e w' => e = .returned (.bool (cellsB W H zs)) ∧ ∃ o, w' = w.alloc o := by
  unfold cellsB
  cases hW : sideB W
  · exact cellsMay_w W H a cap zs c w hW
  cases hH : sideB H
  · exact cellsMay_h W H a cap zs c w hW hH
  by_cases hl : (zs.length : Int) = W * H
  · rw [decide_eq_true hl]
    exact cellsMay_m W H a cap zs c w hW hH hr hl
  · rw [decide_eq_false hl]
    exact cellsMay_l W H a cap zs c w hW hH hl


/-- By X, then Y. -/
def lessB (a b c d : Int) : Bool := decide (a < c ∨ (a = c ∧ b < d))

set_option maxHeartbeats 800000 in
theorem lessPoint_any (a b c d : Int) (w : World) :
    Calls Tryz.prog 99 #[.agg #[.int .i64 a, .int .i64 b], .agg #[.int .i64 c, .int .i64 d]] w fun r w' => r = .returned (.bool (lessB a b c d)) ∧ ∃ o1 o2, w' = (w.alloc o1).alloc o2 := by
  go_enter Tryz.func99, Tryz.ntmps99
  go_wp2
  all_goals
    go_ret
    exact ⟨ret_bool (by rw [Bool.eq_iff_iff]; simp_all [lessB] <;> omega), _, _, rfl⟩

set_option maxHeartbeats 800000 in
theorem edgeOf_turn (a b c d : Int) (w : World) (h : lessB c d a b = true) :
    Calls Tryz.prog 102 #[.agg #[.int .i64 a, .int .i64 b], .agg #[.int .i64 c, .int .i64 d]] w fun r w' => r = .returned (.agg #[.int .i64 c, .int .i64 d, .int .i64 a, .int .i64 b]) ∧ ∃ o1 o2 o3 o4 o5, w' = ((((w.alloc o1).alloc o2).alloc o3).alloc o4).alloc o5 := by
  go_enter Tryz.func102, Tryz.ntmps102
  go_wp2_with (go_at_call 99; refine (lessPoint_any _ _ _ _ _).mono ?_; rintro r w' ⟨rfl, o1, o2, rfl⟩)
  exact bodyPost_ret (v := .agg #[.int .i64 c, .int .i64 d, .int .i64 a, .int .i64 b]) (by simp [results, Tryz.results102, go_sem]) rfl ⟨rfl, _, _, _, _, _, rfl⟩

set_option maxHeartbeats 800000 in
theorem edgeOf_keep (a b c d : Int) (w : World) (h : lessB c d a b = false) :
    Calls Tryz.prog 102 #[.agg #[.int .i64 a, .int .i64 b], .agg #[.int .i64 c, .int .i64 d]] w fun r w' => r = .returned (.agg #[.int .i64 a, .int .i64 b, .int .i64 c, .int .i64 d]) ∧ ∃ o1 o2 o3 o4 o5, w' = ((((w.alloc o1).alloc o2).alloc o3).alloc o4).alloc o5 := by
  go_enter Tryz.func102, Tryz.ntmps102
  go_wp2_with (go_at_call 99; refine (lessPoint_any _ _ _ _ _).mono ?_; rintro r w' ⟨rfl, o1, o2, rfl⟩)
  exact bodyPost_ret (v := .agg #[.int .i64 a, .int .i64 b, .int .i64 c, .int .i64 d]) (by simp [results, Tryz.results102, go_sem]) rfl ⟨rfl, _, _, _, _, _, rfl⟩

set_option maxHeartbeats 1600000 in
theorem edge_any (a b c d : Int) (w : World) :
    Calls Tryz.prog 159 #[.agg #[.int .i64 a, .int .i64 b], .agg #[.int .i64 c, .int .i64 d]] w fun r w' => r = .returned (if lessB c d a b = true then .agg #[.int .i64 c, .int .i64 d, .int .i64 a, .int .i64 b] else .agg #[.int .i64 a, .int .i64 b, .int .i64 c, .int .i64 d]) ∧ ∃ o1 o2 o3, w' = ((w.alloc o1).alloc o2).alloc o3 := by
  by_cases h1 : c < a
  · have e : lessB c d a b = true := by simp [lessB, h1]
    rw [if_pos e]
    clear e
    go_enter Tryz.func159, Tryz.ntmps159
    go_wp2
    exact bodyPost_ret (v := .agg #[.int .i64 c, .int .i64 d, .int .i64 a, .int .i64 b]) (by simp [results, Tryz.results159, go_sem]) rfl ⟨rfl, _, _, _, rfl⟩
  by_cases h2 : c = a
  · subst h2
    by_cases h3 : d < b
    · have e : lessB c d c b = true := by simp [lessB, h3]
      rw [if_pos e]
      clear e
      go_enter Tryz.func159, Tryz.ntmps159
      go_wp2
      exact bodyPost_ret (v := .agg #[.int .i64 c, .int .i64 d, .int .i64 c, .int .i64 b]) (by simp [results, Tryz.results159, go_sem]) rfl ⟨rfl, _, _, _, rfl⟩
    · have e : ¬ lessB c d c b = true := by simp [lessB, h3]
      rw [if_neg e]
      clear e
      go_enter Tryz.func159, Tryz.ntmps159
      go_wp2
      exact bodyPost_ret (v := .agg #[.int .i64 c, .int .i64 b, .int .i64 c, .int .i64 d]) (by simp [results, Tryz.results159, go_sem]) rfl ⟨rfl, _, _, _, rfl⟩
  · have e : ¬ lessB c d a b = true := by simp [lessB, h1, h2]
    rw [if_neg e]
    clear e
    go_enter Tryz.func159, Tryz.ntmps159
    go_wp2
    exact bodyPost_ret (v := .agg #[.int .i64 a, .int .i64 b, .int .i64 c, .int .i64 d]) (by simp [results, Tryz.results159, go_sem]) rfl ⟨rfl, _, _, _, rfl⟩

/-- The four numbers of the edge between two points. -/
def eA (a b c d : Int) : Int := if lessB c d a b = true then c else a
def eB (a b c d : Int) : Int := if lessB c d a b = true then d else b
def eC (a b c d : Int) : Int := if lessB c d a b = true then a else c
def eD (a b c d : Int) : Int := if lessB c d a b = true then b else d

theorem edge_num (a b c d : Int) (w : World) :
    Calls Tryz.prog 159 #[.agg #[.int .i64 a, .int .i64 b], .agg #[.int .i64 c, .int .i64 d]] w fun r w' => r = .returned (.agg #[.int .i64 (eA a b c d), .int .i64 (eB a b c d), .int .i64 (eC a b c d), .int .i64 (eD a b c d)]) ∧ ∃ o1 o2 o3, w' = ((w.alloc o1).alloc o2).alloc o3 := by
  refine (edge_any a b c d w).mono ?_
  rintro r w' ⟨rfl, h⟩
  refine ⟨?_, h⟩
  cases e : lessB c d a b <;> simp [eA, eB, eC, eD, e]

theorem edgeOf_num (a b c d : Int) (w : World) :
    Calls Tryz.prog 102 #[.agg #[.int .i64 a, .int .i64 b], .agg #[.int .i64 c, .int .i64 d]] w fun r w' => r = .returned (.agg #[.int .i64 (eA a b c d), .int .i64 (eB a b c d), .int .i64 (eC a b c d), .int .i64 (eD a b c d)]) ∧ ∃ o1 o2 o3 o4 o5, w' = ((((w.alloc o1).alloc o2).alloc o3).alloc o4).alloc o5 := by
  cases e : lessB c d a b
  · refine (edgeOf_keep a b c d w e).mono ?_
    rintro r w' ⟨rfl, h⟩
    exact ⟨by simp [eA, eB, eC, eD, e], h⟩
  · refine (edgeOf_turn a b c d w e).mono ?_
    rintro r w' ⟨rfl, h⟩
    exact ⟨by simp [eA, eB, eC, eD, e], h⟩


/-- The worlds that have all of W as it was. -/
structure Kin (W : World) where
  w : World
  h : Below W.heap.size W w
theorem Kin.cells (W : World) : ∀ (n : Kin W) (b o : Nat), b < W.heap.size → n.w.cell? ⟨b, o, none⟩ = W.cell? ⟨b, o, none⟩ := fun n b o hb => n.h.cell (p := ⟨b, o, none⟩) hb
theorem wp_region_kin {P : Program} {id : Nat} {Q : Exit → Act → World → Prop} {a : Act} {W : World} {l : List Oper} (hm : P.follows .mixedOrders = true) (hB : Region.lexB .any l.toArray = true)
    (h : wpQuiet P l.toArray (fun w' => ∃ n : Kin W, w' = n.w) (fun a' => ∀ w', (∃ n : Kin W, w' = n.w) → Q .normal a' w') l a) : (Code.region id l.toArray true).wp P Q a W :=
  wp_region_quiet (C := fun w' => ∃ n : Kin W, w' = n.w) hm hB ⟨⟨W.drew, bl_drew (bl_refl _)⟩, rfl⟩ (by simpa using h)
theorem kin_of {P : Program} {f : FuncId} {args : Array Value} {W : World} {n : Kin W} {v : Value}
    (h : Calls P f args n.w fun e w' => e = .returned v ∧ Below n.w.heap.size n.w w') : Calls P f args n.w fun e w'' => e = .returned v ∧ ∃ m : Kin W, w'' = m.w :=
  h.mono fun _ w' ⟨he, hb⟩ => ⟨he, ⟨w', bl_via n.h hb⟩, rfl⟩
/-- The world of a walk gets a name. -/
theorem wp_named {P : Program} {c : Code} {Q : Exit → Act → World → Prop} {a : Act} {w : World} (h : ∀ W, W = w → c.wp P Q a W) : c.wp P Q a w := h w rfl
end Go.Proofs.YtmjhfdohcghhoaaGreatDoor
namespace Go.Proofs
open Go.Shelf
def Tryz.lays212_ren : Go.Shelf.Ren := ⟨fun | 212 => 97 | 263 => 126 | 264 => 127 | n => n, fun | 46 => 177 | 51 => 202 | 146 => 203 | 53 => 205 | 148 => 206 | n => n, fun | n => n⟩
theorem Tryz.lays212 : Go.Proofs.Lays.n212 Tryz.prog Tryz.lays212_ren := {
  mixed := by kernel_rfl
  f212 := Tryz.func97.trans (congrArg some (by kernel_rfl))
  f263 := Tryz.func126.trans (congrArg some (by kernel_rfl))
  f264 := Tryz.func127.trans (congrArg some (by kernel_rfl))
  t46 := Tryz.underlying177
  a46 := Tryz.isAgg177
  z46 := Tryz.sizeOf177
  v46 := Tryz.zeroValue177
  t51 := Tryz.underlying202
  a51 := Tryz.isAgg202
  z51 := Tryz.sizeOf202
  v51 := Tryz.zeroValue202
  t53 := Tryz.underlying205
  a53 := Tryz.isAgg205
  z53 := Tryz.sizeOf205
  v53 := Tryz.zeroValue205
  t146 := Tryz.underlying203
  a146 := Tryz.isAgg203
  z146 := Tryz.sizeOf203
  v146 := Tryz.zeroValue203
  t148 := Tryz.underlying206
  a148 := Tryz.isAgg206
  z148 := Tryz.sizeOf206
  v148 := Tryz.zeroValue206 }
open Go.RowKit Go.Lib in
/-- math/bits.Mul: "Mul returns the full-width product of x and y": on a machine of 64 bits: Mul64's. (LAID: no walk: one application.) -/
theorem Tryz.bits_Mul (x y : Nat) (hx : x < 18446744073709551616) (hy : y < 18446744073709551616) (w : World) :
    Calls Tryz.prog 97 #[.int .u64 x, .int .u64 y] w fun e w' => e = .returned (.tuple #[.int .u64 ((x * y / 18446744073709551616 : Nat) : Int), .int .u64 ((x * y % 18446744073709551616 : Nat) : Int)]) ∧ w' = w := Any.bits_Mul Tryz.lays212 x y hx hy w
end Go.Proofs
namespace Go.Proofs
open Go.Shelf
def Tryz.lays113_ren : Go.Shelf.Ren := ⟨fun | 113 => 116 | n => n, fun | 28 => 22 | 3 => 3 | 4 => 4 | 9 => 9 | 20 => 20 | 0 => 0 | n => n, fun | n => n⟩
theorem Tryz.lays113 : Go.Proofs.Lays.n113 Tryz.prog Tryz.lays113_ren := {
  mixed := by kernel_rfl
  f113 := Tryz.func116.trans (congrArg some (by kernel_rfl))
  t0 := Tryz.underlying0
  a0 := Tryz.isAgg0
  z0 := Tryz.sizeOf0
  v0 := Tryz.zeroValue0
  t3 := Tryz.underlying3
  a3 := Tryz.isAgg3
  z3 := Tryz.sizeOf3
  v3 := Tryz.zeroValue3
  t4 := Tryz.underlying4
  a4 := Tryz.isAgg4
  z4 := Tryz.sizeOf4
  v4 := Tryz.zeroValue4
  t9 := Tryz.underlying9
  a9 := Tryz.isAgg9
  z9 := Tryz.sizeOf9
  v9 := Tryz.zeroValue9
  t20 := Tryz.underlying20
  a20 := Tryz.isAgg20
  z20 := Tryz.sizeOf20
  v20 := Tryz.zeroValue20
  t28 := Tryz.underlying22
  a28 := Tryz.isAgg22
  z28 := Tryz.sizeOf22
  v28 := Tryz.zeroValue22 }
open Go.Lib in
/-- slices.Max at []int: "Max returns the maximal value in x. It panics if x is empty.": OF A SLICE THAT IS NOT EMPTY IT RETURNS 'Lib.maxOf (the elements)'; the world is as it was. (Of an empty one it panics: no contract here.) (LAID: no walk: one application.) -/
theorem Tryz.slices_Max_int (b off n c : Nat) (zs : List Int) (w : World) (hn : 0 < n) (hz : n ≤ zs.length) (hbig : n ≤ 9223372036854775807) (hc : ∀ j, j < zs.length → w.cell? ⟨b, off + j, none⟩ = some (.int .i64 (zs.getD j 0))) :
    Calls Tryz.prog 116 #[.slice (some ⟨b, off, none⟩) n c] w fun e w' => e = .returned (.int .i64 (Lib.maxOf (zs.take n))) ∧ w' = w := Any.slices_Max_int Tryz.lays113 b off n c zs w hn hz hbig hc
end Go.Proofs
namespace Go.Proofs.YtmjhfdohcghhoaaGreatDoor

/-- By Y, then X, then K. -/
def ltT (a b : Int × Int × Int) : Prop := a.2.1 < b.2.1 ∨ (a.2.1 = b.2.1 ∧ (a.1 < b.1 ∨ (a.1 = b.1 ∧ a.2.2 < b.2.2)))
theorem ltT_irr (a : Int × Int × Int) : ¬ ltT a a := by unfold ltT; omega
theorem ltT_trans (a b c : Int × Int × Int) (h1 : ltT a b) (h2 : ltT b c) : ltT a c := by unfold ltT at *; omega
def ltB (a b : Int × Int × Int) : Bool := decide (a.2.1 < b.2.1 ∨ (a.2.1 = b.2.1 ∧ (a.1 < b.1 ∨ (a.1 = b.1 ∧ a.2.2 < b.2.2))))
theorem ltB_iff {a b : Int × Int × Int} : ltB a b = true ↔ ltT a b := by simp [ltB, ltT]
end Go.Proofs.YtmjhfdohcghhoaaGreatDoor
