/- A sheet's cells: may they be? -/
import Derived.Test.YtmjneoaciopioaaDoorQlac
import Derived.Deep.LoopGhost
import Derived.Deep.DeepCutAuto
import Derived.Deep.CutBlock
namespace Go.Proofs.YtmjneoaciopioaaDoor
open Go.RowKit

/-- Numbers in a row of memory, as a slice has them. -/
def Row (w : World) (a : Option Addr) (zs : List Int) : Prop :=
  ∀ i (h : i < zs.length), ∃ b off, a = some ⟨b, off, none⟩ ∧ w.cell? ⟨b, off + i, none⟩ = some (.int .i64 zs[i])
theorem Row.kept {w wx : World} {a : Option Addr} {zs : List Int} (h : Row w a zs) (hb : Below w.heap.size w wx) : Row wx a zs := fun i hi => by
  obtain ⟨b, off, e, hc⟩ := h i hi
  exact ⟨b, off, e, cl_kept hb hc⟩

/-- May a mask's numbers be? -/
def maskB (zs : List Int) : Bool := zs.all fun z => decide (0 ≤ z ∧ z ≤ 15)
/-- May a side's length be? -/
def sideB (n : Int) : Bool := decide (1 ≤ n ∧ n ≤ 8)

theorem maySide_any (n : Int) (w : World) :
    Calls Tryd.prog 48 #[.int .i64 n] w fun e w' => e = .returned (.bool (sideB n)) ∧ w' = w := by
  go_enter Tryd.func48, Tryd.ntmps48
  go_wp2
  all_goals
    go_ret
    exact ⟨ret_bool (by rw [Bool.eq_iff_iff]; simp_all [sideB] <;> omega), rfl⟩

theorem mask_at {zs : List Int} (h : maskB zs = false) (hp : ∀ i (hi : i < zs.length), 0 ≤ zs[i] ∧ zs[i] ≤ 15) : False := by
  have : maskB zs = true := by
    simp only [maskB, List.all_eq_true, decide_eq_true_eq]
    intro z hz
    obtain ⟨i, hi, rfl⟩ := List.getElem_of_mem hz
    exact hp i hi
  rw [this] at h
  exact Bool.noConfusion h

set_option maxHeartbeats 1600000 in
theorem mayMask_len (W H : Int) (a : Option Addr) (cap : Nat) (zs : List Int) (c : Value) (w : World) (hW : sideB W = true) (hH : sideB H = true) (hl : ¬ (zs.length : Int) = W * H) :
    Calls Tryd.prog 49 #[.agg #[.int .i64 W, .int .i64 H, .slice a zs.length cap, c]] w fun e w' => e = .returned (.bool false) ∧ ∃ o, w' = w.alloc o := by
  have b1 : 1 ≤ W ∧ W ≤ 8 := by simpa [sideB] using hW
  have b2 : 1 ≤ H ∧ H ≤ 8 := by simpa [sideB] using hH
  have hm : 0 ≤ W * H ∧ W * H ≤ 64 := by
    have h1 : W = 1 ∨ W = 2 ∨ W = 3 ∨ W = 4 ∨ W = 5 ∨ W = 6 ∨ W = 7 ∨ W = 8 := by omega
    rcases h1 with rfl | rfl | rfl | rfl | rfl | rfl | rfl | rfl <;> omega
  go_enter Tryd.func49, Tryd.ntmps49
  go_wp2
  go_ret
  exact ⟨rfl, _, rfl⟩

set_option maxHeartbeats 1600000 in
theorem mayMask_any (W H : Int) (a : Option Addr) (cap : Nat) (zs : List Int) (c : Value) (w : World) (hW : sideB W = true) (hH : sideB H = true) (hr : Row w a zs) (hl : (zs.length : Int) = W * H) :
    Calls Tryd.prog 49 #[.agg #[.int .i64 W, .int .i64 H, .slice a zs.length cap, c]] w fun e w' => e = .returned (.bool (maskB zs)) ∧ ∃ o, w' = w.alloc o := by
  have b1 : 1 ≤ W ∧ W ≤ 8 := by simpa [sideB] using hW
  have b2 : 1 ≤ H ∧ H ≤ 8 := by simpa [sideB] using hH
  have hm : 0 ≤ W * H ∧ W * H ≤ 64 := by
    have h1 : W = 1 ∨ W = 2 ∨ W = 3 ∨ W = 4 ∨ W = 5 ∨ W = 6 ∨ W = 7 ∨ W = 8 := by omega
    rcases h1 with rfl | rfl | rfl | rfl | rfl | rfl | rfl | rfl <;> omega
  have HR : Hid (Row w a zs) := hr
  clear hr
  go_enter Tryd.func49, Tryd.ntmps49
  go_wp2
  go_loopg [17] zs.length (fun g s17 wx => ∃ n : Nat, n ≤ zs.length ∧ g = zs.length - n ∧ s17 = .int .i64 n ∧ (∀ i (hi : i < zs.length), i < n → 0 ≤ zs[i] ∧ zs[i] ≤ 15) ∧ wx = w.alloc (.cells #[.int .i64 W, .int .i64 H, .slice a zs.length cap, c] 25))
  case atStart => exact ⟨0, by omega, rfl, rfl, fun i _ h => by omega, rfl⟩
  case round =>
    obtain ⟨n, hn, rfl, rfl, hp, rfl⟩ := hrel
    have HP : Hid (∀ i (hi : i < zs.length), i < n → 0 ≤ zs[i] ∧ zs[i] ≤ 15) := hp
    clear hp
    by_cases h1 : n < zs.length
    · obtain ⟨b, off, rfl, hc⟩ := HR.out n h1
      have i1 : (n : Int) < (zs.length : Int) := by omega
      have i0 : (0 : Int) ≤ (n : Int) := by omega
      have u1 : (w.alloc (.cells #[.int .i64 W, .int .i64 H, .slice (some ⟨b, off, none⟩) zs.length cap, c] 25)).cell? ⟨b, off + n, none⟩ = some (.int .i64 zs[n]) := al_old hc
      obtain ⟨z, hz⟩ : ∃ z, z = zs[n] := ⟨_, rfl⟩
      rw [← hz] at u1
      clear hc
      by_cases g1 : z < 0
      · have HM : Hid (maskB zs = false) := by
          show maskB zs = false
          simp only [maskB, List.all_eq_false, decide_eq_true_eq]
          exact ⟨zs[n], List.getElem_mem h1, by omega⟩
        go_wp2
        go_ret
        exact ⟨by rw [HM.out]; rfl, _, rfl⟩
      · by_cases g2 : 15 < z
        · have HM : Hid (maskB zs = false) := by
            show maskB zs = false
            simp only [maskB, List.all_eq_false, decide_eq_true_eq]
            exact ⟨zs[n], List.getElem_mem h1, by omega⟩
          go_wp2
          go_ret
          exact ⟨by rw [HM.out]; rfl, _, rfl⟩
        · go_wp2
          go_roundg (zs.length - (n + 1))
          case measure => omega
          case rel =>
            refine ⟨n + 1, by omega, rfl, by go_num, fun i hi h => ?_, rfl⟩
            by_cases e : i = n
            · subst e; omega
            · exact HP.out i hi (by omega)
    · have i1 : ¬ (n : Int) < (zs.length : Int) := by omega
      have HM : Hid (maskB zs = true) := by
        show maskB zs = true
        by_cases h : maskB zs = true
        · exact h
        · exact (mask_at (by simpa using h) (fun i hi => HP.out i hi (by omega))).elim
      go_wp2
      go_ret
      exact ⟨by rw [HM.out]; rfl, _, rfl⟩
end Go.Proofs.YtmjneoaciopioaaDoor
