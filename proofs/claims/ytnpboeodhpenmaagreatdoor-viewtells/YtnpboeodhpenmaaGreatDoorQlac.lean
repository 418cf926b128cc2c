/- A part of the proof of viewTells_holds. -/
import Derived.Test.YtnpboeodhpenmaaGreatDoorQlaa
import Derived.Deep.LoopGhost
import Derived.Deep.DeepCutAuto
import Derived.Deep.CutBlock
namespace Go.Proofs.YtnpboeodhpenmaaGreatDoor
open Go.RowKit

/-- Numbers in a row of memory, as a slice has them. -/
def Row (w : World) (a : Option Addr) (zs : List Int) : Prop :=
  ∀ i (h : i < zs.length), ∃ b off, a = some ⟨b, off, none⟩ ∧ w.cell? ⟨b, off + i, none⟩ = some (.int .i64 zs[i])
theorem Row.kept {w wx : World} {a : Option Addr} {zs : List Int} (h : Row w a zs) (hb : Below w.heap.size w wx) : Row wx a zs := fun i hi => by
  obtain ⟨b, off, e, hc⟩ := h i hi
  exact ⟨b, off, e, cl_kept hb hc⟩

/-- May a mask's numbers be? -/
def maskB (zs : List Int) : Bool := zs.all fun z => decide (0 ≤ z ∧ z ≤ 15)
/-- May a side's length be? -/
def sideB (n : Int) : Bool := decide (1 ≤ n ∧ n ≤ 8)

theorem maySide_any (n : Int) (w : World) :
    Calls Tryz.prog 169 #[.int .i64 n] w fun e w' => e = .returned (.bool (sideB n)) ∧ w' = w := by
  go_enter Tryz.func169, Tryz.ntmps169
  go_wp2
  all_goals
    go_ret
    exact ⟨ret_bool (by rw [Bool.eq_iff_iff]; simp_all [sideB] <;> omega), rfl⟩

theorem mask_at {zs : List Int} (h : maskB zs = false) (hp : ∀ i (hi : i < zs.length), 0 ≤ zs[i] ∧ zs[i] ≤ 15) : False := by
  have : maskB zs = true := by
    simp only [maskB, List.all_eq_true, decide_eq_true_eq]
    intro z hz
    obtain ⟨i, hi, rfl⟩ := List.getElem_of_mem hz
    exact hp i hi
  rw [this] at h
  exact Bool.noConfusion h

set_option maxHeartbeats 1600000 in
theorem mayMask_len (W H : Int) (a : Option Addr) (cap : Nat) (zs : List Int) (c : Value) (w : World) (hW : sideB W = true) (hH : sideB H = true) (hl : ¬ (zs.length : Int) = W * H) :
    Calls Tryz.prog 170 #[.agg #[.int .i64 W, .int .i64 H, .slice a zs.length cap, c]] w fun e w' => e = .returned (.bool false) ∧ ∃ o, w' = w.alloc o := by
  have b1 : 1 ≤ W ∧ W ≤ 8 := by simpa [sideB] using hW
  have b2 : 1 ≤ H ∧ H ≤ 8 := by simpa [sideB] using hH
  have hm : 0 ≤ W * H ∧ W * H ≤ 64 := by
    have h1 : W = 1 ∨ W = 2 ∨ W = 3 ∨ W = 4 ∨ W = 5 ∨ W = 6 ∨ W = 7 ∨ W = 8 := by omega
    rcases h1 with rfl | rfl | rfl | rfl | rfl | rfl | rfl | rfl <;> omega
  go_enter Tryz.func170, Tryz.ntmps170
  go_wp2
  go_ret
  exact ⟨rfl, _, rfl⟩

set_option maxHeartbeats 1600000 in
theorem mayMask_any (W H : Int) (a : Option Addr) (cap : Nat) (zs : List Int) (c : Value) (w : World) (hW : sideB W = true) (hH : sideB H = true) (hr : Row w a zs) (hl : (zs.length : Int) = W * H) :
    Calls Tryz.prog 170 #[.agg #[.int .i64 W, .int .i64 H, .slice a zs.length cap, c]] w fun e w' => e = .returned (.bool (maskB zs)) ∧ ∃ o, w' = w.alloc o := by
  have b1 : 1 ≤ W ∧ W ≤ 8 := by simpa [sideB] using hW
  have b2 : 1 ≤ H ∧ H ≤ 8 := by simpa [sideB] using hH
  have hm : 0 ≤ W * H ∧ W * H ≤ 64 := by
    have h1 : W = 1 ∨ W = 2 ∨ W = 3 ∨ W = 4 ∨ W = 5 ∨ W = 6 ∨ W = 7 ∨ W = 8 := by omega
    rcases h1 with rfl | rfl | rfl | rfl | rfl | rfl | rfl | rfl <;> omega
  have HR : Hid (Row w a zs) := hr
  clear hr
  go_enter Tryz.func170, Tryz.ntmps170
  go_wp2
  go_loopg [17] zs.length (fun g s17 wx => ∃ n : Nat, n ≤ zs.length ∧ g = zs.length - n ∧ s17 = .int .i64 n ∧ (∀ i (hi : i < zs.length), i < n → 0 ≤ zs[i] ∧ zs[i] ≤ 15) ∧ wx = w.alloc (.cells #[.int .i64 W, .int .i64 H, .slice a zs.length cap, c] 25))
  case atStart => exact ⟨0, by omega, rfl, rfl, fun i _ h => by omega, rfl⟩
  case round =>
    obtain ⟨n, hn, rfl, rfl, hp, rfl⟩ := hrel
    have HP : Hid (∀ i (hi : i < zs.length), i < n → 0 ≤ zs[i] ∧ zs[i] ≤ 15) := hp
    clear hp
    by_cases h1 : n < zs.length
    · obtain ⟨b, off, rfl, hc⟩ := HR.out n h1
      have i1 : (n : Int) < (zs.length : Int) := by omega
      have i0 : (0 : Int) ≤ (n : Int) := by omega
      have u1 : (w.alloc (.cells #[.int .i64 W, .int .i64 H, .slice (some ⟨b, off, none⟩) zs.length cap, c] 25)).cell? ⟨b, off + n, none⟩ = some (.int .i64 zs[n]) := al_old hc
      obtain ⟨z, hz⟩ : ∃ z, z = zs[n] := ⟨_, rfl⟩
      rw [← hz] at u1
      clear hc
      by_cases g1 : z < 0
      · have HM : Hid (maskB zs = false) := by
          show maskB zs = false
          simp only [maskB, List.all_eq_false, decide_eq_true_eq]
          exact ⟨zs[n], List.getElem_mem h1, by omega⟩
        go_wp2
        go_ret
        exact ⟨by rw [HM.out]; rfl, _, rfl⟩
      · by_cases g2 : 15 < z
        · have HM : Hid (maskB zs = false) := by
            show maskB zs = false
            simp only [maskB, List.all_eq_false, decide_eq_true_eq]
            exact ⟨zs[n], List.getElem_mem h1, by omega⟩
          go_wp2
          go_ret
          exact ⟨by rw [HM.out]; rfl, _, rfl⟩
        · go_wp2
          go_roundg (zs.length - (n + 1))
          case measure => omega
          case rel =>
            refine ⟨n + 1, by omega, rfl, by go_num, fun i hi h => ?_, rfl⟩
            by_cases e : i = n
            · subst e; omega
            · exact HP.out i hi (by omega)
    · have i1 : ¬ (n : Int) < (zs.length : Int) := by omega
      have HM : Hid (maskB zs = true) := by
        show maskB zs = true
        by_cases h : maskB zs = true
        · exact h
        · exact (mask_at (by simpa using h) (fun i hi => HP.out i hi (by omega))).elim
      go_wp2
      go_ret
      exact ⟨by rw [HM.out]; rfl, _, rfl⟩

/-- By X, then Y. -/
def lessB (a b c d : Int) : Bool := decide (a < c ∨ (a = c ∧ b < d))

set_option maxHeartbeats 800000 in
theorem lessPoint_any (a b c d : Int) (w : World) :
    Calls Tryz.prog 218 #[.agg #[.int .i64 a, .int .i64 b], .agg #[.int .i64 c, .int .i64 d]] w fun r w' => r = .returned (.bool (lessB a b c d)) ∧ ∃ o1 o2, w' = (w.alloc o1).alloc o2 := by
  go_enter Tryz.func218, Tryz.ntmps218
  go_wp2
  all_goals
    go_ret
    exact ⟨ret_bool (by rw [Bool.eq_iff_iff]; simp_all [lessB] <;> omega), _, _, rfl⟩

set_option maxHeartbeats 800000 in
theorem edgeOf_turn (a b c d : Int) (w : World) (h : lessB c d a b = true) :
    Calls Tryz.prog 131 #[.agg #[.int .i64 a, .int .i64 b], .agg #[.int .i64 c, .int .i64 d]] w fun r w' => r = .returned (.agg #[.int .i64 c, .int .i64 d, .int .i64 a, .int .i64 b]) ∧ ∃ o1 o2 o3 o4 o5, w' = ((((w.alloc o1).alloc o2).alloc o3).alloc o4).alloc o5 := by
  go_enter Tryz.func131, Tryz.ntmps131
  go_wp2_with (go_at_call 218; refine (lessPoint_any _ _ _ _ _).mono ?_; rintro r w' ⟨rfl, o1, o2, rfl⟩)
  exact bodyPost_ret (v := .agg #[.int .i64 c, .int .i64 d, .int .i64 a, .int .i64 b]) (by simp [results, Tryz.results131, go_sem]) rfl ⟨rfl, _, _, _, _, _, rfl⟩

set_option maxHeartbeats 800000 in
theorem edgeOf_keep (a b c d : Int) (w : World) (h : lessB c d a b = false) :
    Calls Tryz.prog 131 #[.agg #[.int .i64 a, .int .i64 b], .agg #[.int .i64 c, .int .i64 d]] w fun r w' => r = .returned (.agg #[.int .i64 a, .int .i64 b, .int .i64 c, .int .i64 d]) ∧ ∃ o1 o2 o3 o4 o5, w' = ((((w.alloc o1).alloc o2).alloc o3).alloc o4).alloc o5 := by
  go_enter Tryz.func131, Tryz.ntmps131
  go_wp2_with (go_at_call 218; refine (lessPoint_any _ _ _ _ _).mono ?_; rintro r w' ⟨rfl, o1, o2, rfl⟩)
  exact bodyPost_ret (v := .agg #[.int .i64 a, .int .i64 b, .int .i64 c, .int .i64 d]) (by simp [results, Tryz.results131, go_sem]) rfl ⟨rfl, _, _, _, _, _, rfl⟩

set_option maxHeartbeats 1600000 in
theorem edge_any (a b c d : Int) (w : World) :
    Calls Tryz.prog 307 #[.agg #[.int .i64 a, .int .i64 b], .agg #[.int .i64 c, .int .i64 d]] w fun r w' => r = .returned (if lessB c d a b = true then .agg #[.int .i64 c, .int .i64 d, .int .i64 a, .int .i64 b] else .agg #[.int .i64 a, .int .i64 b, .int .i64 c, .int .i64 d]) ∧ ∃ o1 o2 o3, w' = ((w.alloc o1).alloc o2).alloc o3 := by
  by_cases h1 : c < a
  · have e : lessB c d a b = true := by simp [lessB, h1]
    rw [if_pos e]
    clear e
    go_enter Tryz.func307, Tryz.ntmps307
    go_wp2
    exact bodyPost_ret (v := .agg #[.int .i64 c, .int .i64 d, .int .i64 a, .int .i64 b]) (by simp [results, Tryz.results307, go_sem]) rfl ⟨rfl, _, _, _, rfl⟩
  by_cases h2 : c = a
  · subst h2
    by_cases h3 : d < b
    · have e : lessB c d c b = true := by simp [lessB, h3]
      rw [if_pos e]
      clear e
      go_enter Tryz.func307, Tryz.ntmps307
      go_wp2
      exact bodyPost_ret (v := .agg #[.int .i64 c, .int .i64 d, .int .i64 c, .int .i64 b]) (by simp [results, Tryz.results307, go_sem]) rfl ⟨rfl, _, _, _, rfl⟩
    · have e : ¬ lessB c d c b = true := by simp [lessB, h3]
      rw [if_neg e]
      clear e
      go_enter Tryz.func307, Tryz.ntmps307
      go_wp2
      exact bodyPost_ret (v := .agg #[.int .i64 c, .int .i64 b, .int .i64 c, .int .i64 d]) (by simp [results, Tryz.results307, go_sem]) rfl ⟨rfl, _, _, _, rfl⟩
  · have e : ¬ lessB c d a b = true := by simp [lessB, h1, h2]
    rw [if_neg e]
    clear e
    go_enter Tryz.func307, Tryz.ntmps307
    go_wp2
    exact bodyPost_ret (v := .agg #[.int .i64 a, .int .i64 b, .int .i64 c, .int .i64 d]) (by simp [results, Tryz.results307, go_sem]) rfl ⟨rfl, _, _, _, rfl⟩

/-- The four numbers of the edge between two points. -/
def eA (a b c d : Int) : Int := if lessB c d a b = true then c else a
def eB (a b c d : Int) : Int := if lessB c d a b = true then d else b
def eC (a b c d : Int) : Int := if lessB c d a b = true then a else c
def eD (a b c d : Int) : Int := if lessB c d a b = true then b else d

theorem edge_num (a b c d : Int) (w : World) :
    Calls Tryz.prog 307 #[.agg #[.int .i64 a, .int .i64 b], .agg #[.int .i64 c, .int .i64 d]] w fun r w' => r = .returned (.agg #[.int .i64 (eA a b c d), .int .i64 (eB a b c d), .int .i64 (eC a b c d), .int .i64 (eD a b c d)]) ∧ ∃ o1 o2 o3, w' = ((w.alloc o1).alloc o2).alloc o3 := by
  refine (edge_any a b c d w).mono ?_
  rintro r w' ⟨rfl, h⟩
  refine ⟨?_, h⟩
  cases e : lessB c d a b <;> simp [eA, eB, eC, eD, e]

theorem edgeOf_num (a b c d : Int) (w : World) :
    Calls Tryz.prog 131 #[.agg #[.int .i64 a, .int .i64 b], .agg #[.int .i64 c, .int .i64 d]] w fun r w' => r = .returned (.agg #[.int .i64 (eA a b c d), .int .i64 (eB a b c d), .int .i64 (eC a b c d), .int .i64 (eD a b c d)]) ∧ ∃ o1 o2 o3 o4 o5, w' = ((((w.alloc o1).alloc o2).alloc o3).alloc o4).alloc o5 := by
  cases e : lessB c d a b
  · refine (edgeOf_keep a b c d w e).mono ?_
    rintro r w' ⟨rfl, h⟩
    exact ⟨by simp [eA, eB, eC, eD, e], h⟩
  · refine (edgeOf_turn a b c d w e).mono ?_
    rintro r w' ⟨rfl, h⟩
    exact ⟨by simp [eA, eB, eC, eD, e], h⟩


def mapB (a b c d e f : Int) : Bool := ((unitB a && decide (b = 0) && decide (c = 0) && unitB d) || (decide (a = 0) && unitB b && unitB c && decide (d = 0))) && evenB e && evenB f

set_option maxHeartbeats 3200000 in
theorem mayMap_any (a b c d e f : Int) (w : World) :
    Calls Tryz.prog 87 #[.agg #[.int .i64 a, .int .i64 b, .int .i64 c, .int .i64 d, .int .i64 e, .int .i64 f]] w fun r w' => r = .returned (.bool (mapB a b c d e f)) ∧ ∃ o, w' = w.alloc o := by
  go_enter Tryz.func87, Tryz.ntmps87
  go_wp2_with (first | (go_at_call 174; refine (unit_any _ _).mono ?_; rintro e w' ⟨rfl, rfl⟩) | (go_at_call 175; refine (evenPlace_any _ _).mono ?_; rintro e w' ⟨rfl, rfl⟩))
  all_goals
    go_ret
    exact ⟨ret_bool (by simp_all [mapB]), _, rfl⟩
end Go.Proofs.YtnpboeodhpenmaaGreatDoor
