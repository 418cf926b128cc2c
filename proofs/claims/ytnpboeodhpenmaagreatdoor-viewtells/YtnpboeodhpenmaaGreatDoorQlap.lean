/- A part of the proof of viewTells_holds. -/
import Derived.Test.YtnpboeodhpenmaaGreatDoorQlao
import Derived.Test.YtnpboeodhpenmaaGreatDoorQlae
import Derived.Test.YtnpboeodhpenmaaGreatDoorQlaa
import Derived.Test.YtnpboeodhpenmaaGreatDoorQlai
namespace Go.Proofs.YtnpboeodhpenmaaGreatDoor
open Go.RowKit
attribute [local go_sem ↓] Go.wp_at_zero Go.wp_at_succ

/-- Three ways. -/
def cmp3 (a b : Int) : Int := if a < b then -1 else if b < a then 1 else 0
def or2 (m n : Int) : Int := if m = 0 then n else m
def cmpP (a b c d : Int) : Int := or2 (cmp3 a c) (cmp3 b d)
def cmpE (a b c d p q r s : Int) : Int := or2 (cmpP a b p q) (cmpP c d r s)

theorem isNaN_any (n : Int) (w : World) : Calls Tryz.prog 110 #[.int .i64 n] w fun e w' => e = .returned (.bool false) ∧ w' = w := by
  go_enter Tryz.func110, Tryz.ntmps110
  go_wp2
  go_ret
  exact ⟨rfl, rfl⟩
theorem compare_any (a b : Int) (w : World) : Calls Tryz.prog 44 #[.int .i64 a, .int .i64 b] w fun e w' => e = .returned (.int .i64 (cmp3 a b)) ∧ w' = w := by
  go_enter Tryz.func44, Tryz.ntmps44
  go_wp2_with (go_at_call 110; refine (isNaN_any _ _).mono ?_; rintro e w' ⟨rfl, rfl⟩)
  all_goals
    go_ret
    exact ⟨ret_int (by unfold cmp3; split <;> (try split) <;> omega), rfl⟩
set_option maxHeartbeats 800000 in
theorem or2_any (m n : Int) (g cap : Nat) (w : World) (h0 : w.cell? ⟨g, 0, none⟩ = some (.int .i64 m)) (h1 : w.cell? ⟨g, 1, none⟩ = some (.int .i64 n)) :
    Calls Tryz.prog 42 #[.slice (some ⟨g, 0, none⟩) 2 cap] w fun e w' => e = .returned (.int .i64 (or2 m n)) ∧ w' = w := by
  go_enter Tryz.func42, Tryz.ntmps42
  go_wp2
  go_loopg [8] 2 (fun k s8 wx => ∃ i : Int, 0 ≤ i ∧ i ≤ 2 ∧ (k : Int) = 2 - i ∧ s8 = .int .i64 i ∧ (1 ≤ i → m = 0) ∧ (2 ≤ i → n = 0) ∧ wx = w)
  case atStart => exact ⟨0, by omega, by omega, by omega, rfl, by omega, by omega, rfl⟩
  case round =>
    obtain ⟨i, i0, i2, hg, rfl, hm, hn, rfl⟩ := hrel
    have hi : i = 0 ∨ i = 1 ∨ i = 2 := by omega
    rcases hi with rfl | rfl | rfl
    · by_cases e : m = 0
      · have HE : Hid (m = 0) := e
        go_wp2
        go_roundg 1
        case measure => omega
        case rel => exact ⟨1, by omega, by omega, by omega, by go_num, fun _ => HE.out, by omega, rfl⟩
      · have HE : Hid (or2 m n = m) := by show or2 m n = m; simp [or2, e]
        have e' : (m == 0) = false := by simpa using e
        go_wp2
        go_ret
        exact ⟨ret_int HE.out.symm, rfl⟩
    · have hm0 := hm (by omega)
      have HM : Hid (m = 0) := hm0
      clear hm0
      by_cases e : n = 0
      · have HE : Hid (n = 0) := e
        go_wp2
        go_roundg 0
        case measure => omega
        case rel => exact ⟨2, by omega, by omega, by omega, by go_num, fun _ => HM.out, fun _ => HE.out, rfl⟩
      · have HE : Hid (or2 m n = n) := by show or2 m n = n; simp [or2, HM.out]
        have e' : (n == 0) = false := by simpa using e
        go_wp2
        go_ret
        exact ⟨ret_int HE.out.symm, rfl⟩
    · have HE : Hid (or2 m n = 0) := by show or2 m n = 0; simp [or2, hm (by omega), hn (by omega)]
      go_wp2
      go_ret
      exact ⟨ret_int HE.out.symm, rfl⟩

set_option maxRecDepth 100000 in
set_option maxHeartbeats 1600000 in
theorem comparePoints_any (a b p q : Int) (w : World) :
    Calls Tryz.prog 109 #[.agg #[.int .i64 a, .int .i64 b], .agg #[.int .i64 p, .int .i64 q]] w fun e w' => e = .returned (.int .i64 (cmpP a b p q)) ∧ Below w.heap.size w w' := by
  go_enter Tryz.func109, Tryz.ntmps109
  go_wp2
  go_region_held3 (fun w' => w'.cell? ⟨w.heap.size, 0, none⟩ = some (.int .i64 a) ∧ w'.cell? ⟨w.heap.size, 1, none⟩ = some (.int .i64 b) ∧ w'.cell? ⟨w.heap.size + 1, 0, none⟩ = some (.int .i64 p) ∧ w'.cell? ⟨w.heap.size + 1, 1, none⟩ = some (.int .i64 q))
    ((refine ⟨?_, ?_, ?_, ?_⟩ <;> (repeat' (first | (with_reducible assumption) | (dsimp only; omega) | (simp [go_sem]; done) | (with_reducible refine al_old ?_) | (with_reducible refine dr_old ?_)))))
    (first | (go_at_call 44; refine (compare_any _ _ _).mono ?_; rintro e w2 ⟨rfl, rfl⟩) | (go_at_call 42; refine (or2_any (cmp3 a p) (cmp3 b q) _ _ _ (by first | (simp [go_sem]; done) | (simp [go_sem, World.cell?_alloc_past]; done)) (by first | (simp [go_sem]; done) | (simp [go_sem, World.cell?_alloc_past]; done))).mono ?_; rintro e w3 ⟨rfl, rfl⟩))
  all_goals
    go_wp2
    go_ret
    refine ⟨rfl, ?_⟩
    with_reducible repeat' (first | exact bl_refl _ | refine bl_alloc ?_ | refine bl_drew ?_)

set_option maxRecDepth 100000 in
set_option maxHeartbeats 1600000 in
theorem compareEdges_any (a b c d p q r s : Int) (w : World) :
    Calls Tryz.prog 43 #[.agg #[.int .i64 a, .int .i64 b, .int .i64 c, .int .i64 d], .agg #[.int .i64 p, .int .i64 q, .int .i64 r, .int .i64 s]] w fun e w' => e = .returned (.int .i64 (cmpE a b c d p q r s)) ∧ Below w.heap.size w w' := by
  go_enter Tryz.func43, Tryz.ntmps43
  go_wp2
  go_region_held3 (fun w' => w'.cell? ⟨w.heap.size, 0, none⟩ = some (.int .i64 a) ∧ w'.cell? ⟨w.heap.size, 1, none⟩ = some (.int .i64 b) ∧ w'.cell? ⟨w.heap.size, 2, none⟩ = some (.int .i64 c) ∧ w'.cell? ⟨w.heap.size, 3, none⟩ = some (.int .i64 d) ∧ w'.cell? ⟨w.heap.size + 1, 0, none⟩ = some (.int .i64 p) ∧ w'.cell? ⟨w.heap.size + 1, 1, none⟩ = some (.int .i64 q) ∧ w'.cell? ⟨w.heap.size + 1, 2, none⟩ = some (.int .i64 r) ∧ w'.cell? ⟨w.heap.size + 1, 3, none⟩ = some (.int .i64 s))
    ((refine ⟨?_, ?_, ?_, ?_, ?_, ?_, ?_, ?_⟩ <;> (repeat' (first | (with_reducible assumption) | (dsimp only; omega) | (simp [go_sem]; done) | (with_reducible refine al_old ?_) | (with_reducible refine dr_old ?_)))))
    (first
      | (go_at_call 109; refine (comparePoints_any _ _ _ _ _).mono ?_; rintro e w8 ⟨rfl, hb⟩; have a0_w8 : w8.cell? ⟨w.heap.size, 0, none⟩ = some (.int .i64 a) := cl_kept hb (by first | (with_reducible (repeat (first | assumption | refine dr_old ?_ | refine al_old ?_)); done) | (simp [go_sem]; done)); have a1_w8 : w8.cell? ⟨w.heap.size, 1, none⟩ = some (.int .i64 b) := cl_kept hb (by first | (with_reducible (repeat (first | assumption | refine dr_old ?_ | refine al_old ?_)); done) | (simp [go_sem]; done)); have a2_w8 : w8.cell? ⟨w.heap.size, 2, none⟩ = some (.int .i64 c) := cl_kept hb (by first | (with_reducible (repeat (first | assumption | refine dr_old ?_ | refine al_old ?_)); done) | (simp [go_sem]; done)); have a3_w8 : w8.cell? ⟨w.heap.size, 3, none⟩ = some (.int .i64 d) := cl_kept hb (by first | (with_reducible (repeat (first | assumption | refine dr_old ?_ | refine al_old ?_)); done) | (simp [go_sem]; done)); have e0_w8 : w8.cell? ⟨w.heap.size + 1, 0, none⟩ = some (.int .i64 p) := cl_kept hb (by first | (with_reducible (repeat (first | assumption | refine dr_old ?_ | refine al_old ?_)); done) | (simp [go_sem]; done)); have e1_w8 : w8.cell? ⟨w.heap.size + 1, 1, none⟩ = some (.int .i64 q) := cl_kept hb (by first | (with_reducible (repeat (first | assumption | refine dr_old ?_ | refine al_old ?_)); done) | (simp [go_sem]; done)); have e2_w8 : w8.cell? ⟨w.heap.size + 1, 2, none⟩ = some (.int .i64 r) := cl_kept hb (by first | (with_reducible (repeat (first | assumption | refine dr_old ?_ | refine al_old ?_)); done) | (simp [go_sem]; done)); have e3_w8 : w8.cell? ⟨w.heap.size + 1, 3, none⟩ = some (.int .i64 s) := cl_kept hb (by first | (with_reducible (repeat (first | assumption | refine dr_old ?_ | refine al_old ?_)); done) | (simp [go_sem]; done)); have hq : Below w.heap.size w w8 := (by with_reducible (first | exact bl_via HQ.out hb | exact bl_via (bl_drew HQ.out) hb | exact bl_via (bl_drew (bl_alloc (bl_alloc (bl_refl _)))) hb | exact bl_via (bl_alloc (bl_alloc (bl_refl _))) hb)); have HQ : Hid (Below w.heap.size w w8) := hq; clear hq; clear hb)
      | (go_at_call 42; refine (or2_any (cmpP a b p q) (cmpP c d r s) _ _ _ (by first | (simp [go_sem]; done) | (simp [go_sem, World.cell?_alloc_past]; done)) (by first | (simp [go_sem]; done) | (simp [go_sem, World.cell?_alloc_past]; done))).mono ?_; rintro e w3 ⟨rfl, rfl⟩))
  all_goals
    go_wp2
    go_ret
    refine ⟨rfl, ?_⟩
    with_reducible repeat' (first | exact HQ.out | refine bl_alloc ?_ | refine bl_drew ?_)

attribute [local go_sem ↓] Go.wp_at_zero Go.wp_at_succ

theorem eql25 (a b p q : Int) (w : World) :
    (binOp .eql 40 (.agg #[.int .i64 a, .int .i64 b]) (.agg #[.int .i64 p, .int .i64 q])).run Tryz.prog w = .ok (.bool (decide (a = p ∧ b = q))) w := by
  by_cases h1 : a = p
  · subst h1
    by_cases h2 : b = q
    · subst h2
      simp [go_sem]
    · have e : (b == q) = false := by simpa using h2
      simp [go_sem, e, h2]
  · have e : (a == p) = false := by simpa using h1
    simp [go_sem, e, h1]

/-- By the first point, then by the second. -/
def lessE (a b c d p q r s : Int) : Bool := lessB a b p q || (decide (a = p ∧ b = q) && lessB c d r s)

set_option maxHeartbeats 1600000 in
theorem lessEdge_any (a b c d p q r s : Int) (w : World) :
    Calls Tryz.prog 120 #[.agg #[.int .i64 a, .int .i64 b, .int .i64 c, .int .i64 d], .agg #[.int .i64 p, .int .i64 q, .int .i64 r, .int .i64 s]] w fun e w' => e = .returned (.bool (lessE a b c d p q r s)) ∧ Below w.heap.size w w' := by
  have he := eql25
  cases h1 : lessB a b p q
  · cases h2 : decide (a = p ∧ b = q)
    · have HE : Hid (lessE a b c d p q r s = false) := by show lessE a b c d p q r s = false; simp only [lessE, h1, h2]; rfl
      go_enter Tryz.func120, Tryz.ntmps120
      go_wp2_with (go_at_call 218; refine (lessPoint_any _ _ _ _ _).mono ?_; rintro e w' ⟨rfl, o1, o2, rfl⟩)
      go_ret
      refine ⟨by rw [HE.out]; rfl, ?_⟩
      with_reducible repeat' (first | exact bl_refl _ | refine bl_alloc ?_ | refine bl_drew ?_)
    · have HE : Hid (lessE a b c d p q r s = lessB c d r s) := by show lessE a b c d p q r s = lessB c d r s; simp only [lessE, h1, h2]; simp
      go_enter Tryz.func120, Tryz.ntmps120
      go_wp2_with (go_at_call 218; refine (lessPoint_any _ _ _ _ _).mono ?_; rintro e w' ⟨rfl, o1, o2, rfl⟩)
      go_ret
      refine ⟨by rw [HE.out]; rfl, ?_⟩
      with_reducible repeat' (first | exact bl_refl _ | refine bl_alloc ?_ | refine bl_drew ?_)
  · have HE : Hid (lessE a b c d p q r s = true) := by show lessE a b c d p q r s = true; simp only [lessE, h1]; rfl
    go_enter Tryz.func120, Tryz.ntmps120
    go_wp2_with (go_at_call 218; refine (lessPoint_any _ _ _ _ _).mono ?_; rintro e w' ⟨rfl, o1, o2, rfl⟩)
    go_ret
    refine ⟨by rw [HE.out]; rfl, ?_⟩
    with_reducible repeat' (first | exact bl_refl _ | refine bl_alloc ?_ | refine bl_drew ?_)

/-- Both orders are one. -/
theorem cmpE_less (a b c d p q r s : Int) : cmpE a b c d p q r s < 0 ↔ lessE a b c d p q r s = true := by
  unfold cmpE cmpP or2 cmp3 lessE lessB
  simp only [Bool.or_eq_true, Bool.and_eq_true, decide_eq_true_eq]
  split <;> rename_i h1 <;> (repeat' split at h1) <;> (repeat' split) <;> omega

/-- Where a triangle stands in a list; -1: nowhere. -/
def plc (l : List (Int × Int × Int)) (t : Int × Int × Int) : Int := if t ∈ l then (l.idxOf t : Int) else -1
theorem plc_at {l : List (Int × Int × Int)} {t : Int × Int × Int} {i : Nat} (hi : i < l.length) (he : l[i] = t) (hn : ∀ j (hj : j < l.length), j < i → l[j] ≠ t) : plc l t = i := by
  have hm : t ∈ l := he ▸ List.getElem_mem hi
  have h1 := List.idxOf_lt_length_of_mem hm
  have h2 : l[l.idxOf t] = t := List.getElem_idxOf h1
  have h3 : l.idxOf t = i := by
    rcases Nat.lt_trichotomy (l.idxOf t) i with h | h | h
    · exact absurd h2 (hn _ h1 h)
    · exact h
    · simp [List.idxOf] at h
      obtain ⟨_, hh⟩ := h
      exact absurd he (hh i (Nat.le_refl _))
  simp [plc, hm, h3]
theorem plc_not {l : List (Int × Int × Int)} {t : Int × Int × Int} (hn : ∀ j (hj : j < l.length), l[j] ≠ t) : plc l t = -1 := by
  have hm : ¬ t ∈ l := fun h => by
    obtain ⟨j, hj, e⟩ := List.getElem_of_mem h
    exact hn j hj e
  simp [plc, hm]

set_option maxHeartbeats 1600000 in
theorem placeOf_any (a : Option Addr) (cap : Nat) (l : List (Int × Int × Int)) (x y k : Int) (w : World) (hT : TRow w a l) (hlen : l.length ≤ 256) :
    Calls Tryz.prog 53 #[.slice a l.length cap, .agg #[.int .i64 x, .int .i64 y, .int .i64 k]] w fun e w' => e = .returned (.int .i64 (plc l (x, y, k))) ∧ Below w.heap.size w w' := by
  have he := eql23
  have HT : Hid (TRow w a l) := hT
  clear hT
  go_enter Tryz.func53, Tryz.ntmps53
  go_wp2
  go_loopg [5] l.length (fun g s5 wx => ∃ i : Nat, i ≤ l.length ∧ g = l.length - i ∧ s5 = .int .i64 (i : Int) ∧ (∀ j (hj : j < l.length), j < i → l[j] ≠ (x, y, k)) ∧ (Tr wx w.heap.size x y k ∧ Below w.heap.size w wx))
  case atStart => exact ⟨0, by omega, rfl, rfl, fun j _ h => by omega, by simp [Tr, go_sem], bl_alloc (bl_refl _)⟩
  case round =>
    obtain ⟨i, hi, rfl, rfl, hp, ⟨t0, t1, t2⟩, hB⟩ := hrel
    have HP : Hid (∀ j (hj : j < l.length), j < i → l[j] ≠ (x, y, k)) := hp
    have HB : Hid (Below w.heap.size w wr) := hB
    have HTr : Hid (Tr wr w.heap.size x y k) := ⟨t0, t1, t2⟩
    clear hp hB
    by_cases h1 : i < l.length
    · have i1 : (i : Int) < (l.length : Int) := by omega
      have i0 : (0 : Int) ≤ (i : Int) := by omega
      obtain ⟨g, rfl, c0, c1, c2⟩ := (HT.out.kept HB.out) i h1
      obtain ⟨t, ht⟩ : ∃ t, t = l[i] := ⟨_, rfl⟩
      obtain ⟨X, Y, K⟩ := t
      rw [← ht] at c0 c1 c2
      dsimp only at c0 c1 c2
      have HE : Hid ((X, Y, K) = l[i]) := ht
      clear ht
      have zg : g < wr.heap.size := World.block_lt_of_cell? _ _ c0
      have zt : w.heap.size < wr.heap.size := World.block_lt_of_cell? _ _ t0
      cases hq : sameT X Y K x y k
      · go_wp2
        go_quiet (fail)
        go_wp2
        go_roundg (l.length - (i + 1))
        case measure => omega
        case rel =>
          refine ⟨i + 1, by omega, rfl, by go_num, fun j hj h => ?_, HTr.out, ?_⟩
          · by_cases e : j = i
            · subst e
              rw [← HE.out]
              intro hc
              simp at hc
              simp [sameT, hc] at hq
            · exact HP.out j hj (by omega)
          · with_reducible repeat' (first | exact HB.out | refine bl_drewN ?_ | refine bl_drew ?_)
      · go_wp2
        go_quiet (fail)
        go_wp2
        go_ret
        refine ⟨ret_int ?_, ?_⟩
        · refine (plc_at h1 ?_ HP.out).symm
          rw [← HE.out]
          simpa [sameT] using hq
        · with_reducible repeat' (first | exact HB.out | refine bl_drewN ?_ | refine bl_drew ?_)
    · have i1 : ¬ (i : Int) < (l.length : Int) := by omega
      go_wp2
      go_ret
      exact ⟨ret_int (plc_not (fun j hj => HP.out j hj (by omega))).symm, HB.out⟩
end Go.Proofs.YtnpboeodhpenmaaGreatDoor
namespace Go.Proofs.YtnpboeodhpenmaaGreatDoor
open Go.RowKit Go.ChangeMaps

theorem nodup_atH {α : Type} {l : List α} (h : l.Nodup) {i j : Nat} (hi : i < l.length) (hj : j < l.length) (e : l[i] = l[j]) : i = j := by
  have hp := List.pairwise_iff_getElem.1 h
  rcases Nat.lt_trichotomy i j with q | q | q
  · exact absurd e (hp i j hi hj q)
  · exact q
  · exact absurd e.symm (hp j i hj hi q)
theorem inf98H : (Tryz.prog.info? 107).map (fun i => (i.zero, i.size, i.bytes)) = some (some (.agg #[.int .i64 0, .int .i64 0, .int .i64 0, .slice none 0 0]), 4, 48) := by kernel_rfl
end Go.Proofs.YtnpboeodhpenmaaGreatDoor
namespace Go.Proofs.YtnpboeodhpenmaaGreatDoor
open Go.RowKit
attribute [local go_sem ↓] Go.wp_at_zero Go.wp_at_succ

def cmpT (a b c p q r : Int) : Int := or2 (cmp3 b q) (or2 (cmp3 a p) (cmp3 c r))
set_option maxHeartbeats 800000 in
theorem or3_any (m n l : Int) (g cap : Nat) (w : World) (h0 : w.cell? ⟨g, 0, none⟩ = some (.int .i64 m)) (h1 : w.cell? ⟨g, 1, none⟩ = some (.int .i64 n)) (h2 : w.cell? ⟨g, 2, none⟩ = some (.int .i64 l)) :
    Calls Tryz.prog 42 #[.slice (some ⟨g, 0, none⟩) 3 cap] w fun e w' => e = .returned (.int .i64 (or2 m (or2 n l))) ∧ w' = w := by
  go_enter Tryz.func42, Tryz.ntmps42
  go_wp2
  go_loopg [8] 3 (fun k s8 wx => ∃ i : Int, 0 ≤ i ∧ i ≤ 3 ∧ (k : Int) = 3 - i ∧ s8 = .int .i64 i ∧ (1 ≤ i → m = 0) ∧ (2 ≤ i → n = 0) ∧ (3 ≤ i → l = 0) ∧ wx = w)
  case atStart => exact ⟨0, by omega, by omega, by omega, rfl, by omega, by omega, by omega, rfl⟩
  case round =>
    obtain ⟨i, i0, i2, hg, rfl, hm, hn, hl, rfl⟩ := hrel
    have hi : i = 0 ∨ i = 1 ∨ i = 2 ∨ i = 3 := by omega
    rcases hi with rfl | rfl | rfl | rfl
    · by_cases e : m = 0
      · have HE : Hid (m = 0) := e
        go_wp2
        go_roundg 2
        case measure => omega
        case rel => exact ⟨1, by omega, by omega, by omega, by go_num, fun _ => HE.out, by omega, by omega, rfl⟩
      · have HE : Hid (or2 m (or2 n l) = m) := by show or2 m (or2 n l) = m; simp [or2, e]
        have e' : (m == 0) = false := by simpa using e
        go_wp2
        go_ret
        exact ⟨ret_int HE.out.symm, rfl⟩
    · have HM : Hid (m = 0) := hm (by omega)
      by_cases e : n = 0
      · have HE : Hid (n = 0) := e
        go_wp2
        go_roundg 1
        case measure => omega
        case rel => exact ⟨2, by omega, by omega, by omega, by go_num, fun _ => HM.out, fun _ => HE.out, by omega, rfl⟩
      · have HE : Hid (or2 m (or2 n l) = n) := by show or2 m (or2 n l) = n; simp [or2, HM.out, e]
        have e' : (n == 0) = false := by simpa using e
        go_wp2
        go_ret
        exact ⟨ret_int HE.out.symm, rfl⟩
    · have HM : Hid (m = 0) := hm (by omega)
      have HN : Hid (n = 0) := hn (by omega)
      by_cases e : l = 0
      · have HE : Hid (l = 0) := e
        go_wp2
        go_roundg 0
        case measure => omega
        case rel => exact ⟨3, by omega, by omega, by omega, by go_num, fun _ => HM.out, fun _ => HN.out, fun _ => HE.out, rfl⟩
      · have HE : Hid (or2 m (or2 n l) = l) := by show or2 m (or2 n l) = l; simp [or2, HM.out, HN.out]
        have e' : (l == 0) = false := by simpa using e
        go_wp2
        go_ret
        exact ⟨ret_int HE.out.symm, rfl⟩
    · have HE : Hid (or2 m (or2 n l) = 0) := by show or2 m (or2 n l) = 0; simp [or2, hm (by omega), hn (by omega), hl (by omega)]
      go_wp2
      go_ret
      exact ⟨ret_int HE.out.symm, rfl⟩
set_option maxRecDepth 100000 in
set_option maxHeartbeats 6400000 in
theorem compareTris_any (a b c p q r : Int) (w : World) :
    Calls Tryz.prog 151 #[.agg #[.int .i64 a, .int .i64 b, .int .i64 c], .agg #[.int .i64 p, .int .i64 q, .int .i64 r]] w fun e w' => e = .returned (.int .i64 (cmpT a b c p q r)) ∧ Below w.heap.size w w' := by
  go_enter Tryz.func151, Tryz.ntmps151
  go_wp2
  go_region_held3 (fun w' => w'.cell? ⟨w.heap.size, 0, none⟩ = some (.int .i64 a) ∧ w'.cell? ⟨w.heap.size, 1, none⟩ = some (.int .i64 b) ∧ w'.cell? ⟨w.heap.size, 2, none⟩ = some (.int .i64 c) ∧ w'.cell? ⟨w.heap.size + 1, 0, none⟩ = some (.int .i64 p) ∧ w'.cell? ⟨w.heap.size + 1, 1, none⟩ = some (.int .i64 q) ∧ w'.cell? ⟨w.heap.size + 1, 2, none⟩ = some (.int .i64 r))
    ((refine ⟨?_, ?_, ?_, ?_, ?_, ?_⟩ <;> (repeat' (first | (with_reducible assumption) | (dsimp only; omega) | (simp [go_sem]; done) | (with_reducible refine al_old ?_) | (with_reducible refine dr_old ?_)))))
    (first | (go_at_call 44; refine (compare_any _ _ _).mono ?_; rintro e w2 ⟨rfl, rfl⟩) | (go_at_call 42; refine (or3_any (cmp3 b q) (cmp3 a p) (cmp3 c r) _ _ _ (by first | (simp [go_sem]; done) | (simp [go_sem, World.cell?_alloc_past]; done)) (by first | (simp [go_sem]; done) | (simp [go_sem, World.cell?_alloc_past]; done)) (by first | (simp [go_sem]; done) | (simp [go_sem, World.cell?_alloc_past]; done))).mono ?_; rintro e w3 ⟨rfl, rfl⟩))
  all_goals
    go_wp2
    go_ret
    refine ⟨rfl, ?_⟩
    with_reducible repeat' (first | exact bl_refl _ | refine bl_alloc ?_ | refine bl_drew ?_)

/-- All that lies in stacks. -/
def allS (S : List ((Int × Int × Int) × List (Int × Int × Int))) : List (Int × Int × Int) := S.flatMap fun s => s.2
/-- Stacks as they must be: rising by places, none empty, each triangle where it comes to, none twice in one, and as many as there are. -/
structure StOk (L : List (Int × Int × Int)) (P : Nat → Int × Int × Int) (S : List ((Int × Int × Int) × List (Int × Int × Int))) : Prop where
  ne : ∀ s ∈ S, s.2 ≠ []
  up : ∀ n (h : n + 1 < S.length), ltT S[n].1 S[n + 1].1
  pl : ∀ s ∈ S, ∀ t ∈ s.2, ∃ i, ∃ h : i < L.length, L[i] = t ∧ P i = s.1
  nd : ∀ s ∈ S, s.2.Nodup
  al : (allS S).length = L.length
theorem up_pair {S : List ((Int × Int × Int) × List (Int × Int × Int))} (h : ∀ n (h : n + 1 < S.length), ltT S[n].1 S[n + 1].1) : S.Pairwise fun a b => ltT a.1 b.1 := by
  rw [List.pairwise_iff_getElem]
  intro i j hi hj hij
  obtain ⟨d, rfl⟩ : ∃ d, j = i + 1 + d := ⟨j - (i + 1), by omega⟩
  clear hij
  induction d with
  | zero => exact h i hj
  | succ d ih => exact ltT_trans _ _ _ (ih (by omega)) (h (i + 1 + d) hj)
theorem sub_lenT : ∀ (F L : List (Int × Int × Int)), F.Nodup → (∀ x ∈ F, x ∈ L) → F.length ≤ L.length
  | [], _, _, _ => by simp
  | a :: F, L, hn, hs => by
    rw [List.nodup_cons] at hn
    have h1 := sub_lenT F (L.erase a) hn.2 fun x hx => (List.mem_erase_of_ne (fun e : x = a => hn.1 (e ▸ hx))).2 (hs x (List.mem_cons_of_mem _ hx))
    have ha := hs a (by simp)
    have h2 := List.length_erase_of_mem ha
    have h3 := List.length_pos_of_mem ha
    simp only [List.length_cons]
    omega
theorem StOk.nodup {L : List (Int × Int × Int)} {P : Nat → Int × Int × Int} {S : List ((Int × Int × Int) × List (Int × Int × Int))} (hL : L.Nodup) (h : StOk L P S) : (allS S).Nodup := by
  unfold allS List.Nodup
  rw [List.pairwise_flatMap]
  refine ⟨h.nd, ?_⟩
  have hp := up_pair h.up
  rw [List.pairwise_iff_getElem] at hp ⊢
  intro i j hi hj hij x hx y hy e
  subst e
  obtain ⟨a, ha, e1, e2⟩ := h.pl _ (List.getElem_mem hi) x hx
  obtain ⟨b, hb, e3, e4⟩ := h.pl _ (List.getElem_mem hj) x hy
  have := nodup_atH hL ha hb (e1.trans e3.symm)
  subst this
  have h3 := hp i j hi hj hij
  rw [← e2, ← e4] at h3
  exact ltT_irr _ h3
theorem StOk.mem {L : List (Int × Int × Int)} {P : Nat → Int × Int × Int} {S : List ((Int × Int × Int) × List (Int × Int × Int))} (h : StOk L P S) : ∀ t ∈ allS S, t ∈ L := fun t ht => by
  unfold allS at ht
  rw [List.mem_flatMap] at ht
  obtain ⟨s, hs, ht⟩ := ht
  obtain ⟨i, hi, e, _⟩ := h.pl s hs t ht
  exact e ▸ List.getElem_mem hi
/-- Then each one lies in some stack. -/
theorem StOk.cov {L : List (Int × Int × Int)} {P : Nat → Int × Int × Int} {S : List ((Int × Int × Int) × List (Int × Int × Int))} (hL : L.Nodup) (h : StOk L P S) : ∀ t ∈ L, t ∈ allS S := fun t ht => by
  refine Classical.byContradiction fun hno => ?_
  have := sub_lenT (t :: allS S) L (List.nodup_cons.2 ⟨hno, h.nodup hL⟩) fun x hx => by
    rcases List.mem_cons.1 hx with e | hx
    · exact e ▸ ht
    · exact h.mem x hx
  simp only [List.length_cons] at this
  have := h.al
  omega
theorem allS_take {S : List ((Int × Int × Int) × List (Int × Int × Int))} {n : Nat} (h : n < S.length) : allS (S.take (n + 1)) = allS (S.take n) ++ S[n].2 := by
  unfold allS
  rw [List.take_succ_eq_append_getElem h, List.flatMap_append]
  simp
theorem allS_cut {S : List ((Int × Int × Int) × List (Int × Int × Int))} {n : Nat} (h : n < S.length) : ∃ r, allS S = allS (S.take n) ++ S[n].2 ++ r := by
  refine ⟨allS (S.drop (n + 1)), ?_⟩
  rw [← allS_take h]
  unfold allS
  rw [← List.flatMap_append, List.take_append_drop]
/-- What comes a second time. -/
theorem twice_not {S : List ((Int × Int × Int) × List (Int × Int × Int))} {n k : Nat} (h : n < S.length) (hk : k < S[n].2.length) (hm : S[n].2[k] ∈ allS (S.take n) ++ S[n].2.take k) : ¬ (allS S).Nodup := fun hn => by
  obtain ⟨r, e⟩ := allS_cut h
  rw [e] at hn
  have e2 : S[n].2 = S[n].2.take k ++ [S[n].2[k]] ++ S[n].2.drop (k + 1) := by
    rw [List.append_assoc, List.singleton_append, List.getElem_cons_drop, List.take_append_drop]
  rw [e2, ← List.append_assoc, ← List.append_assoc] at hn
  have h1 := (List.nodup_append.1 (List.nodup_append.1 (List.nodup_append.1 hn).1).1)
  exact h1.2.2 _ hm _ (by simp) rfl
/-- The triangles of a sheet rise. -/
theorem tk_up (zs : List Int) (W x y : Nat) (n : Nat) : (tk zs W x y n).Pairwise ltT := by
  unfold tk
  rw [List.pairwise_map]
  refine List.Pairwise.filter _ (List.pairwise_lt_range.imp ?_)
  intro a b h
  unfold ltT
  dsimp only
  omega
theorem ty_up (zs : List Int) (W n : Nat) : (ty zs W n).Pairwise ltT := by
  unfold ty tx
  rw [List.pairwise_flatMap]
  refine ⟨fun y _ => ?_, List.pairwise_lt_range.imp ?_⟩
  · rw [List.pairwise_flatMap]
    refine ⟨fun x _ => tk_up _ _ _ _ _, List.pairwise_lt_range.imp ?_⟩
    intro a b h t ht u hu
    unfold tk at ht hu
    rw [List.mem_map] at ht hu
    obtain ⟨i, _, rfl⟩ := ht
    obtain ⟨j, _, rfl⟩ := hu
    unfold ltT
    dsimp only
    omega
  · intro a b h t ht u hu
    rw [List.mem_flatMap] at ht hu
    obtain ⟨p, _, ht⟩ := ht
    obtain ⟨q, _, hu⟩ := hu
    unfold tk at ht hu
    rw [List.mem_map] at ht hu
    obtain ⟨i, _, rfl⟩ := ht
    obtain ⟨j, _, rfl⟩ := hu
    unfold ltT
    dsimp only
    omega

/-- The first so many stacks are as they must be. -/
structure Pre (L : List (Int × Int × Int)) (P : Nat → Int × Int × Int) (S : List ((Int × Int × Int) × List (Int × Int × Int))) (m : Nat) : Prop where
  ne : ∀ n (h : n < S.length), n < m → S[n].2 ≠ []
  up : ∀ n (h : n + 1 < S.length), n + 1 < m → ltT S[n].1 S[n + 1].1
  pl : ∀ n (h : n < S.length), n < m → ∀ t ∈ S[n].2, ∃ i, ∃ h : i < L.length, L[i] = t ∧ P i = S[n].1
  nd : (allS (S.take m)).Nodup
/-- And of the next one the first so many triangles. -/
structure Pri (L : List (Int × Int × Int)) (P : Nat → Int × Int × Int) (S : List ((Int × Int × Int) × List (Int × Int × Int))) (m k : Nat) (hm : m < S.length) : Prop where
  pre : Pre L P S m
  ne : S[m].2 ≠ []
  up : ∀ q (h : q + 1 = m), ltT (S[q]'(by omega)).1 S[m].1
  pl : ∀ j (h : j < S[m].2.length), j < k → ∃ i, ∃ h' : i < L.length, L[i] = S[m].2[j] ∧ P i = S[m].1
  nd : (allS (S.take m) ++ S[m].2.take k).Nodup
theorem pre_zero (L : List (Int × Int × Int)) (P : Nat → Int × Int × Int) (S : List ((Int × Int × Int) × List (Int × Int × Int))) : Pre L P S 0 :=
  ⟨fun n _ h => by omega, fun n _ h => by omega, fun n _ h => by omega, by simp [allS]⟩
theorem Pre.start {L : List (Int × Int × Int)} {P : Nat → Int × Int × Int} {S : List ((Int × Int × Int) × List (Int × Int × Int))} {m : Nat} (h : Pre L P S m) (hm : m < S.length) (hne : S[m].2 ≠ []) (hup : ∀ q (h : q + 1 = m), ltT (S[q]'(by omega)).1 S[m].1) : Pri L P S m 0 hm :=
  ⟨h, hne, hup, fun j _ h => by omega, by simpa using h.nd⟩
theorem Pri.step {L : List (Int × Int × Int)} {P : Nat → Int × Int × Int} {S : List ((Int × Int × Int) × List (Int × Int × Int))} {m k : Nat} {hm : m < S.length} (h : Pri L P S m k hm) (hk : k < S[m].2.length) (hl : ∃ i, ∃ h' : i < L.length, L[i] = S[m].2[k] ∧ P i = S[m].1) (hn : S[m].2[k] ∉ allS (S.take m) ++ S[m].2.take k) : Pri L P S m (k + 1) hm := by
  refine ⟨h.pre, h.ne, h.up, fun j hj hjk => ?_, ?_⟩
  · by_cases e : j = k
    · subst e
      exact hl
    · exact h.pl j hj (by omega)
  · rw [List.take_succ_eq_append_getElem hk, ← List.append_assoc]
    rw [List.nodup_append]
    refine ⟨h.nd, by simp, fun a ha b hb e => ?_⟩
    simp at hb
    subst hb
    exact hn (e ▸ ha)
theorem Pri.fin {L : List (Int × Int × Int)} {P : Nat → Int × Int × Int} {S : List ((Int × Int × Int) × List (Int × Int × Int))} {m k : Nat} {hm : m < S.length} (h : Pri L P S m k hm) (hk : k = S[m].2.length) : Pre L P S (m + 1) := by
  refine ⟨fun n hn hnm => ?_, fun n hn hnm => ?_, fun n hn hnm t ht => ?_, ?_⟩
  · by_cases e : n = m
    · subst e
      exact h.ne
    · exact h.pre.ne n hn (by omega)
  · by_cases e : n + 1 = m
    · subst e
      exact h.up n rfl
    · exact h.pre.up n hn (by omega)
  · by_cases e : n = m
    · subst e
      obtain ⟨j, hj, e⟩ := List.getElem_of_mem ht
      rw [← e]
      exact h.pl j hj (by omega)
    · exact h.pre.pl n hn (by omega) t ht
  · have := h.nd
    rw [hk, List.take_length] at this
    rw [allS_take hm]
    exact this
theorem Pre.ok {L : List (Int × Int × Int)} {P : Nat → Int × Int × Int} {S : List ((Int × Int × Int) × List (Int × Int × Int))} {m : Nat} (h : Pre L P S m) (hm : m = S.length) (hal : (allS S).length = L.length) : StOk L P S := by
  subst hm
  refine ⟨fun s hs => ?_, fun n hn => h.up n hn hn, fun s hs => ?_, fun s hs => ?_, hal⟩
  · obtain ⟨n, hn, e⟩ := List.getElem_of_mem hs
    rw [← e]
    exact h.ne n hn hn
  · obtain ⟨n, hn, e⟩ := List.getElem_of_mem hs
    rw [← e]
    exact h.pl n hn hn
  · have := h.nd
    rw [List.take_length] at this
    unfold allS List.Nodup at this
    rw [List.pairwise_flatMap] at this
    exact this.1 s hs
theorem Pre.all {L : List (Int × Int × Int)} {P : Nat → Int × Int × Int} {S : List ((Int × Int × Int) × List (Int × Int × Int))} {m : Nat} (hL : L.Nodup) (h : Pre L P S m) (hm : m = S.length) (hc : ∀ t ∈ L, t ∈ allS S) : StOk L P S := by
  refine h.ok hm ?_
  subst hm
  have hn := h.nd
  rw [List.take_length] at hn
  have h1 := sub_lenT (allS S) L hn fun t ht => by
    unfold allS at ht
    rw [List.mem_flatMap] at ht
    obtain ⟨s, hs, ht⟩ := ht
    obtain ⟨n, hn, e⟩ := List.getElem_of_mem hs
    obtain ⟨i, hi, e2, _⟩ := h.pl n hn hn t (e ▸ ht)
    exact e2 ▸ List.getElem_mem hi
  have h2 := sub_lenT L (allS S) hL hc
  omega
/-- What is none in its own stack is in no stack ahead. -/
theorem Pri.none {L : List (Int × Int × Int)} {P : Nat → Int × Int × Int} {S : List ((Int × Int × Int) × List (Int × Int × Int))} {m k : Nat} {hm : m < S.length} (hL : L.Nodup) (h : Pri L P S m k hm) {t : Int × Int × Int} (hl : ∃ i, ∃ h' : i < L.length, L[i] = t ∧ P i = S[m].1) (hn : t ∉ S[m].2.take k) : t ∉ allS (S.take m) ++ S[m].2.take k := fun ht => by
  rcases List.mem_append.1 ht with ht | ht
  · unfold allS at ht
    rw [List.mem_flatMap] at ht
    obtain ⟨s, hs, ht⟩ := ht
    obtain ⟨n, hn', e⟩ := List.getElem_of_mem hs
    rw [List.getElem_take] at e
    rw [List.length_take] at hn'
    have hnm : n < m := by omega
    have hnl : n < S.length := by omega
    obtain ⟨i, hi, e1, e2⟩ := h.pre.pl n hnl hnm t (e ▸ ht)
    obtain ⟨j, hj, e3, e4⟩ := hl
    have := nodup_atH hL hi hj (e1.trans e3.symm)
    subst this
    have hlt : ∀ d q, q + 1 + d = m → ∀ hq : q < S.length, ltT S[q].1 S[m].1 := fun d => by
      induction d with
      | zero => exact fun q e hq => h.up q e
      | succ d ih => exact fun q e hq => ltT_trans _ _ _ (h.pre.up q (by omega) (by omega)) (ih (q + 1) (by omega) (by omega))
    have := hlt (m - (n + 1)) n (by omega) hnl
    rw [← e2, ← e4] at this
    exact ltT_irr _ this
  · exact hn ht
/-- Where it goes wrong. -/
theorem not_ne {L : List (Int × Int × Int)} {P : Nat → Int × Int × Int} {S : List ((Int × Int × Int) × List (Int × Int × Int))} {m : Nat} (hm : m < S.length) (h : S[m].2.length = 0) : ¬ StOk L P S := fun k => k.ne _ (List.getElem_mem hm) (List.eq_nil_of_length_eq_zero h)
theorem not_nd {L : List (Int × Int × Int)} {P : Nat → Int × Int × Int} {S : List ((Int × Int × Int) × List (Int × Int × Int))} {m j : Nat} (hL : L.Nodup) (hm : m < S.length) (hj : j < S[m].2.length) (h : S[m].2[j] ∈ allS (S.take m) ++ S[m].2.take j) : ¬ StOk L P S := fun k => twice_not hm hj h (k.nodup hL)
theorem up_nodup {L : List (Int × Int × Int)} (h : L.Pairwise ltT) : L.Nodup := by
  unfold List.Nodup
  refine h.imp ?_
  intro a b hab e
  rw [e] at hab
  exact ltT_irr b hab
end Go.Proofs.YtnpboeodhpenmaaGreatDoor
namespace Go.Proofs.YtnpboeodhpenmaaGreatDoor.Qm
open Go.RowKit Go.ChangeMaps

/-- A spot as a key. -/
def ek (e : Int × Int) : Value := .agg #[.int .i64 e.1, .int .i64 e.2]
/-- An entry: its key, its value, its stamp. -/
def toE (x : (Int × Int) × Value × Nat) : MapEntry := ⟨ek x.1, x.2.1, x.2.2⟩
theorem eql25 (a b p q : Int) (w : World) :
    (binOp .eql 242 (.agg #[.int .i64 a, .int .i64 b]) (.agg #[.int .i64 p, .int .i64 q])).run Tryz.prog w = .ok (.bool (decide (a = p ∧ b = q))) w := by
  by_cases h1 : a = p
  · subst h1
    by_cases h2 : b = q
    · subst h2
      simp [go_sem]
    · have e : (b == q) = false := by simpa using h2
      simp [go_sem, e, h2]
  · have e : (a == p) = false := by simpa using h1
    simp [go_sem, e, h1]

theorem check25 (em : Bool) (n : Nat) (a b : Int) (w : World) : (Instr.checkKey em (n + 2) 242 (.agg #[.int .i64 a, .int .i64 b])).run Tryz.prog w = .ok () w := by
  rw [show n + 2 = (n + 1) + 1 by omega]
  unfold Instr.checkKey
  simp [run_underlying Tryz.underlying242, go_sem, checkInt]
theorem equal27 (a b : Int × Int) (w : World) : (Op.equal 242 (ek a) (ek b)).run Tryz.prog w = .ok (decide (a = b)) w := by
  obtain ⟨a0, a1⟩ := a
  obtain ⟨b0, b1⟩ := b
  have h := eql25 a0 a1 b0 b1 w
  have e : decide (a0 = b0 ∧ a1 = b1) = decide ((a0, a1) = (b0, b1)) := by simp
  rw [e] at h
  unfold ek
  simp only [binOp, Sem.run_bind, Sem.run_pure] at h
  cases hr : (Op.equal 242 (.agg #[.int .i64 a0, .int .i64 a1]) (.agg #[.int .i64 b0, .int .i64 b1])).run Tryz.prog w with
  | ok r w1 =>
    rw [hr] at h
    simpa [Result.andThen] using h
  | halt x w1 =>
    rw [hr] at h
    simp [Result.andThen] at h
theorem check27 (em : Bool) (a : Int × Int) (w : World) : (Instr.checkKey em 10000 242 (ek a)).run Tryz.prog w = .ok () w := check25 em 9998 _ _ w
theorem stays27 (a : Int × Int) (w : World) : (Instr.keyThatStays (ek a) (ek a)).run Tryz.prog w = .ok (ek a) w := by
  have : Instr.sameBits 10000 (ek a) (ek a) = true := by
    unfold ek
    show Instr.sameBits (9999 + 1) _ _ = true
    simp [Instr.sameBits]
  simp [Instr.keyThatStays, this]
theorem find27 (k : Int × Int) (w : World) : ∀ (ls : List ((Int × Int) × Value × Nat)) (i : Nat),
    ((Instr.findAsking 242 (ek k) (ls.map toE) i).run Tryz.prog w = .ok none w ∧ ∀ x ∈ ls, x.1 ≠ k) ∨
    ∃ j x, (Instr.findAsking 242 (ek k) (ls.map toE) i).run Tryz.prog w = .ok (some (i + j, x.2.1)) w ∧ ls[j]? = some x ∧ x.1 = k
  | [], i => Or.inl ⟨by simp [Instr.findAsking], by simp⟩
  | x :: r, i => by
    by_cases h : k = x.1
    · refine Or.inr ⟨0, x, ?_, rfl, h.symm⟩
      have hq := equal27 k x.1 w
      rw [decide_eq_true h] at hq
      rw [List.map_cons]
      simp only [Instr.findAsking, toE, Sem.run_bind, hq, Result.andThen]
      rfl
    · have hq := equal27 k x.1 w
      rw [decide_eq_false h] at hq
      rcases find27 k w r (i + 1) with ⟨h1, h2⟩ | ⟨j, y, h1, h2, h3⟩
      · refine Or.inl ⟨?_, ?_⟩
        · rw [List.map_cons]
          simp only [Instr.findAsking, toE, Sem.run_bind, hq, Result.andThen]
          exact h1
        · intro y hy
          rcases List.mem_cons.1 hy with rfl | hy
          · exact fun e => h e.symm
          · exact h2 y hy
      · refine Or.inr ⟨j + 1, y, ?_, by simpa using h2, h3⟩
        rw [List.map_cons]
        simp only [Instr.findAsking, toE, Sem.run_bind, hq, Result.andThen]
        rw [show i + (j + 1) = i + 1 + j by omega]
        exact h1

/-- The map's object. -/
def EM (w : World) (r : Nat) (ls : List ((Int × Int) × Value × Nat)) (clock : Nat) : Prop := w.heap[r]? = some (.map (ls.map toE).toArray clock)
/-- Each key once, each stamp once, all of them old. -/
def Good (ls : List ((Int × Int) × Value × Nat)) (clock : Nat) : Prop := (ls.map (fun x => x.1)).Nodup ∧ (ls.map (fun x => x.2.2)).Nodup ∧ ∀ x ∈ ls, x.2.2 < clock
/-- What is at a key. -/
def lk : List ((Int × Int) × Value × Nat) → Int × Int → Option Value
  | [], _ => none
  | x :: r, k => if x.1 = k then some x.2.1 else lk r k
theorem lk_not {k : Int × Int} : ∀ {ls : List ((Int × Int) × Value × Nat)}, (∀ x ∈ ls, x.1 ≠ k) → lk ls k = none
  | [], _ => rfl
  | x :: r, h => by simp [lk, h x (by simp), lk_not (ls := r) (fun y hy => h y (by simp [hy]))]
theorem lk_at {k : Int × Int} : ∀ {ls : List ((Int × Int) × Value × Nat)} {j : Nat} {x : (Int × Int) × Value × Nat}, (ls.map (fun x => x.1)).Nodup → ls[j]? = some x → x.1 = k → lk ls k = some x.2.1
  | [], _, _, _, h, _ => by simp at h
  | y :: r, 0, x, _, h, hk => by
    simp at h
    subst h
    simp [lk, hk]
  | y :: r, j + 1, x, hn, h, hk => by
    simp only [List.getElem?_cons_succ] at h
    simp only [List.map_cons, List.nodup_cons] at hn
    have hne : y.1 ≠ k := fun e => hn.1 (List.mem_map.2 ⟨x, List.mem_of_getElem? h, hk.trans e.symm⟩)
    simp [lk, hne, lk_at hn.2 h hk]
theorem lk_push {ls : List ((Int × Int) × Value × Nat)} {k j : Int × Int} {v : Value} {c : Nat} (h : ∀ x ∈ ls, x.1 ≠ k) : lk (ls ++ [(k, v, c)]) j = if j = k then some v else lk ls j := by
  induction ls with
  | nil => by_cases e : j = k
           · simp [lk, e]
           · have e' : ¬ k = j := fun h => e h.symm
             simp [lk, e, e']
  | cons y r ih =>
    have ih := ih (fun x hx => h x (by simp [hx]))
    simp only [List.cons_append, lk, ih]
    by_cases e : j = k
    · subst e
      simp [h y (by simp)]
    · simp [e]
theorem lk_set : ∀ {ls : List ((Int × Int) × Value × Nat)} {i : Nat} {x : (Int × Int) × Value × Nat} {k j : Int × Int} {v : Value}, (ls.map (fun x => x.1)).Nodup → ls[i]? = some x → x.1 = k → lk (ls.set i (k, v, x.2.2)) j = if j = k then some v else lk ls j
  | [], _, _, _, _, _, _, h, _ => by simp at h
  | y :: r, 0, x, k, j, v, _, h, hk => by
    simp at h
    subst h
    by_cases e : j = k
    · simp [lk, e]
    · have e' : ¬ k = j := fun h => e h.symm
      simp [lk, e, hk, e']
  | y :: r, i + 1, x, k, j, v, hn, h, hk => by
    simp only [List.getElem?_cons_succ] at h
    simp only [List.map_cons, List.nodup_cons] at hn
    have hne : y.1 ≠ k := fun e => hn.1 (List.mem_map.2 ⟨x, List.mem_of_getElem? h, hk.trans e.symm⟩)
    have ih := lk_set (j := j) (v := v) hn.2 h hk
    simp only [List.set_cons_succ, lk, ih]
    by_cases e : j = k
    · subst e
      simp [hne]
    · simp [e]
theorem set_keys {ls : List ((Int × Int) × Value × Nat)} {i : Nat} {x : (Int × Int) × Value × Nat} (h : ls[i]? = some x) (v : Value) : (ls.set i (x.1, v, x.2.2)).map (fun x => x.1) = ls.map (fun x => x.1) ∧ (ls.set i (x.1, v, x.2.2)).map (fun x => x.2.2) = ls.map (fun x => x.2.2) := by
  constructor
  · rw [List.map_set]
    exact WideElems.set_self _ _ _ (by simp [h])
  · rw [List.map_set]
    exact WideElems.set_self _ _ _ (by simp [h])
theorem good_push {ls : List ((Int × Int) × Value × Nat)} {clock : Nat} {k : Int × Int} {v : Value} (hg : Good ls clock) (h : ∀ x ∈ ls, x.1 ≠ k) : Good (ls ++ [(k, v, clock)]) (clock + 1) := by
  obtain ⟨g1, g2, g3⟩ := hg
  refine ⟨?_, ?_, ?_⟩
  · rw [List.map_append, List.nodup_append]
    refine ⟨g1, by simp, fun a ha b hb => ?_⟩
    obtain ⟨x, hx, rfl⟩ := List.mem_map.1 ha
    simp at hb
    subst hb
    exact h x hx
  · rw [List.map_append, List.nodup_append]
    refine ⟨g2, by simp, fun a ha b hb => ?_⟩
    obtain ⟨x, hx, rfl⟩ := List.mem_map.1 ha
    simp at hb
    subst hb
    have := g3 x hx
    omega
  · intro x hx
    rcases List.mem_append.1 hx with hx | hx
    · have := g3 x hx
      omega
    · simp at hx
      subst hx
      simp
theorem good_set {ls : List ((Int × Int) × Value × Nat)} {clock i : Nat} {x : (Int × Int) × Value × Nat} (hg : Good ls clock) (h : ls[i]? = some x) (v : Value) : Good (ls.set i (x.1, v, x.2.2)) clock := by
  obtain ⟨g1, g2, g3⟩ := hg
  have hk := set_keys h v
  refine ⟨hk.1 ▸ g1, hk.2 ▸ g2, fun y hy => ?_⟩
  have : y.2.2 ∈ (ls.set i (x.1, v, x.2.2)).map (fun x => x.2.2) := List.mem_map.2 ⟨y, hy, rfl⟩
  rw [hk.2] at this
  obtain ⟨z, hz, e⟩ := List.mem_map.1 this
  have := g3 z hz
  omega

theorem findKey27 (x : Value) (es : List MapEntry) (w : World) : (Instr.findKey 242 x es).run Tryz.prog w = (Instr.findAsking 242 x es).run Tryz.prog w := by
  cases es with
  | nil => simp [Instr.findKey, run_underlying Tryz.underlying242, Instr.findNow, Instr.findAsking]
  | cons e es => simp [Instr.findKey, run_underlying Tryz.underlying242, Instr.findNow, Instr.sameNow]

theorem lookup27 {T E : TypeId} {z : Value} (ht : Tryz.prog.underlying T = some (.map 242 E)) (hz : ∀ u : World, (zeroValue E).run Tryz.prog u = .ok z u) {w : World} {r : Nat} {ls : List ((Int × Int) × Value × Nat)} {clock : Nat} (h : EM w r ls clock) (hg : Good ls clock) (k : Int × Int) :
    (Instr.lookup T (.map (some r)) (ek k) false).run Tryz.prog w = .ok ((lk ls k).getD z) w := by
  unfold EM at h
  have hf := fun em => check27 em k w
  rcases find27 k w ls 0 with ⟨h1, h2⟩ | ⟨j, x, h1, h2, h3⟩
  · rw [lk_not h2]
    have h1' : (Instr.findKey 242 (ek k) (ls.map toE)).run Tryz.prog w = .ok none w := (findKey27 _ _ _).trans h1
    simp [Instr.lookup, run_underlying ht, MapKept.run_getObj_map h, hf, h1', hz, Result.andThen]
  · rw [lk_at hg.1 h2 h3]
    have h1' : (Instr.findKey 242 (ek k) (ls.map toE)).run Tryz.prog w = .ok (some (j, x.2.1)) w := (findKey27 _ _ _).trans (by simpa using h1)
    simp [Instr.lookup, run_underlying ht, MapKept.run_getObj_map h, hf, h1', Result.andThen]

theorem grown_set {w : World} {r : Nat} {es : Array MapEntry} {c : Nat} (h : w.heap[r]? = some (.map es c)) (o : Obj) : w.grownBy (setBlock w r o) (some r) :=
  ⟨rfl, rfl, rfl, by simp [setBlock], fun _ _ hi => heap_setBlock_other h _ (fun e1 => hi (by rw [e1]))⟩

/-- m[k] = v. -/
theorem update27 {T E : TypeId} (ht : Tryz.prog.underlying T = some (.map 242 E)) {w : World} {r : Nat} {ls : List ((Int × Int) × Value × Nat)} {clock : Nat} (h : EM w r ls clock) (hg : Good ls clock) (k : Int × Int) (val : Value) :
    ∃ ls' clock', (Instr.mapUpdate T (.map (some r)) (ek k) val).run Tryz.prog w = .ok () (setBlock w r (.map (ls'.map toE).toArray clock')) ∧ Good ls' clock' ∧ (∀ j, lk ls' j = if j = k then some val else lk ls j) ∧ (ls'.length = ls.length + if lk ls k = none then 1 else 0) := by
  have hb := h
  unfold EM at hb
  have hf := fun em => check27 em k w
  rcases find27 k w ls 0 with ⟨h1, h2⟩ | ⟨j, x, h1, h2, h3⟩
  · have h1' : (Instr.findKey 242 (ek k) (ls.map toE)).run Tryz.prog w = .ok none w := (findKey27 _ _ _).trans h1
    refine ⟨ls ++ [(k, val, clock)], clock + 1, ?_, good_push hg h2, fun j => lk_push h2, by simp [lk_not h2]⟩
    simp [Instr.mapUpdate, run_underlying ht, MapKept.run_getObj_map hb, hf, h1', MapKept.run_setObj_map _ hb, Result.andThen, setBlock, toE]
  · have h1' : (Instr.findKey 242 (ek k) (ls.map toE)).run Tryz.prog w = .ok (some (j, x.2.1)) w := (findKey27 _ _ _).trans (by simpa using h1)
    have hj : ((ls.map toE).toArray)[j]? = some (toE x) := by simp [h2]
    have hjl : (ls.map toE)[j]? = some (toE x) := by simp [h2]
    have hkx : (toE x).key = ek k := by simp [toE, h3]
    have e1 : lk ls k = some x.2.1 := lk_at hg.1 h2 h3
    have hmod : (ls.map toE).toArray.modify j (fun e => { e with key := ek k, val := val }) = ((ls.set j (x.1, val, x.2.2)).map toE).toArray := by
      apply Array.ext'
      rw [Array.toList_modify]
      show (ls.map toE).modify j _ = (ls.set j (x.1, val, x.2.2)).map toE
      rw [modify_eq_set _ _ _ _ hjl, List.map_set, ← hkx]
      rfl
    have hst := stays27 k w
    refine ⟨ls.set j (x.1, val, x.2.2), clock, ?_, good_set hg h2 val, fun i => by have := lk_set (j := i) (v := val) hg.1 h2 h3; rwa [← h3] at this ⊢, by simp [e1]⟩
    simp only [Instr.mapUpdate, Sem.run_bind, run_underlying ht, MapKept.run_getObj_map hb, hf, h1', Result.andThen, hj, Option.map_some, Option.getD_some, hkx, hst, hmod, MapKept.run_setObj_map _ hb, setBlock]
theorem em_made (w : World) : EM (w.alloc (.map #[] 0)) w.heap.size [] 0 := (MapKept.heap_alloc w _).1
theorem good_nil : Good [] 0 := ⟨by simp, by simp, by simp⟩

end Go.Proofs.YtnpboeodhpenmaaGreatDoor.Qm
