/- A part of the proof of a law on sheets. -/
import Derived.Test.YtmjneoaciopioaaDoorQmaw
namespace Go.Proofs.YtmjneoaciopioaaDoor
open Go.RowKit
attribute [local go_sem ↓] Go.wp_at_zero Go.wp_at_succ

/-- Three ways. -/
def cmp3 (a b : Int) : Int := if a < b then -1 else if b < a then 1 else 0
def or2 (m n : Int) : Int := if m = 0 then n else m
def cmpP (a b c d : Int) : Int := or2 (cmp3 a c) (cmp3 b d)
def cmpE (a b c d p q r s : Int) : Int := or2 (cmpP a b p q) (cmpP c d r s)

theorem isNaN_any (n : Int) (w : World) : Calls Tryd.prog 99 #[.int .i64 n] w fun e w' => e = .returned (.bool false) ∧ w' = w := by
  go_enter Tryd.func99, Tryd.ntmps99
  go_wp2
  go_ret
  exact ⟨rfl, rfl⟩
theorem compare_any (a b : Int) (w : World) : Calls Tryd.prog 84 #[.int .i64 a, .int .i64 b] w fun e w' => e = .returned (.int .i64 (cmp3 a b)) ∧ w' = w := by
  go_enter Tryd.func84, Tryd.ntmps84
  go_wp2_with (go_at_call 99; refine (isNaN_any _ _).mono ?_; rintro e w' ⟨rfl, rfl⟩)
  all_goals
    go_ret
    exact ⟨ret_int (by unfold cmp3; split <;> (try split) <;> omega), rfl⟩
set_option maxHeartbeats 800000 in
theorem or2_any (m n : Int) (g cap : Nat) (w : World) (h0 : w.cell? ⟨g, 0, none⟩ = some (.int .i64 m)) (h1 : w.cell? ⟨g, 1, none⟩ = some (.int .i64 n)) :
    Calls Tryd.prog 88 #[.slice (some ⟨g, 0, none⟩) 2 cap] w fun e w' => e = .returned (.int .i64 (or2 m n)) ∧ w' = w := by
  go_enter Tryd.func88, Tryd.ntmps88
  go_wp2
  go_loopg [8] 2 (fun k s8 wx => ∃ i : Int, 0 ≤ i ∧ i ≤ 2 ∧ (k : Int) = 2 - i ∧ s8 = .int .i64 i ∧ (1 ≤ i → m = 0) ∧ (2 ≤ i → n = 0) ∧ wx = w)
  case atStart => exact ⟨0, by omega, by omega, by omega, rfl, by omega, by omega, rfl⟩
  case round =>
    obtain ⟨i, i0, i2, hg, rfl, hm, hn, rfl⟩ := hrel
    have hi : i = 0 ∨ i = 1 ∨ i = 2 := by omega
    rcases hi with rfl | rfl | rfl
    · by_cases e : m = 0
      · have HE : Hid (m = 0) := e
        go_wp2
        go_roundg 1
        case measure => omega
        case rel => exact ⟨1, by omega, by omega, by omega, by go_num, fun _ => HE.out, by omega, rfl⟩
      · have HE : Hid (or2 m n = m) := by show or2 m n = m; simp [or2, e]
        have e' : (m == 0) = false := by simpa using e
        go_wp2
        go_ret
        exact ⟨ret_int HE.out.symm, rfl⟩
    · have hm0 := hm (by omega)
      have HM : Hid (m = 0) := hm0
      clear hm0
      by_cases e : n = 0
      · have HE : Hid (n = 0) := e
        go_wp2
        go_roundg 0
        case measure => omega
        case rel => exact ⟨2, by omega, by omega, by omega, by go_num, fun _ => HM.out, fun _ => HE.out, rfl⟩
      · have HE : Hid (or2 m n = n) := by show or2 m n = n; simp [or2, HM.out]
        have e' : (n == 0) = false := by simpa using e
        go_wp2
        go_ret
        exact ⟨ret_int HE.out.symm, rfl⟩
    · have HE : Hid (or2 m n = 0) := by show or2 m n = 0; simp [or2, hm (by omega), hn (by omega)]
      go_wp2
      go_ret
      exact ⟨ret_int HE.out.symm, rfl⟩

set_option maxRecDepth 100000 in
set_option maxHeartbeats 1600000 in
theorem comparePoints_any (a b p q : Int) (w : World) :
    Calls Tryd.prog 68 #[.agg #[.int .i64 a, .int .i64 b], .agg #[.int .i64 p, .int .i64 q]] w fun e w' => e = .returned (.int .i64 (cmpP a b p q)) ∧ Below w.heap.size w w' := by
  go_enter Tryd.func68, Tryd.ntmps68
  go_wp2
  go_region_held3 (fun w' => w'.cell? ⟨w.heap.size, 0, none⟩ = some (.int .i64 a) ∧ w'.cell? ⟨w.heap.size, 1, none⟩ = some (.int .i64 b) ∧ w'.cell? ⟨w.heap.size + 1, 0, none⟩ = some (.int .i64 p) ∧ w'.cell? ⟨w.heap.size + 1, 1, none⟩ = some (.int .i64 q))
    ((refine ⟨?_, ?_, ?_, ?_⟩ <;> (repeat' (first | (with_reducible assumption) | (dsimp only; omega) | (simp [go_sem]; done) | (with_reducible refine al_old ?_) | (with_reducible refine dr_old ?_)))))
    (first | (go_at_call 84; refine (compare_any _ _ _).mono ?_; rintro e w2 ⟨rfl, rfl⟩) | (go_at_call 88; refine (or2_any (cmp3 a p) (cmp3 b q) _ _ _ (by first | (simp [go_sem]; done) | (simp [go_sem, World.cell?_alloc_past]; done)) (by first | (simp [go_sem]; done) | (simp [go_sem, World.cell?_alloc_past]; done))).mono ?_; rintro e w3 ⟨rfl, rfl⟩))
  all_goals
    go_wp2
    go_ret
    refine ⟨rfl, ?_⟩
    with_reducible repeat' (first | exact bl_refl _ | refine bl_alloc ?_ | refine bl_drew ?_)

set_option maxRecDepth 100000 in
set_option maxHeartbeats 1600000 in
theorem compareEdges_any (a b c d p q r s : Int) (w : World) :
    Calls Tryd.prog 77 #[.agg #[.int .i64 a, .int .i64 b, .int .i64 c, .int .i64 d], .agg #[.int .i64 p, .int .i64 q, .int .i64 r, .int .i64 s]] w fun e w' => e = .returned (.int .i64 (cmpE a b c d p q r s)) ∧ Below w.heap.size w w' := by
  go_enter Tryd.func77, Tryd.ntmps77
  go_wp2
  go_region_held3 (fun w' => w'.cell? ⟨w.heap.size, 0, none⟩ = some (.int .i64 a) ∧ w'.cell? ⟨w.heap.size, 1, none⟩ = some (.int .i64 b) ∧ w'.cell? ⟨w.heap.size, 2, none⟩ = some (.int .i64 c) ∧ w'.cell? ⟨w.heap.size, 3, none⟩ = some (.int .i64 d) ∧ w'.cell? ⟨w.heap.size + 1, 0, none⟩ = some (.int .i64 p) ∧ w'.cell? ⟨w.heap.size + 1, 1, none⟩ = some (.int .i64 q) ∧ w'.cell? ⟨w.heap.size + 1, 2, none⟩ = some (.int .i64 r) ∧ w'.cell? ⟨w.heap.size + 1, 3, none⟩ = some (.int .i64 s))
    ((refine ⟨?_, ?_, ?_, ?_, ?_, ?_, ?_, ?_⟩ <;> (repeat' (first | (with_reducible assumption) | (dsimp only; omega) | (simp [go_sem]; done) | (with_reducible refine al_old ?_) | (with_reducible refine dr_old ?_)))))
    (first
      | (go_at_call 68; refine (comparePoints_any _ _ _ _ _).mono ?_; rintro e w8 ⟨rfl, hb⟩; have a0_w8 : w8.cell? ⟨w.heap.size, 0, none⟩ = some (.int .i64 a) := cl_kept hb (by first | (with_reducible (repeat (first | assumption | refine dr_old ?_ | refine al_old ?_)); done) | (simp [go_sem]; done)); have a1_w8 : w8.cell? ⟨w.heap.size, 1, none⟩ = some (.int .i64 b) := cl_kept hb (by first | (with_reducible (repeat (first | assumption | refine dr_old ?_ | refine al_old ?_)); done) | (simp [go_sem]; done)); have a2_w8 : w8.cell? ⟨w.heap.size, 2, none⟩ = some (.int .i64 c) := cl_kept hb (by first | (with_reducible (repeat (first | assumption | refine dr_old ?_ | refine al_old ?_)); done) | (simp [go_sem]; done)); have a3_w8 : w8.cell? ⟨w.heap.size, 3, none⟩ = some (.int .i64 d) := cl_kept hb (by first | (with_reducible (repeat (first | assumption | refine dr_old ?_ | refine al_old ?_)); done) | (simp [go_sem]; done)); have e0_w8 : w8.cell? ⟨w.heap.size + 1, 0, none⟩ = some (.int .i64 p) := cl_kept hb (by first | (with_reducible (repeat (first | assumption | refine dr_old ?_ | refine al_old ?_)); done) | (simp [go_sem]; done)); have e1_w8 : w8.cell? ⟨w.heap.size + 1, 1, none⟩ = some (.int .i64 q) := cl_kept hb (by first | (with_reducible (repeat (first | assumption | refine dr_old ?_ | refine al_old ?_)); done) | (simp [go_sem]; done)); have e2_w8 : w8.cell? ⟨w.heap.size + 1, 2, none⟩ = some (.int .i64 r) := cl_kept hb (by first | (with_reducible (repeat (first | assumption | refine dr_old ?_ | refine al_old ?_)); done) | (simp [go_sem]; done)); have e3_w8 : w8.cell? ⟨w.heap.size + 1, 3, none⟩ = some (.int .i64 s) := cl_kept hb (by first | (with_reducible (repeat (first | assumption | refine dr_old ?_ | refine al_old ?_)); done) | (simp [go_sem]; done)); have hq : Below w.heap.size w w8 := (by with_reducible (first | exact bl_via HQ.out hb | exact bl_via (bl_drew HQ.out) hb | exact bl_via (bl_drew (bl_alloc (bl_alloc (bl_refl _)))) hb | exact bl_via (bl_alloc (bl_alloc (bl_refl _))) hb)); have HQ : Hid (Below w.heap.size w w8) := hq; clear hq; clear hb)
      | (go_at_call 88; refine (or2_any (cmpP a b p q) (cmpP c d r s) _ _ _ (by first | (simp [go_sem]; done) | (simp [go_sem, World.cell?_alloc_past]; done)) (by first | (simp [go_sem]; done) | (simp [go_sem, World.cell?_alloc_past]; done))).mono ?_; rintro e w3 ⟨rfl, rfl⟩))
  all_goals
    go_wp2
    go_ret
    refine ⟨rfl, ?_⟩
    with_reducible repeat' (first | exact HQ.out | refine bl_alloc ?_ | refine bl_drew ?_)

attribute [local go_sem ↓] Go.wp_at_zero Go.wp_at_succ

theorem eql25 (a b p q : Int) (w : World) :
    (binOp .eql 43 (.agg #[.int .i64 a, .int .i64 b]) (.agg #[.int .i64 p, .int .i64 q])).run Tryd.prog w = .ok (.bool (decide (a = p ∧ b = q))) w := by
  by_cases h1 : a = p
  · subst h1
    by_cases h2 : b = q
    · subst h2
      simp [go_sem]
    · have e : (b == q) = false := by simpa using h2
      simp [go_sem, e, h2]
  · have e : (a == p) = false := by simpa using h1
    simp [go_sem, e, h1]

/-- By the first point, then by the second. -/
def lessE (a b c d p q r s : Int) : Bool := lessB a b p q || (decide (a = p ∧ b = q) && lessB c d r s)

set_option maxHeartbeats 1600000 in
theorem lessEdge_any (a b c d p q r s : Int) (w : World) :
    Calls Tryd.prog 27 #[.agg #[.int .i64 a, .int .i64 b, .int .i64 c, .int .i64 d], .agg #[.int .i64 p, .int .i64 q, .int .i64 r, .int .i64 s]] w fun e w' => e = .returned (.bool (lessE a b c d p q r s)) ∧ Below w.heap.size w w' := by
  have he := eql25
  cases h1 : lessB a b p q
  · cases h2 : decide (a = p ∧ b = q)
    · have HE : Hid (lessE a b c d p q r s = false) := by show lessE a b c d p q r s = false; simp only [lessE, h1, h2]; rfl
      go_enter Tryd.func27, Tryd.ntmps27
      go_wp2_with (go_at_call 60; refine (lessPoint_any _ _ _ _ _).mono ?_; rintro e w' ⟨rfl, o1, o2, rfl⟩)
      go_ret
      refine ⟨by rw [HE.out]; rfl, ?_⟩
      with_reducible repeat' (first | exact bl_refl _ | refine bl_alloc ?_ | refine bl_drew ?_)
    · have HE : Hid (lessE a b c d p q r s = lessB c d r s) := by show lessE a b c d p q r s = lessB c d r s; simp only [lessE, h1, h2]; simp
      go_enter Tryd.func27, Tryd.ntmps27
      go_wp2_with (go_at_call 60; refine (lessPoint_any _ _ _ _ _).mono ?_; rintro e w' ⟨rfl, o1, o2, rfl⟩)
      go_ret
      refine ⟨by rw [HE.out]; rfl, ?_⟩
      with_reducible repeat' (first | exact bl_refl _ | refine bl_alloc ?_ | refine bl_drew ?_)
  · have HE : Hid (lessE a b c d p q r s = true) := by show lessE a b c d p q r s = true; simp only [lessE, h1]; rfl
    go_enter Tryd.func27, Tryd.ntmps27
    go_wp2_with (go_at_call 60; refine (lessPoint_any _ _ _ _ _).mono ?_; rintro e w' ⟨rfl, o1, o2, rfl⟩)
    go_ret
    refine ⟨by rw [HE.out]; rfl, ?_⟩
    with_reducible repeat' (first | exact bl_refl _ | refine bl_alloc ?_ | refine bl_drew ?_)

/-- Both orders are one. -/
theorem cmpE_less (a b c d p q r s : Int) : cmpE a b c d p q r s < 0 ↔ lessE a b c d p q r s = true := by
  unfold cmpE cmpP or2 cmp3 lessE lessB
  simp only [Bool.or_eq_true, Bool.and_eq_true, decide_eq_true_eq]
  split <;> rename_i h1 <;> (repeat' split at h1) <;> (repeat' split) <;> omega

/-- Where a triangle stands in a list; -1: nowhere. -/
def plc (l : List (Int × Int × Int)) (t : Int × Int × Int) : Int := if t ∈ l then (l.idxOf t : Int) else -1
theorem plc_at {l : List (Int × Int × Int)} {t : Int × Int × Int} {i : Nat} (hi : i < l.length) (he : l[i] = t) (hn : ∀ j (hj : j < l.length), j < i → l[j] ≠ t) : plc l t = i := by
  have hm : t ∈ l := he ▸ List.getElem_mem hi
  have h1 := List.idxOf_lt_length_of_mem hm
  have h2 : l[l.idxOf t] = t := List.getElem_idxOf h1
  have h3 : l.idxOf t = i := by
    rcases Nat.lt_trichotomy (l.idxOf t) i with h | h | h
    · exact absurd h2 (hn _ h1 h)
    · exact h
    · simp [List.idxOf] at h
      obtain ⟨_, hh⟩ := h
      exact absurd he (hh i (Nat.le_refl _))
  simp [plc, hm, h3]
theorem plc_not {l : List (Int × Int × Int)} {t : Int × Int × Int} (hn : ∀ j (hj : j < l.length), l[j] ≠ t) : plc l t = -1 := by
  have hm : ¬ t ∈ l := fun h => by
    obtain ⟨j, hj, e⟩ := List.getElem_of_mem h
    exact hn j hj e
  simp [plc, hm]

set_option maxHeartbeats 1600000 in
theorem placeOf_any (a : Option Addr) (cap : Nat) (l : List (Int × Int × Int)) (x y k : Int) (w : World) (hT : TRow w a l) (hlen : l.length ≤ 256) :
    Calls Tryd.prog 44 #[.slice a l.length cap, .agg #[.int .i64 x, .int .i64 y, .int .i64 k]] w fun e w' => e = .returned (.int .i64 (plc l (x, y, k))) ∧ Below w.heap.size w w' := by
  have he := eql23
  have HT : Hid (TRow w a l) := hT
  clear hT
  go_enter Tryd.func44, Tryd.ntmps44
  go_wp2
  go_loopg [5] l.length (fun g s5 wx => ∃ i : Nat, i ≤ l.length ∧ g = l.length - i ∧ s5 = .int .i64 (i : Int) ∧ (∀ j (hj : j < l.length), j < i → l[j] ≠ (x, y, k)) ∧ (Tr wx w.heap.size x y k ∧ Below w.heap.size w wx))
  case atStart => exact ⟨0, by omega, rfl, rfl, fun j _ h => by omega, by simp [Tr, go_sem], bl_alloc (bl_refl _)⟩
  case round =>
    obtain ⟨i, hi, rfl, rfl, hp, ⟨t0, t1, t2⟩, hB⟩ := hrel
    have HP : Hid (∀ j (hj : j < l.length), j < i → l[j] ≠ (x, y, k)) := hp
    have HB : Hid (Below w.heap.size w wr) := hB
    have HTr : Hid (Tr wr w.heap.size x y k) := ⟨t0, t1, t2⟩
    clear hp hB
    by_cases h1 : i < l.length
    · have i1 : (i : Int) < (l.length : Int) := by omega
      have i0 : (0 : Int) ≤ (i : Int) := by omega
      obtain ⟨g, rfl, c0, c1, c2⟩ := (HT.out.kept HB.out) i h1
      obtain ⟨t, ht⟩ : ∃ t, t = l[i] := ⟨_, rfl⟩
      obtain ⟨X, Y, K⟩ := t
      rw [← ht] at c0 c1 c2
      dsimp only at c0 c1 c2
      have HE : Hid ((X, Y, K) = l[i]) := ht
      clear ht
      have zg : g < wr.heap.size := World.block_lt_of_cell? _ _ c0
      have zt : w.heap.size < wr.heap.size := World.block_lt_of_cell? _ _ t0
      cases hq : sameT X Y K x y k
      · go_wp2
        go_quiet (fail)
        go_wp2
        go_roundg (l.length - (i + 1))
        case measure => omega
        case rel =>
          refine ⟨i + 1, by omega, rfl, by go_num, fun j hj h => ?_, HTr.out, ?_⟩
          · by_cases e : j = i
            · subst e
              rw [← HE.out]
              intro hc
              simp at hc
              simp [sameT, hc] at hq
            · exact HP.out j hj (by omega)
          · with_reducible repeat' (first | exact HB.out | refine bl_drewN ?_ | refine bl_drew ?_)
      · go_wp2
        go_quiet (fail)
        go_wp2
        go_ret
        refine ⟨ret_int ?_, ?_⟩
        · refine (plc_at h1 ?_ HP.out).symm
          rw [← HE.out]
          simpa [sameT] using hq
        · with_reducible repeat' (first | exact HB.out | refine bl_drewN ?_ | refine bl_drew ?_)
    · have i1 : ¬ (i : Int) < (l.length : Int) := by omega
      go_wp2
      go_ret
      exact ⟨ret_int (plc_not (fun j hj => HP.out j hj (by omega))).symm, HB.out⟩
end Go.Proofs.YtmjneoaciopioaaDoor
