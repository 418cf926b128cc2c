/- A part of the proof of cutPunches_holds. -/
import Derived.Test.YtmjhfdohcghhoaaGreatDoorQlap
import Derived.Test.YtmjhfdohcghhoaaGreatDoorQlan
import Derived.Test.YtmjhfdohcghhoaaGreatDoorQlag
namespace Go.Proofs.YtmjhfdohcghhoaaGreatDoor
open Go.RowKit
attribute [local go_sem ↓] Go.wp_at_zero Go.wp_at_succ

/-- Three ways. -/
def cmp3 (a b : Int) : Int := if a < b then -1 else if b < a then 1 else 0
def or2 (m n : Int) : Int := if m = 0 then n else m
def cmpP (a b c d : Int) : Int := or2 (cmp3 a c) (cmp3 b d)
def cmpE (a b c d p q r s : Int) : Int := or2 (cmpP a b p q) (cmpP c d r s)

theorem isNaN_any (n : Int) (w : World) : Calls Tryz.prog 129 #[.int .i64 n] w fun e w' => e = .returned (.bool false) ∧ w' = w := by
  go_enter Tryz.func129, Tryz.ntmps129
  go_wp2
  go_ret
  exact ⟨rfl, rfl⟩
theorem compare_any (a b : Int) (w : World) : Calls Tryz.prog 110 #[.int .i64 a, .int .i64 b] w fun e w' => e = .returned (.int .i64 (cmp3 a b)) ∧ w' = w := by
  go_enter Tryz.func110, Tryz.ntmps110
  go_wp2_with (go_at_call 129; refine (isNaN_any _ _).mono ?_; rintro e w' ⟨rfl, rfl⟩)
  all_goals
    go_ret
    exact ⟨ret_int (by unfold cmp3; split <;> (try split) <;> omega), rfl⟩
set_option maxHeartbeats 800000 in
theorem or2_any (m n : Int) (g cap : Nat) (w : World) (h0 : w.cell? ⟨g, 0, none⟩ = some (.int .i64 m)) (h1 : w.cell? ⟨g, 1, none⟩ = some (.int .i64 n)) :
    Calls Tryz.prog 109 #[.slice (some ⟨g, 0, none⟩) 2 cap] w fun e w' => e = .returned (.int .i64 (or2 m n)) ∧ w' = w := by
  go_enter Tryz.func109, Tryz.ntmps109
  go_wp2
  go_loopg [8] 2 (fun k s8 wx => ∃ i : Int, 0 ≤ i ∧ i ≤ 2 ∧ (k : Int) = 2 - i ∧ s8 = .int .i64 i ∧ (1 ≤ i → m = 0) ∧ (2 ≤ i → n = 0) ∧ wx = w)
  case atStart => exact ⟨0, by omega, by omega, by omega, rfl, by omega, by omega, rfl⟩
  case round =>
    obtain ⟨i, i0, i2, hg, rfl, hm, hn, rfl⟩ := hrel
    have hi : i = 0 ∨ i = 1 ∨ i = 2 := by omega
    rcases hi with rfl | rfl | rfl
    · by_cases e : m = 0
      · have HE : Hid (m = 0) := e
        go_wp2
        go_roundg 1
        case measure => omega
        case rel => exact ⟨1, by omega, by omega, by omega, by go_num, fun _ => HE.out, by omega, rfl⟩
      · have HE : Hid (or2 m n = m) := by show or2 m n = m; simp [or2, e]
        have e' : (m == 0) = false := by simpa using e
        go_wp2
        go_ret
        exact ⟨ret_int HE.out.symm, rfl⟩
    · have hm0 := hm (by omega)
      have HM : Hid (m = 0) := hm0
      clear hm0
      by_cases e : n = 0
      · have HE : Hid (n = 0) := e
        go_wp2
        go_roundg 0
        case measure => omega
        case rel => exact ⟨2, by omega, by omega, by omega, by go_num, fun _ => HM.out, fun _ => HE.out, rfl⟩
      · have HE : Hid (or2 m n = n) := by show or2 m n = n; simp [or2, HM.out]
        have e' : (n == 0) = false := by simpa using e
        go_wp2
        go_ret
        exact ⟨ret_int HE.out.symm, rfl⟩
    · have HE : Hid (or2 m n = 0) := by show or2 m n = 0; simp [or2, hm (by omega), hn (by omega)]
      go_wp2
      go_ret
      exact ⟨ret_int HE.out.symm, rfl⟩

set_option maxRecDepth 100000 in
set_option maxHeartbeats 1600000 in
theorem comparePoints_any (a b p q : Int) (w : World) :
    Calls Tryz.prog 133 #[.agg #[.int .i64 a, .int .i64 b], .agg #[.int .i64 p, .int .i64 q]] w fun e w' => e = .returned (.int .i64 (cmpP a b p q)) ∧ Below w.heap.size w w' := by
  go_enter Tryz.func133, Tryz.ntmps133
  go_wp2
  go_region_held3 (fun w' => w'.cell? ⟨w.heap.size, 0, none⟩ = some (.int .i64 a) ∧ w'.cell? ⟨w.heap.size, 1, none⟩ = some (.int .i64 b) ∧ w'.cell? ⟨w.heap.size + 1, 0, none⟩ = some (.int .i64 p) ∧ w'.cell? ⟨w.heap.size + 1, 1, none⟩ = some (.int .i64 q))
    ((refine ⟨?_, ?_, ?_, ?_⟩ <;> (repeat' (first | (with_reducible assumption) | (dsimp only; omega) | (simp [go_sem]; done) | (with_reducible refine al_old ?_) | (with_reducible refine dr_old ?_)))))
    (first | (go_at_call 110; refine (compare_any _ _ _).mono ?_; rintro e w2 ⟨rfl, rfl⟩) | (go_at_call 109; refine (or2_any (cmp3 a p) (cmp3 b q) _ _ _ (by first | (simp [go_sem]; done) | (simp [go_sem, World.cell?_alloc_past]; done)) (by first | (simp [go_sem]; done) | (simp [go_sem, World.cell?_alloc_past]; done))).mono ?_; rintro e w3 ⟨rfl, rfl⟩))
  all_goals
    go_wp2
    go_ret
    refine ⟨rfl, ?_⟩
    with_reducible repeat' (first | exact bl_refl _ | refine bl_alloc ?_ | refine bl_drew ?_)

set_option maxRecDepth 100000 in
set_option maxHeartbeats 1600000 in
theorem compareEdges_any (a b c d p q r s : Int) (w : World) :
    Calls Tryz.prog 118 #[.agg #[.int .i64 a, .int .i64 b, .int .i64 c, .int .i64 d], .agg #[.int .i64 p, .int .i64 q, .int .i64 r, .int .i64 s]] w fun e w' => e = .returned (.int .i64 (cmpE a b c d p q r s)) ∧ Below w.heap.size w w' := by
  go_enter Tryz.func118, Tryz.ntmps118
  go_wp2
  go_region_held3 (fun w' => w'.cell? ⟨w.heap.size, 0, none⟩ = some (.int .i64 a) ∧ w'.cell? ⟨w.heap.size, 1, none⟩ = some (.int .i64 b) ∧ w'.cell? ⟨w.heap.size, 2, none⟩ = some (.int .i64 c) ∧ w'.cell? ⟨w.heap.size, 3, none⟩ = some (.int .i64 d) ∧ w'.cell? ⟨w.heap.size + 1, 0, none⟩ = some (.int .i64 p) ∧ w'.cell? ⟨w.heap.size + 1, 1, none⟩ = some (.int .i64 q) ∧ w'.cell? ⟨w.heap.size + 1, 2, none⟩ = some (.int .i64 r) ∧ w'.cell? ⟨w.heap.size + 1, 3, none⟩ = some (.int .i64 s))
    ((refine ⟨?_, ?_, ?_, ?_, ?_, ?_, ?_, ?_⟩ <;> (repeat' (first | (with_reducible assumption) | (dsimp only; omega) | (simp [go_sem]; done) | (with_reducible refine al_old ?_) | (with_reducible refine dr_old ?_)))))
    (first
      | (go_at_call 133; refine (comparePoints_any _ _ _ _ _).mono ?_; rintro e w8 ⟨rfl, hb⟩; have a0_w8 : w8.cell? ⟨w.heap.size, 0, none⟩ = some (.int .i64 a) := cl_kept hb (by first | (with_reducible (repeat (first | assumption | refine dr_old ?_ | refine al_old ?_)); done) | (simp [go_sem]; done)); have a1_w8 : w8.cell? ⟨w.heap.size, 1, none⟩ = some (.int .i64 b) := cl_kept hb (by first | (with_reducible (repeat (first | assumption | refine dr_old ?_ | refine al_old ?_)); done) | (simp [go_sem]; done)); have a2_w8 : w8.cell? ⟨w.heap.size, 2, none⟩ = some (.int .i64 c) := cl_kept hb (by first | (with_reducible (repeat (first | assumption | refine dr_old ?_ | refine al_old ?_)); done) | (simp [go_sem]; done)); have a3_w8 : w8.cell? ⟨w.heap.size, 3, none⟩ = some (.int .i64 d) := cl_kept hb (by first | (with_reducible (repeat (first | assumption | refine dr_old ?_ | refine al_old ?_)); done) | (simp [go_sem]; done)); have e0_w8 : w8.cell? ⟨w.heap.size + 1, 0, none⟩ = some (.int .i64 p) := cl_kept hb (by first | (with_reducible (repeat (first | assumption | refine dr_old ?_ | refine al_old ?_)); done) | (simp [go_sem]; done)); have e1_w8 : w8.cell? ⟨w.heap.size + 1, 1, none⟩ = some (.int .i64 q) := cl_kept hb (by first | (with_reducible (repeat (first | assumption | refine dr_old ?_ | refine al_old ?_)); done) | (simp [go_sem]; done)); have e2_w8 : w8.cell? ⟨w.heap.size + 1, 2, none⟩ = some (.int .i64 r) := cl_kept hb (by first | (with_reducible (repeat (first | assumption | refine dr_old ?_ | refine al_old ?_)); done) | (simp [go_sem]; done)); have e3_w8 : w8.cell? ⟨w.heap.size + 1, 3, none⟩ = some (.int .i64 s) := cl_kept hb (by first | (with_reducible (repeat (first | assumption | refine dr_old ?_ | refine al_old ?_)); done) | (simp [go_sem]; done)); have hq : Below w.heap.size w w8 := (by with_reducible (first | exact bl_via HQ.out hb | exact bl_via (bl_drew HQ.out) hb | exact bl_via (bl_drew (bl_alloc (bl_alloc (bl_refl _)))) hb | exact bl_via (bl_alloc (bl_alloc (bl_refl _))) hb)); have HQ : Hid (Below w.heap.size w w8) := hq; clear hq; clear hb)
      | (go_at_call 109; refine (or2_any (cmpP a b p q) (cmpP c d r s) _ _ _ (by first | (simp [go_sem]; done) | (simp [go_sem, World.cell?_alloc_past]; done)) (by first | (simp [go_sem]; done) | (simp [go_sem, World.cell?_alloc_past]; done))).mono ?_; rintro e w3 ⟨rfl, rfl⟩))
  all_goals
    go_wp2
    go_ret
    refine ⟨rfl, ?_⟩
    with_reducible repeat' (first | exact HQ.out | refine bl_alloc ?_ | refine bl_drew ?_)

attribute [local go_sem ↓] Go.wp_at_zero Go.wp_at_succ

theorem eql25 (a b p q : Int) (w : World) :
    (binOp .eql 77 (.agg #[.int .i64 a, .int .i64 b]) (.agg #[.int .i64 p, .int .i64 q])).run Tryz.prog w = .ok (.bool (decide (a = p ∧ b = q))) w := by
  by_cases h1 : a = p
  · subst h1
    by_cases h2 : b = q
    · subst h2
      simp [go_sem]
    · have e : (b == q) = false := by simpa using h2
      simp [go_sem, e, h2]
  · have e : (a == p) = false := by simpa using h1
    simp [go_sem, e, h1]

/-- By the first point, then by the second. -/
def lessE (a b c d p q r s : Int) : Bool := lessB a b p q || (decide (a = p ∧ b = q) && lessB c d r s)

set_option maxHeartbeats 1600000 in
theorem lessEdge_any (a b c d p q r s : Int) (w : World) :
    Calls Tryz.prog 53 #[.agg #[.int .i64 a, .int .i64 b, .int .i64 c, .int .i64 d], .agg #[.int .i64 p, .int .i64 q, .int .i64 r, .int .i64 s]] w fun e w' => e = .returned (.bool (lessE a b c d p q r s)) ∧ Below w.heap.size w w' := by
  have he := eql25
  cases h1 : lessB a b p q
  · cases h2 : decide (a = p ∧ b = q)
    · have HE : Hid (lessE a b c d p q r s = false) := by show lessE a b c d p q r s = false; simp only [lessE, h1, h2]; rfl
      go_enter Tryz.func53, Tryz.ntmps53
      go_wp2_with (go_at_call 99; refine (lessPoint_any _ _ _ _ _).mono ?_; rintro e w' ⟨rfl, o1, o2, rfl⟩)
      go_ret
      refine ⟨by rw [HE.out]; rfl, ?_⟩
      with_reducible repeat' (first | exact bl_refl _ | refine bl_alloc ?_ | refine bl_drew ?_)
    · have HE : Hid (lessE a b c d p q r s = lessB c d r s) := by show lessE a b c d p q r s = lessB c d r s; simp only [lessE, h1, h2]; simp
      go_enter Tryz.func53, Tryz.ntmps53
      go_wp2_with (go_at_call 99; refine (lessPoint_any _ _ _ _ _).mono ?_; rintro e w' ⟨rfl, o1, o2, rfl⟩)
      go_ret
      refine ⟨by rw [HE.out]; rfl, ?_⟩
      with_reducible repeat' (first | exact bl_refl _ | refine bl_alloc ?_ | refine bl_drew ?_)
  · have HE : Hid (lessE a b c d p q r s = true) := by show lessE a b c d p q r s = true; simp only [lessE, h1]; rfl
    go_enter Tryz.func53, Tryz.ntmps53
    go_wp2_with (go_at_call 99; refine (lessPoint_any _ _ _ _ _).mono ?_; rintro e w' ⟨rfl, o1, o2, rfl⟩)
    go_ret
    refine ⟨by rw [HE.out]; rfl, ?_⟩
    with_reducible repeat' (first | exact bl_refl _ | refine bl_alloc ?_ | refine bl_drew ?_)

/-- Both orders are one. -/
theorem cmpE_less (a b c d p q r s : Int) : cmpE a b c d p q r s < 0 ↔ lessE a b c d p q r s = true := by
  unfold cmpE cmpP or2 cmp3 lessE lessB
  simp only [Bool.or_eq_true, Bool.and_eq_true, decide_eq_true_eq]
  split <;> rename_i h1 <;> (repeat' split at h1) <;> (repeat' split) <;> omega

/-- Where a triangle stands in a list; -1: nowhere. -/
def plc (l : List (Int × Int × Int)) (t : Int × Int × Int) : Int := if t ∈ l then (l.idxOf t : Int) else -1
theorem plc_at {l : List (Int × Int × Int)} {t : Int × Int × Int} {i : Nat} (hi : i < l.length) (he : l[i] = t) (hn : ∀ j (hj : j < l.length), j < i → l[j] ≠ t) : plc l t = i := by
  have hm : t ∈ l := he ▸ List.getElem_mem hi
  have h1 := List.idxOf_lt_length_of_mem hm
  have h2 : l[l.idxOf t] = t := List.getElem_idxOf h1
  have h3 : l.idxOf t = i := by
    rcases Nat.lt_trichotomy (l.idxOf t) i with h | h | h
    · exact absurd h2 (hn _ h1 h)
    · exact h
    · simp [List.idxOf] at h
      obtain ⟨_, hh⟩ := h
      exact absurd he (hh i (Nat.le_refl _))
  simp [plc, hm, h3]
theorem plc_not {l : List (Int × Int × Int)} {t : Int × Int × Int} (hn : ∀ j (hj : j < l.length), l[j] ≠ t) : plc l t = -1 := by
  have hm : ¬ t ∈ l := fun h => by
    obtain ⟨j, hj, e⟩ := List.getElem_of_mem h
    exact hn j hj e
  simp [plc, hm]

set_option maxHeartbeats 1600000 in
theorem placeOf_any (a : Option Addr) (cap : Nat) (l : List (Int × Int × Int)) (x y k : Int) (w : World) (hT : TRow w a l) (hlen : l.length ≤ 256) :
    Calls Tryz.prog 32 #[.slice a l.length cap, .agg #[.int .i64 x, .int .i64 y, .int .i64 k]] w fun e w' => e = .returned (.int .i64 (plc l (x, y, k))) ∧ Below w.heap.size w w' := by
  have he := eql23
  have HT : Hid (TRow w a l) := hT
  clear hT
  go_enter Tryz.func32, Tryz.ntmps32
  go_wp2
  go_loopg [5] l.length (fun g s5 wx => ∃ i : Nat, i ≤ l.length ∧ g = l.length - i ∧ s5 = .int .i64 (i : Int) ∧ (∀ j (hj : j < l.length), j < i → l[j] ≠ (x, y, k)) ∧ (Tr wx w.heap.size x y k ∧ Below w.heap.size w wx))
  case atStart => exact ⟨0, by omega, rfl, rfl, fun j _ h => by omega, by simp [Tr, go_sem], bl_alloc (bl_refl _)⟩
  case round =>
    obtain ⟨i, hi, rfl, rfl, hp, ⟨t0, t1, t2⟩, hB⟩ := hrel
    have HP : Hid (∀ j (hj : j < l.length), j < i → l[j] ≠ (x, y, k)) := hp
    have HB : Hid (Below w.heap.size w wr) := hB
    have HTr : Hid (Tr wr w.heap.size x y k) := ⟨t0, t1, t2⟩
    clear hp hB
    by_cases h1 : i < l.length
    · have i1 : (i : Int) < (l.length : Int) := by omega
      have i0 : (0 : Int) ≤ (i : Int) := by omega
      obtain ⟨g, rfl, c0, c1, c2⟩ := (HT.out.kept HB.out) i h1
      obtain ⟨t, ht⟩ : ∃ t, t = l[i] := ⟨_, rfl⟩
      obtain ⟨X, Y, K⟩ := t
      rw [← ht] at c0 c1 c2
      dsimp only at c0 c1 c2
      have HE : Hid ((X, Y, K) = l[i]) := ht
      clear ht
      have zg : g < wr.heap.size := World.block_lt_of_cell? _ _ c0
      have zt : w.heap.size < wr.heap.size := World.block_lt_of_cell? _ _ t0
      cases hq : sameT X Y K x y k
      · go_wp2
        go_quiet (fail)
        go_wp2
        go_roundg (l.length - (i + 1))
        case measure => omega
        case rel =>
          refine ⟨i + 1, by omega, rfl, by go_num, fun j hj h => ?_, HTr.out, ?_⟩
          · by_cases e : j = i
            · subst e
              rw [← HE.out]
              intro hc
              simp at hc
              simp [sameT, hc] at hq
            · exact HP.out j hj (by omega)
          · with_reducible repeat' (first | exact HB.out | refine bl_drewN ?_ | refine bl_drew ?_)
      · go_wp2
        go_quiet (fail)
        go_wp2
        go_ret
        refine ⟨ret_int ?_, ?_⟩
        · refine (plc_at h1 ?_ HP.out).symm
          rw [← HE.out]
          simpa [sameT] using hq
        · with_reducible repeat' (first | exact HB.out | refine bl_drewN ?_ | refine bl_drew ?_)
    · have i1 : ¬ (i : Int) < (l.length : Int) := by omega
      go_wp2
      go_ret
      exact ⟨ret_int (plc_not (fun j hj => HP.out j hj (by omega))).symm, HB.out⟩
end Go.Proofs.YtmjhfdohcghhoaaGreatDoor
namespace Go.Proofs.YtmjhfdohcghhoaaGreatDoor
open Go.RowKit Go.ChangeMaps

/-- Two triangles with an edge in common that may be crossed. -/
def AdjC (cr : Int × Int × Int × Int → Bool) (t u : Int × Int × Int) : Prop := u ≠ t ∧ ∃ e, hasT t e = true ∧ hasT u e = true ∧ cr e = true
theorem AdjC.symm {cr : Int × Int × Int × Int → Bool} {t u : Int × Int × Int} (h : AdjC cr t u) : AdjC cr u t := ⟨fun e => h.1 e.symm, h.2.imp fun _ he => ⟨he.2.1, he.1, he.2.2⟩⟩
def ReachC (cr : Int × Int × Int × Int → Bool) (l : List (Int × Int × Int)) (t u : Int × Int × Int) : Prop := t ∈ l ∧ ∀ p : Int × Int × Int → Prop, p t → (∀ a b, p a → b ∈ l → AdjC cr a b → p b) → p u
theorem ReachC.here {cr : Int × Int × Int × Int → Bool} {l : List (Int × Int × Int)} {t : Int × Int × Int} (h : t ∈ l) : ReachC cr l t t := ⟨h, fun _ k _ => k⟩
theorem ReachC.step {cr : Int × Int × Int × Int → Bool} {l : List (Int × Int × Int)} {t u v : Int × Int × Int} (h : ReachC cr l t u) (hv : v ∈ l) (ha : AdjC cr u v) : ReachC cr l t v := ⟨h.1, fun p k s => s _ _ (h.2 p k s) hv ha⟩
theorem ReachC.ind {cr : Int × Int × Int × Int → Bool} {l : List (Int × Int × Int)} {t : Int × Int × Int} {motive : ∀ u, ReachC cr l t u → Prop} (here : ∀ h : t ∈ l, motive t (ReachC.here h))
    (step : ∀ {u v} (h : ReachC cr l t u) (hv : v ∈ l) (ha : AdjC cr u v), motive u h → motive v (ReachC.step h hv ha)) {u : Int × Int × Int} (h : ReachC cr l t u) : motive u h := by
  obtain ⟨_, m⟩ := h.2 (fun x => ∃ k : ReachC cr l t x, motive x k) ⟨ReachC.here h.1, here h.1⟩ (fun _ _ ⟨_, m⟩ hb hab => ⟨_, step _ hb hab m⟩)
  exact m
theorem ReachC.mem {cr : Int × Int × Int × Int → Bool} {l : List (Int × Int × Int)} {t u : Int × Int × Int} (h : ReachC cr l t u) : t ∈ l ∧ u ∈ l := by
  induction h using ReachC.ind with
  | here h => exact ⟨h, h⟩
  | step _ hv _ ih => exact ⟨ih.1, hv⟩
theorem ReachC.trans {cr : Int × Int × Int × Int → Bool} {l : List (Int × Int × Int)} {t u v : Int × Int × Int} (h : ReachC cr l t u) (k : ReachC cr l u v) : ReachC cr l t v := by
  induction k using ReachC.ind with
  | here _ => exact h
  | step _ hv ha ih => exact ih.step hv ha
theorem ReachC.symm {cr : Int × Int × Int × Int → Bool} {l : List (Int × Int × Int)} {t u : Int × Int × Int} (h : ReachC cr l t u) : ReachC cr l u t := by
  induction h using ReachC.ind with
  | here h => exact .here h
  | step h hv ha ih => exact ((ReachC.here hv).step h.mem.2 ha.symm).trans ih
theorem reach_all {l : List (Int × Int × Int)} {t u : Int × Int × Int} : ReachC (fun _ => true) l t u ↔ Reach l t u := by
  constructor
  · intro h
    induction h using ReachC.ind with
    | here h => exact .here h
    | step _ hv ha ih => exact ih.step hv ⟨ha.1, ha.2.imp fun _ he => ⟨he.1, he.2.1⟩⟩
  · intro h
    induction h using Reach.ind with
    | here h => exact .here h
    | step _ hv ha ih => exact ih.step hv ⟨ha.1, ha.2.imp fun _ he => ⟨he.1, he.2, rfl⟩⟩

/-- The labels, once the triangles of R have got a number. -/
def lab (part : Nat → Int) (num : Int) (R : List Nat) : Nat → Int := fun i => if i ∈ R then num else part i
/-- The triangles found so far. -/
def Sp (cr : Int × Int × Int × Int → Bool) (L : List (Int × Int × Int)) (part : Nat → Int) (f : Nat) (R : List Nat) : Prop :=
  f ∈ R ∧ R.Nodup ∧ ∀ i ∈ R, ∃ h : i < L.length, part i < 0 ∧ ∃ hf : f < L.length, ReachC cr L L[f] L[i]
/-- All that have an edge are found, or had a number before. -/
def DoneE (L : List (Int × Int × Int)) (part : Nat → Int) (R : List Nat) (e : Int × Int × Int × Int) : Prop := ∀ j (hj : j < L.length), hasT L[j] e = true → j ∈ R ∨ 0 ≤ part j
/-- .. at the edges of a triangle that may be crossed, up to its edge k. -/
def DoneT (cr : Int × Int × Int × Int → Bool) (L : List (Int × Int × Int)) (part : Nat → Int) (R : List Nat) (t : Int × Int × Int) (k : Nat) : Prop := ∀ k', k' < k → cr (edg t k') = true → DoneE L part R (edg t k')
theorem DoneE.mono {L : List (Int × Int × Int)} {part : Nat → Int} {R R' : List Nat} {e : Int × Int × Int × Int} (h : DoneE L part R e) (hs : ∀ i ∈ R, i ∈ R') : DoneE L part R' e := fun j hj ht => (h j hj ht).imp (hs j) id
theorem DoneT.mono {cr : Int × Int × Int × Int → Bool} {L : List (Int × Int × Int)} {part : Nat → Int} {R R' : List Nat} {t : Int × Int × Int} {k : Nat} (h : DoneT cr L part R t k) (hs : ∀ i ∈ R, i ∈ R') : DoneT cr L part R' t k := fun k' hk hc => (h k' hk hc).mono hs
theorem erase_len {R : List Nat} (n : Nat) (_hn : R.Nodup) : R.length ≤ (R.erase n).length + 1 := by
  by_cases h : n ∈ R
  · rw [List.length_erase_of_mem h]
    omega
  · rw [List.erase_of_not_mem h]
    omega
theorem nodup_len : ∀ (n : Nat) (R : List Nat), R.Nodup → (∀ i ∈ R, i < n) → R.length ≤ n
  | 0, R, _, h => by
    cases R with
    | nil => simp
    | cons a r => exact absurd (h a (by simp)) (by omega)
  | n + 1, R, hn, h => by
    have h1 := nodup_len n (R.erase n) (hn.erase n) (fun i hi => by
      have h2 := h i (List.mem_of_mem_erase hi)
      have h3 : i ≠ n := fun e => by
        subst e
        exact (List.Nodup.not_mem_erase hn) hi
      omega)
    have := erase_len n hn
    omega
theorem Sp.len {cr : Int × Int × Int × Int → Bool} {L : List (Int × Int × Int)} {part : Nat → Int} {f : Nat} {R : List Nat} (h : Sp cr L part f R) : R.length ≤ L.length := nodup_len _ _ h.2.1 (fun i hi => (h.2.2 i hi).1)
/-- One more is found. -/
theorem Sp.found {cr : Int × Int × Int × Int → Bool} {L : List (Int × Int × Int)} {part : Nat → Int} {f : Nat} {R : List Nat} (h : Sp cr L part f R) (hnd : L.Nodup) {i j : Nat} (hi : i ∈ R) (hj : j < L.length) (hn : j ∉ R) (hp : part j < 0) {e : Int × Int × Int × Int} (hc : cr e = true) (h1 : ∀ hi' : i < L.length, hasT L[i] e = true) (h2 : hasT L[j] e = true) : Sp cr L part f (R ++ [j]) := by
  obtain ⟨hi1, hi2, hf, hr⟩ := h.2.2 i hi
  refine ⟨List.mem_append_left _ h.1, ?_, fun k hk => ?_⟩
  · rw [List.nodup_append]
    refine ⟨h.2.1, by simp, fun a ha b hb => ?_⟩
    simp at hb
    subst hb
    exact fun e => hn (e ▸ ha)
  · rcases List.mem_append.1 hk with hk | hk
    · exact h.2.2 k hk
    · simp at hk
      subst hk
      refine ⟨hj, hp, hf, hr.step (List.getElem_mem hj) ⟨fun e1 => ?_, e, h1 hi1, h2, hc⟩⟩
      have := nodup_inj hnd hj hi1 e1
      exact hn (this ▸ hi)
theorem lab_found (part : Nat → Int) (num : Int) (R : List Nat) (j : Nat) : lab part num (R ++ [j]) = fun i => if i = j then num else lab part num R i := by
  funext i
  unfold lab
  by_cases e : i = j
  · simp [e]
  · simp [e]

/-- Numbers in a row of memory that may be written. -/
def ZRow (w : World) (g n : Nat) (f : Nat → Int) : Prop := ∀ i, i < n → w.cell? ⟨g, i, none⟩ = some (.int .i64 (f i)) ∧ w.frozen? ⟨g, i, none⟩ = false
theorem ZRow.grown {w w' : World} {g n : Nat} {f : Nat → Int} {row : Option Nat} (h : ZRow w g n f) (hg : w.grownBy w' row) (hne : some g ≠ row) : ZRow w' g n f := fun i hi =>
  ⟨hg.cell (h i hi).1 hne, (World.frozen?_of_block (a := ⟨g, i, none⟩) (hg.block g (World.block_lt_of_cell? _ _ (h i hi).1) hne)).trans (h i hi).2⟩
theorem ZRow.kept {w w' : World} {g n : Nat} {f : Nat → Int} (h : ZRow w g n f) (hb : Below w.heap.size w w') : ZRow w' g n f := h.grown (bl_grown hb) (by simp)
theorem ZRow.set {w : World} {g n : Nat} {f : Nat → Int} (h : ZRow w g n f) {i : Nat} (v : Int) (hi : i < n) : ZRow (w.setCell ⟨g, i, none⟩ (.int .i64 v)) g n (fun j => if j = i then v else f j) := fun j hj => by
  refine ⟨?_, by rw [World.frozen?_setCell]; exact (h j hj).2⟩
  by_cases e : j = i
  · subst e
    rw [World.cell?_setCell_same _ _ _ (h j hj).1]
    simp
  · rw [World.cell?_setCell_other _ _ _ _ (by simp <;> omega)]
    rw [(h j hj).1]
    simp [e]

/-- A paper that is laid out, as a search reads it. -/
def PA (wE : World) (ad : Option Addr) (ra : Nat) (L : List (Int × Int × Int)) : Prop :=
  TRow wE ad L ∧ ∀ e, ∃ a cap, Row wE a (gix L e) ∧ ∀ wx : World, Below wE.heap.size wE wx → (Instr.lookup 64 (.map (some ra)) (ek e) false).run Tryz.prog wx = .ok (.slice a (gix L e).length cap) wx
theorem PA.kept {w w' : World} {ad : Option Addr} {ra : Nat} {L : List (Int × Int × Int)} (h : PA w ad ra L) (hb : Below w.heap.size w w') : PA w' ad ra L :=
  ⟨h.1.kept hb, fun e => by
    obtain ⟨a, cap, h1, h2⟩ := h.2 e
    exact ⟨a, cap, h1.kept hb, fun wx hx => h2 wx (bl_via hb hx)⟩⟩

/-- Maps, number by number; the one that leaves all where it is; none. -/
abbrev M6 := Int × Int × Int × Int × Int × Int
def noM : M6 := (0, 0, 0, 0, 0, 0)
/-- First one map, then another. -/
def aft (m n : M6) : M6 :=
  (dot n.1 n.2.1 m.1 m.2.2.1, dot n.1 n.2.1 m.2.1 m.2.2.2.1, dot n.2.2.1 n.2.2.2.1 m.1 m.2.2.1, dot n.2.2.1 n.2.2.2.1 m.2.1 m.2.2.2.1, dot n.1 n.2.1 m.2.2.2.2.1 m.2.2.2.2.2 + n.2.2.2.2.1, dot n.2.2.1 n.2.2.2.1 m.2.2.2.2.1 m.2.2.2.2.2 + n.2.2.2.2.2)
/-- The line of an edge, and the mirror at a line. -/
def lnW (e : Int × Int × Int × Int) : Int := if e.1 = e.2.2.1 then 0 else if e.2.1 = e.2.2.2 then 1 else if e.2.2.2 < e.2.1 then 2 else 3
def lnC (e : Int × Int × Int × Int) : Int := if e.1 = e.2.2.1 then e.1 else if e.2.1 = e.2.2.2 then e.2.1 else if e.2.2.2 < e.2.1 then e.1 + e.2.1 else e.1 - e.2.1
def mir (v c : Int) : M6 := (mA v, mB v, mB v, mD v, mE v c, mF v c)
/-- The map beyond an edge. -/
def farM (kd : Int × Int × Int × Int → Int) (e : Int × Int × Int × Int) (m : M6) : M6 := if kd e = 0 then m else aft (mir (lnW e) (lnC e)) m
def mapM (m : M6) : Bool := mapB m.1 m.2.1 m.2.2.1 m.2.2.2.1 m.2.2.2.2.1 m.2.2.2.2.2
def GoodM (m : M6) (B : Int) : Prop := mapM m = true ∧ (-B ≤ m.2.2.2.2.1 ∧ m.2.2.2.2.1 ≤ B) ∧ (-B ≤ m.2.2.2.2.2 ∧ m.2.2.2.2.2 ≤ B)
theorem noM_not : mapM noM = false := by decide

theorem line_may {t : Int × Int × Int} {e : Int × Int × Int × Int} (h : hasT t e = true) (hb : (0 ≤ t.1 ∧ t.1 ≤ 8) ∧ (0 ≤ t.2.1 ∧ t.2.1 ≤ 8) ∧ (0 ≤ t.2.2 ∧ t.2.2 ≤ 3)) : lineB (lnW e) (lnC e) = true ∧ -40 ≤ lnC e ∧ lnC e ≤ 40 := by
  obtain ⟨x, y, k⟩ := t
  obtain ⟨p, q, r, s⟩ := e
  simp only [hasT] at h hb
  rw [hasB_or] at h
  obtain ⟨hx, hy, hk⟩ := hb
  have hk4 : k = 0 ∨ k = 1 ∨ k = 2 ∨ k = 3 := by omega
  have key : (p = r → p % 2 = 0) ∧ (q = s → q % 2 = 0) ∧ (p + q) % 2 = 0 ∧ (0 ≤ p ∧ p ≤ 18) ∧ (0 ≤ q ∧ q ≤ 18) := by
    rcases hk4 with rfl | rfl | rfl | rfl <;> simp only [e0_0, e0_1, e0_2, e0_3, e1_0, e1_1, e1_2, e1_3, e2_0, e2_1, e2_2, e2_3] at h <;> omega
  clear h hk4
  by_cases c1 : p = r
  · simp only [lineB, lnW, lnC, if_pos c1, decide_eq_true_eq]
    omega
  · by_cases c2 : q = s
    · simp only [lineB, lnW, lnC, if_neg c1, if_pos c2, decide_eq_true_eq]
      omega
    · by_cases c3 : s < q
      · simp only [lineB, lnW, lnC, if_neg c1, if_neg c2, if_pos c3, decide_eq_true_eq]
        omega
      · simp only [lineB, lnW, lnC, if_neg c1, if_neg c2, if_neg c3, decide_eq_true_eq]
        omega

theorem mir_may {v c : Int} (h : lineB v c = true) (hb : -40 ≤ c ∧ c ≤ 40) : GoodM (mir v c) 80 := by
  obtain ⟨h0, h3, b1, b2, b3⟩ := line_bd h
  have hv : v = 0 ∨ v = 1 ∨ v = 2 ∨ v = 3 := by omega
  rcases hv with rfl | rfl | rfl | rfl <;> simp [GoodM, mapM, mir, mapB, mA, mB, mD, mE, mF, unitB, evenB] <;> omega

/-- The four numbers of a map that may be: a turn or a mirror. -/
theorem map_lin {a b c d e f : Int} (h : mapB a b c d e f = true) : ((a = 1 ∨ a = -1) ∧ b = 0 ∧ c = 0 ∧ (d = 1 ∨ d = -1)) ∨ (a = 0 ∧ (b = 1 ∨ b = -1) ∧ (c = 1 ∨ c = -1) ∧ d = 0) := by
  simp only [mapB, unitB, Bool.and_eq_true, Bool.or_eq_true, decide_eq_true_eq] at h
  omega
theorem edge_bd {t : Int × Int × Int} {e : Int × Int × Int × Int} (h : hasT t e = true) (hb : (0 ≤ t.1 ∧ t.1 ≤ 8) ∧ (0 ≤ t.2.1 ∧ t.2.1 ≤ 8) ∧ (0 ≤ t.2.2 ∧ t.2.2 ≤ 3)) : (0 ≤ e.1 ∧ e.1 ≤ 100) ∧ (0 ≤ e.2.1 ∧ e.2.1 ≤ 100) ∧ (0 ≤ e.2.2.1 ∧ e.2.2.1 ≤ 100) ∧ (0 ≤ e.2.2.2 ∧ e.2.2.2 ≤ 100) := by
  obtain ⟨x, y, k⟩ := t
  obtain ⟨p, q, r, s⟩ := e
  simp only [hasT] at h hb
  rw [hasB_or] at h
  obtain ⟨hx, hy, hk⟩ := hb
  have hk4 : k = 0 ∨ k = 1 ∨ k = 2 ∨ k = 3 := by omega
  dsimp only
  rcases hk4 with rfl | rfl | rfl | rfl <;> simp only [e0_0, e0_1, e0_2, e0_3, e1_0, e1_1, e1_2, e1_3, e2_0, e2_1, e2_2, e2_3] at h <;> omega

theorem TEM.lt {w : World} {r : Nat} {ls : List ((Int × Int × Int) × Value × Nat)} {c : Nat} (h : TEM w r ls c) : r < w.heap.size := (Array.getElem?_eq_some_iff.1 h).1
theorem TEM.grown {w w' : World} {r : Nat} {ls : List ((Int × Int × Int) × Value × Nat)} {c : Nat} {row : Option Nat} (h : TEM w r ls c) (hg : w.grownBy w' row) (hne : some r ≠ row) : TEM w' r ls c := (hg.block r h.lt hne).trans h
end Go.Proofs.YtmjhfdohcghhoaaGreatDoor
