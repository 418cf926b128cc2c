/- cmp.Or, compare, the reference's lessStraight, turned. -/
import Derived.Test.YtohnppjbmpaomaaTurn
namespace Go.Proofs.Ytohnppjbmpaomaa
open Go.RowKit

/-- The first number that is not 0. -/
def orL (l : List Int) : Int := (l.find? fun n => n != 0).getD 0
theorem orL_at {l : List Int} {i : Nat} (h : i < l.length) (hz : ∀ k, k < i → gt l k = 0) (hn : gt l i ≠ 0) : orL l = gt l i := by
  induction l generalizing i with
  | nil => simp at h
  | cons a r ih =>
    cases i with
    | zero =>
      simp [gt] at hn
      simp [orL, gt, hn]
    | succ j =>
      have h0 : a = 0 := by simpa [gt] using hz 0 (by omega)
      have := ih (i := j) (by simpa using h) (fun k hk => by simpa [gt] using hz (k + 1) (by omega)) (by simpa [gt] using hn)
      simp only [orL, h0] at this ⊢
      simpa [gt] using this
theorem orL_none {l : List Int} (hz : ∀ k, k < l.length → gt l k = 0) : orL l = 0 := by
  induction l with
  | nil => rfl
  | cons a r ih =>
    have h0 : a = 0 := by simpa [gt] using hz 0 (by simp)
    have := ih (fun k hk => by simpa [gt] using hz (k + 1) (by simp; omega))
    simp only [orL, h0] at this ⊢
    simpa using this
set_option maxRecDepth 100000 in
set_option maxHeartbeats 1600000 in
theorem or48 (v : Value) (l : List Int) (w : World) (hv : Sg w v l) (hl : l.length ≤ 100) :
    Calls Try.prog 48 #[v] w fun e w' => e = .returned (.int .i64 (orL l)) ∧ Below w.heap.size w w' := by
  obtain ⟨a, c, rfl, hR⟩ := hv
  have HR : Hid (∀ i, i < l.length → ∃ g off, a = some ⟨g, off, none⟩ ∧ w.cell? ⟨g, off + i, none⟩ = some (.int .i64 (gt l i))) := hR
  obtain ⟨V, hV⟩ : ∃ V, V = orL l := ⟨_, rfl⟩
  have HV : Hid (V = orL l) := hV
  rw [← hV]
  clear hR hV
  go_enter Try.func48, Try.ntmps48
  go_wp2
  go_loopg [8] l.length (fun gk s8 wx => ∃ i : Nat, i ≤ l.length ∧ gk = l.length - i ∧ s8 = .int .i64 (i : Int) ∧ Below w.heap.size w wx ∧ ∀ k, k < i → gt l k = 0)
  case atStart => exact ⟨0, by omega, rfl, rfl, bl_refl _, fun k hk => by omega⟩
  case round =>
    obtain ⟨i, hi, rfl, rfl, hB, hno⟩ := hrel
    have HB : Hid (Below w.heap.size w wr ∧ ∀ k, k < i → gt l k = 0) := ⟨hB, hno⟩
    clear hB hno
    by_cases h1 : i < l.length
    · have i1 : (i : Int) < (l.length : Int) := by omega
      have i0 : (0 : Int) ≤ (i : Int) := by omega
      obtain ⟨g, off, rfl, c0⟩ := HR.out i h1
      replace c0 := cl_kept HB.out.1 c0
      have zg : g < wr.heap.size := World.block_lt_of_cell? _ _ c0
      have HA := fun hn => orL_at h1 HB.out.2 hn
      obtain ⟨vi, hvi⟩ : ∃ v, v = gt l i := ⟨_, rfl⟩
      rw [← hvi] at c0 HA
      have HVI : Hid (vi = gt l i ∧ (vi ≠ 0 → orL l = vi)) := ⟨hvi, HA⟩
      clear hvi HA
      by_cases hz : vi = 0
      · have HN : Hid (∀ k, k < i + 1 → gt l k = 0) := fun k hk => by
          by_cases hki : k < i
          · exact HB.out.2 k hki
          · have : k = i := by omega
            rw [this, ← HVI.out.1, hz]
        have qz : (vi != 0) = false := by simpa using hz
        clear hz
        go_wp2
        go_roundg (l.length - (i + 1))
        case measure => omega
        case rel => exact ⟨i + 1, by omega, rfl, by go_num, HB.out.1, HN.out⟩
      · have qz : (vi != 0) = true := by simpa using hz
        go_wp2
        go_ret
        exact ⟨ret_int (by rw [HV.out, HVI.out.2 hz]), HB.out.1⟩
    · have i1 : ¬ (i : Int) < (l.length : Int) := by omega
      obtain rfl : i = l.length := by omega
      have HZ : Hid (V = 0) := HV.out.trans (orL_none HB.out.2)
      go_wp2
      go_ret
      exact ⟨ret_int HZ.out.symm, HB.out.1⟩
theorem cells3 {w : World} {g : Nat} {x y X : Int} (h0 : w.cell? ⟨g, 0, none⟩ = some (.int .i64 x)) (h1 : w.cell? ⟨g, 1, none⟩ = some (.int .i64 y)) (h2 : w.cell? ⟨g, 2, none⟩ = some (.int .i64 X)) : ∀ i, i < 3 → w.cell? ⟨g, i, none⟩ = some (.int .i64 (gt [x, y, X] i)) := fun i hi => by
  have : i = 0 ∨ i = 1 ∨ i = 2 := by omega
  rcases this with rfl | rfl | rfl <;> assumption
/-- How two straights stand to one another. -/
def cmpS (a b c A B C : Int) : Int := orL [cmpI a A, cmpI b B, cmpI c C]
set_option maxRecDepth 100000 in
set_option maxHeartbeats 6400000 in
theorem compare32 (a b c A B C : Int) (w : World) : Calls Try.prog 32 #[.agg #[.int .i64 a, .int .i64 b, .int .i64 c], .agg #[.int .i64 A, .int .i64 B, .int .i64 C]] w fun e w' => e = .returned (.int .i64 (cmpS a b c A B C)) ∧ Below w.heap.size w w' := by
  have C1 : Hid (∀ W, Calls Try.prog 37 #[.int .i64 a, .int .i64 A] W fun e w' => e = .returned (.int .i64 (cmpI a A)) ∧ Below W.heap.size W w') := fun W => cmp37 a A W
  have C2 : Hid (∀ W, Calls Try.prog 37 #[.int .i64 b, .int .i64 B] W fun e w' => e = .returned (.int .i64 (cmpI b B)) ∧ Below W.heap.size W w') := fun W => cmp37 b B W
  have C3 : Hid (∀ W, Calls Try.prog 37 #[.int .i64 c, .int .i64 C] W fun e w' => e = .returned (.int .i64 (cmpI c C)) ∧ Below W.heap.size W w') := fun W => cmp37 c C W
  have CO : Hid (∀ (g : Nat) (W : World), (∀ i, i < 3 → W.cell? ⟨g, i, none⟩ = some (.int .i64 (gt [cmpI a A, cmpI b B, cmpI c C] i))) → Calls Try.prog 48 #[.slice (some ⟨g, 0, none⟩) 3 3] W fun e w' => e = .returned (.int .i64 (cmpS a b c A B C)) ∧ Below W.heap.size W w') := fun g W h => or48 _ [cmpI a A, cmpI b B, cmpI c C] W (built_sg (l := [cmpI a A, cmpI b B, cmpI c C]) h 3) (by simp)
  generalize cmpS a b c A B C = V at *
  generalize cmpI a A = k1 at *
  generalize cmpI b B = k2 at *
  generalize cmpI c C = k3 at *
  go_enter Try.func32, Try.ntmps32
  go_wp2
  have HSX : Hid (∀ w', Below ((w.alloc (.cells #[.int .i64 a, .int .i64 b, .int .i64 c] 25)).alloc (.cells #[.int .i64 A, .int .i64 B, .int .i64 C] 25)).heap.size ((w.alloc (.cells #[.int .i64 a, .int .i64 b, .int .i64 c] 25)).alloc (.cells #[.int .i64 A, .int .i64 B, .int .i64 C] 25)) w' → w'.cell? ⟨w.heap.size, 0, none⟩ = some (.int .i64 a) ∧ w'.cell? ⟨w.heap.size, 1, none⟩ = some (.int .i64 b) ∧ w'.cell? ⟨w.heap.size, 2, none⟩ = some (.int .i64 c) ∧ w'.cell? ⟨w.heap.size + 1, 0, none⟩ = some (.int .i64 A) ∧ w'.cell? ⟨w.heap.size + 1, 1, none⟩ = some (.int .i64 B) ∧ w'.cell? ⟨w.heap.size + 1, 2, none⟩ = some (.int .i64 C)) := fun w' hw => ⟨cl_kept hw (by simp [go_sem]), cl_kept hw (by simp [go_sem]), cl_kept hw (by simp [go_sem]), cl_kept hw (by simp [go_sem]), cl_kept hw (by simp [go_sem]), cl_kept hw (by simp [go_sem])⟩
  go_region_held3 (fun w' => w'.cell? ⟨w.heap.size, 0, none⟩ = some (.int .i64 a) ∧ w'.cell? ⟨w.heap.size, 1, none⟩ = some (.int .i64 b) ∧ w'.cell? ⟨w.heap.size, 2, none⟩ = some (.int .i64 c) ∧ w'.cell? ⟨w.heap.size + 1, 0, none⟩ = some (.int .i64 A) ∧ w'.cell? ⟨w.heap.size + 1, 1, none⟩ = some (.int .i64 B) ∧ w'.cell? ⟨w.heap.size + 1, 2, none⟩ = some (.int .i64 C)) ((refine HSX.out _ ?_; (repeat first | exact bl_refl _ | apply bl_drew | apply bl_alloc | (refine bl_via ?_ (by assumption))); done)) (first | (go_at_call 37; (with_reducible refine Calls.mono (C1.out _) ?_); rintro e wa ⟨rfl, hba⟩) | (go_at_call 37; (with_reducible refine Calls.mono (C2.out _) ?_); rintro e wa ⟨rfl, hba⟩) | (go_at_call 37; (with_reducible refine Calls.mono (C3.out _) ?_); rintro e wa ⟨rfl, hba⟩) | (go_at_call 48; refine Calls.mono (CO.out _ _ (cells3 ?_ ?_ ?_)) ?_; (focus (first | (simp [go_sem]; done) | (refine cl_kept (by assumption) ?_; simp [go_sem]; done) | fail)); (focus (first | (simp [go_sem]; done) | (refine cl_kept (by assumption) ?_; simp [go_sem]; done) | fail)); (focus (first | (simp [go_sem]; done) | (refine cl_kept (by assumption) ?_; simp [go_sem]; done) | fail)); rintro e wa ⟨rfl, hba⟩) | fail)
  all_goals
    go_wp2
    go_ret
    exact ⟨rfl, by (repeat first | exact bl_refl _ | apply bl_drew | apply bl_alloc | (refine bl_via ?_ (by assumption)))⟩
/-- Is one straight ahead of the other? -/
def lsS (a b c A B C : Int) : Bool := if a != A then decide (a < A) else if b != B then decide (b < B) else decide (c < C)
set_option maxRecDepth 100000 in
theorem less36 (a b c A B C : Int) (w : World) : Calls Try.prog 36 #[.agg #[.int .i64 a, .int .i64 b, .int .i64 c], .agg #[.int .i64 A, .int .i64 B, .int .i64 C]] w fun e w' => e = .returned (.bool (lsS a b c A B C)) ∧ Below w.heap.size w w' := by
  obtain ⟨V, hV⟩ : ∃ V, V = lsS a b c A B C := ⟨_, rfl⟩
  rw [← hV]
  cases q1 : (a != A)
  · cases q2 : (b != B)
    · have HV : Hid (V = decide (c < C)) := (by rw [hV, lsS, q1, q2]; rfl : V = decide (c < C))
      clear hV
      go_enter Try.func36, Try.ntmps36
      go_wp2
      go_ret
      exact ⟨ret_bool HV.out.symm, bl_alloc (bl_alloc (bl_refl _))⟩
    · have HV : Hid (V = decide (b < B)) := (by rw [hV, lsS, q1, q2]; rfl : V = decide (b < B))
      clear hV
      go_enter Try.func36, Try.ntmps36
      go_wp2
      go_ret
      exact ⟨ret_bool HV.out.symm, bl_alloc (bl_alloc (bl_refl _))⟩
  · have HV : Hid (V = decide (a < A)) := (by rw [hV, lsS, q1]; rfl : V = decide (a < A))
    clear hV
    go_enter Try.func36, Try.ntmps36
    go_wp2
    go_ret
    exact ⟨ret_bool HV.out.symm, bl_alloc (bl_alloc (bl_refl _))⟩
theorem cmpI_zero {x y : Int} : cmpI x y = 0 ↔ x = y := by unfold cmpI; split <;> (try split) <;> omega
theorem cmpI_neg {x y : Int} : cmpI x y < 0 ↔ x < y := by unfold cmpI; split <;> (try split) <;> omega
theorem cmpS_neg (a b c A B C : Int) : decide (cmpS a b c A B C < 0) = lsS a b c A B C := by
  have e : cmpS a b c A B C = if cmpI a A = 0 then (if cmpI b B = 0 then cmpI c C else cmpI b B) else cmpI a A := by
    unfold cmpS orL
    by_cases h1 : cmpI a A = 0 <;> by_cases h2 : cmpI b B = 0 <;> by_cases h3 : cmpI c C = 0 <;> simp [h1, h2, h3]
  rw [e]
  unfold lsS
  by_cases h1 : a = A
  · by_cases h2 : b = B
    · rw [if_pos (cmpI_zero.2 h1), if_pos (cmpI_zero.2 h2), if_neg (by simp [h1]), if_neg (by simp [h2])]
      exact decide_eq_decide.2 cmpI_neg
    · rw [if_pos (cmpI_zero.2 h1), if_neg (fun h => h2 (cmpI_zero.1 h)), if_neg (by simp [h1]), if_pos (by simp [h2])]
      exact decide_eq_decide.2 cmpI_neg
  · rw [if_neg (fun h => h1 (cmpI_zero.1 h)), if_pos (by simp [h1])]
    exact decide_eq_decide.2 cmpI_neg
/-- 0, if they are parallel. -/
def trd (a b A B : Int) : Int := a * B - b * A
set_option maxRecDepth 100000 in
theorem turned33 (a b c A B C : Int) (w : World) (ha : bd 1000 a) (hb : bd 1000 b) (hA : bd 1000 A) (hB : bd 1000 B) : Calls Try.prog 33 #[.agg #[.int .i64 a, .int .i64 b, .int .i64 c], .agg #[.int .i64 A, .int .i64 B, .int .i64 C]] w fun e w' => e = .returned (.int .i64 (trd a b A B)) ∧ Below w.heap.size w w' := by
  have m1 := bd_mul ha hB
  have m2 := bd_mul hb hA
  unfold bd at *
  unfold trd
  obtain ⟨_, _⟩ := m1
  obtain ⟨_, _⟩ := m2
  clear ha hb hA hB
  go_enter Try.func33, Try.ntmps33
  go_wp2
  go_ret
  exact ⟨rfl, bl_alloc (bl_alloc (bl_refl _))⟩
end Go.Proofs.Ytohnppjbmpaomaa
