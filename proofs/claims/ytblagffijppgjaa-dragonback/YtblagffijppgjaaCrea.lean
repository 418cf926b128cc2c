/- Kinds of creases, looked for; what folds may not be. -/
import Derived.Test.YtblagffijppgjaaSmal
namespace Go.Proofs.Ytblagffijppgjaa
open Go.RowKit

theorem one26 (k : Int) (w : World) : Calls Try.prog 26 #[.int .i64 k] w fun e w' => e = .returned (.bool (!isK k)) ∧ Below w.heap.size w w' := by
  by_cases h1 : k = 1
  · subst h1
    go_enter Try.func26, Try.ntmps26
    go_wp2
    go_ret
    exact ⟨rfl, bl_refl _⟩
  · by_cases h2 : k = 2
    · subst h2
      go_enter Try.func26, Try.ntmps26
      go_wp2
      go_ret
      exact ⟨rfl, bl_refl _⟩
    · have q1 : (k != 1) = true := by simpa using h1
      have q2 : (k != 2) = true := by simpa using h2
      have q3 : isK k = false := by simp [isK, h1, h2]
      go_enter Try.func26, Try.ntmps26
      go_wp2
      go_ret
      exact ⟨ret_bool (by rw [q3]; simp ), bl_refl _⟩
def IxF (l : List Int) (r : Int) : Prop := decide (0 ≤ r) = !allK l
set_option maxRecDepth 100000 in
set_option maxHeartbeats 800000 in
theorem index31 (v : Value) (l : List Int) (w : World) (hv : Sg w v l) (hl : l.length ≤ 17592186044416) :
    Calls Try.prog 31 #[v, .func (.func 26) #[] #[]] w fun e w' => ∃ r : Int, e = .returned (.int .i64 r) ∧ IxF l r ∧ Below w.heap.size w w' := by
  obtain ⟨a, c, rfl, hR⟩ := hv
  have HR : Hid (∀ i, i < l.length → ∃ g off, a = some ⟨g, off, none⟩ ∧ w.cell? ⟨g, off + i, none⟩ = some (.int .i64 (gt l i))) := hR
  have C26 : Hid (∀ (k : Int) (W : World), Calls Try.prog 26 #[.int .i64 k] W fun e w' => e = .returned (.bool (!isK k)) ∧ Below W.heap.size W w') := fun k W => one26 k W
  clear hR
  go_enter Try.func31, Try.ntmps31
  go_wp2
  go_loopg [8] l.length (fun gk s8 wx => ∃ i : Nat, i ≤ l.length ∧ gk = l.length - i ∧ s8 = .int .i64 (i : Int) ∧ Below w.heap.size w wx ∧ ∀ k, k < i → isK (gt l k) = true)
  case atStart => exact ⟨0, by omega, rfl, rfl, bl_refl _, fun k hk => by omega⟩
  case round =>
    obtain ⟨i, hi, rfl, rfl, hB, hno⟩ := hrel
    have HB : Hid (Below w.heap.size w wr ∧ ∀ k, k < i → isK (gt l k) = true) := ⟨hB, hno⟩
    clear hB hno
    by_cases h1 : i < l.length
    · have i1 : (i : Int) < (l.length : Int) := by omega
      have i0 : (0 : Int) ≤ (i : Int) := by omega
      obtain ⟨g, off, rfl, c0⟩ := HR.out i h1
      replace c0 := cl_kept HB.out.1 c0
      have zg : g < wr.heap.size := World.block_lt_of_cell? _ _ c0
      obtain ⟨vi, hvi⟩ : ∃ v, v = gt l i := ⟨_, rfl⟩
      rw [← hvi] at c0
      have HVI : Hid (vi = gt l i) := hvi
      clear hvi
      have C1 := C26.out vi
      obtain ⟨kb, hkb⟩ : ∃ b, b = isK vi := ⟨_, rfl⟩
      rw [← hkb] at C1
      have HK : Hid (kb = isK vi) := hkb
      have CH : Hid (∀ (W : World), Calls Try.prog 26 #[.int .i64 vi] W fun e w' => e = .returned (.bool (!kb)) ∧ Below W.heap.size W w') := C1
      clear hkb C1
      cases kb
      · go_wp2_with (go_at_call 26; refine (CH.out _).mono ?_; rintro e w1 ⟨rfl, hb⟩; simp only [Bool.not_false])
        go_ret
        refine ⟨(i : Int), rfl, ?_, bl_via HB.out.1 hb⟩
        unfold IxF
        have hn : allK l = false := by
          have h2 := HK.out
          rw [HVI.out] at h2
          simp [isK] at h2
          exact not_allK h1 h2.1 h2.2
        rw [hn]
        simp
      · have HN : Hid (∀ k, k < i + 1 → isK (gt l k) = true) := fun k hk => by
          by_cases hki : k < i
          · exact HB.out.2 k hki
          · have : k = i := by omega
            rw [this, ← HVI.out]
            exact HK.out.symm
        go_wp2_with (go_at_call 26; refine (CH.out _).mono ?_; rintro e w1 ⟨rfl, hb⟩; simp only [Bool.not_true])
        go_roundg (l.length - (i + 1))
        case measure => omega
        case rel => exact ⟨i + 1, by omega, rfl, by go_num, bl_via HB.out.1 hb, HN.out⟩
    · have i1 : ¬ (i : Int) < (l.length : Int) := by omega
      obtain rfl : i = l.length := by omega
      go_wp2
      go_ret
      refine ⟨-1, rfl, ?_, HB.out.1⟩
      unfold IxF
      have hn : allK l = true := allK_of fun k hk => by
        have := HB.out.2 k hk
        simpa [isK] using this
      rw [hn]
      simp
theorem contains25 (v : Value) (l : List Int) (w : World) (hv : Sg w v l) (hl : l.length ≤ 17592186044416) :
    Calls Try.prog 25 #[v, .func (.func 26) #[] #[]] w fun e w' => e = .returned (.bool (!allK l)) ∧ Below w.heap.size w w' := by
  have CI : Hid (Calls Try.prog 31 #[v, .func (.func 26) #[] #[]] w fun e w' => ∃ r : Int, e = .returned (.int .i64 r) ∧ IxF l r ∧ Below w.heap.size w w') := index31 v l w hv hl
  obtain ⟨a, c, rfl, hR⟩ := hv
  clear hR
  go_enter Try.func25, Try.ntmps25
  go_wp2_with (go_at_call 31; refine CI.out.mono ?_; rintro e w1 ⟨r, rfl, hr, hb⟩)
  go_ret
  exact ⟨ret_bool hr, hb⟩
theorem creases18 (v : Value) (l : List Int) (w : World) (hv : Sg w v l) (hl : l.length ≤ 17592186044416) :
    Calls Try.prog 18 #[v] w fun e w' => e = .returned (.bool (allK l)) ∧ Below w.heap.size w w' := by
  have CI : Hid (Calls Try.prog 25 #[v, .func (.func 26) #[] #[]] w fun e w' => e = .returned (.bool (!allK l)) ∧ Below w.heap.size w w') := contains25 v l w hv hl
  obtain ⟨a, c, rfl, hR⟩ := hv
  clear hR
  obtain ⟨kb, hkb⟩ : ∃ b, b = allK l := ⟨_, rfl⟩
  rw [← hkb] at CI ⊢
  clear hkb
  go_enter Try.func18, Try.ntmps18
  go_wp2_with (go_at_call 25; refine CI.out.mono ?_; rintro e w1 ⟨rfl, hb⟩)
  go_ret
  exact ⟨ret_bool (by simp), hb⟩
/-- What the reference finds wrong with folds. -/
def fmay (l : List Int) : Int := if 10 < l.length then 2 else if allK l = true then 0 else 4
set_option maxRecDepth 100000 in
set_option maxHeartbeats 800000 in
theorem foldsMay_any (v : Value) (l : List Int) (w : World) (hv : Sg w v l) (hl : l.length ≤ 17592186044416) :
    Calls Try.prog 10 #[v] w fun e w' => e = .returned (.int .i64 (fmay l)) ∧ Below w.heap.size w w' := by
  obtain ⟨a, c, rfl, hR⟩ := hv
  have HR : Hid (∀ i, i < l.length → ∃ g off, a = some ⟨g, off, none⟩ ∧ w.cell? ⟨g, off + i, none⟩ = some (.int .i64 (gt l i))) := hR
  obtain ⟨nv, hnv⟩ : ∃ b, b = fmay l := ⟨_, rfl⟩
  have HC : Hid (nv = fmay l) := hnv
  rw [← hnv]
  clear hR hnv
  by_cases q : 10 < (l.length : Int)
  · have HE : Hid (nv = 2) := by
      have : nv = 2 := by
        rw [HC.out, fmay, if_pos (by omega)]
      exact this
    go_enter Try.func10, Try.ntmps10
    go_wp2
    go_ret
    exact ⟨ret_int HE.out.symm, bl_refl _⟩
  · have HD : Hid (nv = if allK l = true then 0 else 4) := by
      have : nv = if allK l = true then 0 else 4 := by rw [HC.out, fmay, if_neg (by omega)]
      exact this
    clear HC
    go_enter Try.func10, Try.ntmps10
    go_wp2
    go_loopg [3] l.length (fun gk s3 wx => ∃ i : Nat, i ≤ l.length ∧ gk = l.length - i ∧ s3 = .int .i64 (i : Int) ∧ Below w.heap.size w wx ∧ ∀ k, k < i → gt l k = 1 ∨ gt l k = 2)
    case atStart => exact ⟨0, by omega, rfl, rfl, bl_refl _, fun k hk => by omega⟩
    case round =>
      obtain ⟨i, hi, rfl, rfl, hB, hno⟩ := hrel
      have HB : Hid (Below w.heap.size w wr ∧ ∀ k, k < i → gt l k = 1 ∨ gt l k = 2) := ⟨hB, hno⟩
      clear hB hno
      by_cases h1 : i < l.length
      · have i1 : (i : Int) < (l.length : Int) := by omega
        have i0 : (0 : Int) ≤ (i : Int) := by omega
        obtain ⟨g, off, rfl, c0⟩ := HR.out i h1
        replace c0 := cl_kept HB.out.1 c0
        have zg : g < wr.heap.size := World.block_lt_of_cell? _ _ c0
        obtain ⟨vi, hvi⟩ : ∃ v, v = gt l i := ⟨_, rfl⟩
        rw [← hvi] at c0
        have HVI : Hid (vi = gt l i) := hvi
        clear hvi
        have HM : Hid (vi = 1 ∨ vi = 2 → ∀ k, k < i + 1 → gt l k = 1 ∨ gt l k = 2) := fun h k hk => by
          by_cases hki : k < i
          · exact HB.out.2 k hki
          · have : k = i := by omega
            rw [this, ← HVI.out]
            exact h
        by_cases e1 : vi = 1
        · have HN : Hid (∀ k, k < i + 1 → gt l k = 1 ∨ gt l k = 2) := HM.out (Or.inl e1)
          clear HVI HM
          subst e1
          go_wp2
          go_roundg (l.length - (i + 1))
          case measure => omega
          case rel => exact ⟨i + 1, by omega, rfl, by go_num, HB.out.1, HN.out⟩
        · by_cases e2 : vi = 2
          · have HN : Hid (∀ k, k < i + 1 → gt l k = 1 ∨ gt l k = 2) := HM.out (Or.inr e2)
            clear HVI HM e1
            subst e2
            go_wp2
            go_roundg (l.length - (i + 1))
            case measure => omega
            case rel => exact ⟨i + 1, by omega, rfl, by go_num, HB.out.1, HN.out⟩
          · have HE : Hid (nv = 4) := by
              have : nv = 4 := by
                rw [HD.out, not_allK h1 (by rw [← HVI.out]; exact e1) (by rw [← HVI.out]; exact e2)]
                rfl
              exact this
            have q1 : (vi != 1) = true := by simpa using e1
            have q2 : (vi != 2) = true := by simpa using e2
            clear HM
            go_wp2
            go_ret
            exact ⟨ret_int HE.out.symm, HB.out.1⟩
      · have i1 : ¬ (i : Int) < (l.length : Int) := by omega
        obtain rfl : i = l.length := by omega
        have HE : Hid (nv = 0) := by
          have : nv = 0 := by
            rw [HD.out, allK_of HB.out.2]
            rfl
          exact this
        go_wp2
        go_ret
        exact ⟨ret_int HE.out.symm, HB.out.1⟩
end Go.Proofs.Ytblagffijppgjaa
