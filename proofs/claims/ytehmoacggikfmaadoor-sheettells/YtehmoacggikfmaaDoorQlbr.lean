/- slices.Repeat of one number. -/
import Derived.Test.YtehmoacggikfmaaDoorQlaf
import Derived.Test.YtehmoacggikfmaaDoorQlal
import Derived.Laws.CopyOwn
import Derived.Deep.RegionHeld3
namespace Go.Proofs.YtehmoacggikfmaaDoor
open Go.RowKit

theorem mul_one_any (n : Nat) (h : n ≤ 1000000) (w : World) : Calls Tryd.prog 58 #[.int .u64 1, .int .u64 (n : Int)] w fun e w' => e = .returned (.tuple #[.int .u64 0, .int .u64 (n : Int)]) ∧ w' = w := by
  have := Tryd.bits_Mul 1 n (by omega) (by omega) w
  have e1 : 1 * n / 18446744073709551616 = 0 := by omega
  have e2 : 1 * n % 18446744073709551616 = n := by omega
  rw [e1, e2] at this
  exact this

/-- A row whose first m cells hold a number, the others nought. -/
def rp (z : Int) (m n : Nat) : List Value := List.replicate m (.int .i64 z) ++ List.replicate (n - m) (.int .i64 0)
theorem rp_len (z : Int) {m n : Nat} (h : m ≤ n) : (rp z m n).length = n := by simp [rp]; omega
theorem rp_splice (z : Int) {m c n : Nat} (_h : m + c ≤ n) : splice (rp z m n) m (List.replicate c (.int .i64 z)) = rp z (m + c) n := by
  unfold splice rp
  have e1 : List.take m (List.replicate m (Value.int .i64 z) ++ List.replicate (n - m) (Value.int .i64 0)) = List.replicate m (Value.int .i64 z) := by
    rw [List.take_append_of_le_length (by simp)]
    simp
  have e2 : List.drop (m + (List.replicate c (Value.int .i64 z)).length) (List.replicate m (Value.int .i64 z) ++ List.replicate (n - m) (Value.int .i64 0)) = List.replicate (n - (m + c)) (Value.int .i64 0) := by
    rw [List.drop_append, List.drop_eq_nil_of_le (by simp), List.nil_append, List.drop_replicate]
    congr 1
    simp
    omega
  rw [e1, e2, ← List.append_assoc, List.replicate_append_replicate]
theorem rp_cell {w : World} {g n : Nat} {z : Int} {m : Nat} (h : w.heap[g]? = some (.cells (rp z m n).toArray 3 (0, 0))) {c : Nat} (hc : c ≤ m) : ∀ j v, (List.replicate c (Value.int .i64 z))[j]? = some v → w.cell? ((⟨g, 0, none⟩ : Addr).add j) = some v := by
  intro j v hv
  have hj : j < c := by
    rcases Nat.lt_or_ge j c with hj | hj
    · exact hj
    · rw [List.getElem?_eq_none (by simpa using hj)] at hv
      cases hv
  have hv' : v = .int .i64 z := by
    rw [List.getElem?_eq_getElem (by simpa using hj)] at hv
    simpa using hv.symm
  subst hv'
  have ha : (⟨g, 0, none⟩ : Addr).add j = ⟨g, j, none⟩ := by unfold Addr.add; split <;> simp_all
  rw [ha]
  simp [World.cell?, h, rp]
  rw [List.getElem?_append_left (by simp; omega)]
  rw [List.getElem?_replicate, if_pos (by omega)]
theorem rep_one (c : Nat) (z : Int) : ∀ v ∈ List.replicate c (Value.int .i64 z), v.oneCell' = true := by
  intro v hv
  rw [List.eq_of_mem_replicate hv]
  rfl

theorem made_row {w : World} {base g n : Nat} (ho : w.ownsRow base 3 1 (.slice (some ⟨g, 0, none⟩) n n) n (madeCells #[Value.int .i64 0] n).toList) : w.heap[g]? = some (.cells (List.replicate n (Value.int .i64 0)).toArray 3 (0, 0)) := by
  rcases ho.2 with ⟨e, _⟩ | ⟨g', cap, cur, e, h2, h3, h4, h5, h6, h7⟩
  · cases e
  · simp only [Value.slice.injEq, Option.some.injEq, Addr.mk.injEq, and_true, true_and] at e
    obtain ⟨rfl, rfl⟩ := e
    have h8 : cur.toList = List.replicate n (Value.int .i64 0) := by
      rw [Nat.mul_one, List.take_of_length_le (by rw [Array.length_toList]; omega)] at h7
      rw [h7]
      apply List.ext_getElem
      · simp [madeCells]
      · intro i h1 h2
        simp [madeCells, Nat.mod_one]
    rw [h3, ← h8]

set_option maxRecDepth 100000 in
set_option maxHeartbeats 3200000 in
theorem repeat_any (z : Int) (sb n : Nat) (w : World) (hn : n ≤ 1000000) (hc : w.cell? ⟨sb, 0, none⟩ = some (.int .i64 z)) :
    Calls Tryd.prog 48 #[.slice (some ⟨sb, 0, none⟩) 1 1, .int .i64 (n : Int)] w fun e w' => e = .returned (.slice (some ⟨w.heap.size, 0, none⟩) n n) ∧ w'.heap[w.heap.size]? = some (.cells (rp z n n).toArray 3 (0, 0)) ∧ Below w.heap.size w w' := by
  obtain ⟨i3, hi3, hz0, hz1, hz2⟩ := info_parts inf3
  have HI3 : Hid (Tryd.prog.info? 3 = some i3 ∧ i3.zero = some (.int .i64 0) ∧ i3.size = 1 ∧ i3.bytes = 8) := ⟨hi3, hz0, hz1, hz2⟩
  have hsz : (Tryd.prog.info? 3).map (fun i => i.size) = some 1 := by rw [hi3]; simp [hz1]
  have HSZ : Hid ((Tryd.prog.info? 3).map (fun i => i.size) = some 1) := hsz
  clear hi3 hz0 hz1 hz2 hsz
  have n0 : (0 : Int) ≤ (n : Int) := by omega
  have n1 : (n : Int) ≤ 1000000 := by omega
  go_enter Tryd.func48, Tryd.ntmps48
  go_wp2_with (first
    | (go_at_call 58; refine (mul_one_any n hn _).mono ?_; rintro e w' ⟨rfl, hw⟩; have hw2 := hw.symm; clear hw; subst hw2)
    | (at_make; refine wpList_make_full _ rfl (.tmp 29) (.tmp 29) 22 rfl w.heap.size 3 i3 (.int .i64 0) 1 Tryd.underlying22 HI3.out.1 HI3.out.2.1 HI3.out.2.2.1 .i64 .i64 _ _ n rfl rfl rfl rfl ?b2 ?b3 ?b4 ?mk))
  case b2 =>
    rw [HI3.out.2.2.2]
    omega
  case b3 =>
    unfold maxLen
    omega
  case b4 => exact Nat.le_refl _
  case mk =>
    intro w2 ho hg
    have hbel : Below w.heap.size w w2 := (Below.refl _ _).grown hg (Nat.le_refl _) (fun k h => by cases h)
    have hrow : w2.heap[w.heap.size]? = some (.cells (rp z 0 n).toArray 3 (0, 0)) := by simpa [rp] using made_row ho
    clear ho hg
    have HB : Hid (Below w.heap.size w w2 ∧ w2.heap[w.heap.size]? = some (.cells (rp z 0 n).toArray 3 (0, 0))) := ⟨hbel, hrow⟩
    have hc2 : w2.cell? ⟨sb, 0, none⟩ = some (.int .i64 z) := cl_kept hbel hc
    have HC2 : Hid (w2.cell? ⟨sb, 0, none⟩ = some (.int .i64 z)) := hc2
    clear hbel hrow hc hc2
    obtain ⟨c, hcc⟩ : ∃ c, c = Nat.min 1 n := ⟨_, rfl⟩
    have hc1 : c ≤ 1 := by rw [hcc]; exact Nat.min_le_left _ _
    have hcn : c ≤ n := by rw [hcc]; exact Nat.min_le_right _ _
    have hcp : n = 0 ∨ c = 1 := by
      rcases Nat.eq_zero_or_pos n with h | h
      · exact Or.inl h
      · exact Or.inr (by rw [hcc]; exact Nat.min_eq_left h)
    have HPO : Hid (0 < (List.replicate c (Value.int .i64 z)).length → (some (⟨w.heap.size, 0, none⟩ : Addr)) = some ⟨w.heap.size, 0, none⟩ ∧ ∃ ad, (some (⟨sb, 0, none⟩ : Addr)) = some ad ∧ ∀ j v, (List.replicate c (Value.int .i64 z))[j]? = some v → w2.cell? (ad.add j) = some v) := fun _ => ⟨rfl, _, rfl, fun j v hv => by
      have hj : j < c := by
        rcases Nat.lt_or_ge j c with hj | hj
        · exact hj
        · rw [List.getElem?_eq_none (by simpa using hj)] at hv
          cases hv
      obtain rfl : j = 0 := by omega
      rw [List.getElem?_replicate, if_pos hj] at hv
      rw [← hv]
      simpa [Addr.add] using HC2.out⟩
    go_wp2_with (refine wpList_copy_splice (by rfl) (.tmp 31) (.tmp 32) 22 22 (by rfl) 3 Tryd.underlying22 HSZ.out (some ⟨w.heap.size, 0, none⟩) (some ⟨sb, 0, none⟩) n n 1 1 (by rfl) (by rfl) w.heap.size 0 (rp z 0 n) 3 HB.out.2 (List.replicate c (.int .i64 z)) (by rw [List.length_replicate]; exact hcc) HPO.out (by rw [List.length_replicate, rp_len z (Nat.zero_le n)]; omega) (rep_one c z) w.heap.size w HB.out.1 (Nat.le_refl _) ?_; intro w3 HG3 hb3)
    have HG : Hid (w3.heap[w.heap.size]? = some (.cells (rp z c n).toArray 3 (0, 0)) ∧ Below w.heap.size w w3) := by
      have := HG3.out
      rw [rp_splice z (by omega), Nat.zero_add] at this
      exact ⟨this, hb3⟩
    have HCC : Hid (c = Nat.min 1 n) := hcc
    clear HG3 hb3 HB HC2 hcc
    go_loopg [8] n (fun gk s8 wx => ∃ m : Nat, m ≤ n ∧ n - m ≤ gk ∧ s8 = .int .i64 (m : Int) ∧ (n = 0 ∨ 1 ≤ m) ∧ wx.heap[w.heap.size]? = some (.cells (rp z m n).toArray 3 (0, 0)) ∧ Below w.heap.size w wx)
    case atStart => exact ⟨c, hcn, by omega, by rw [HCC.out], hcp.imp id (fun h => by omega), HG.out⟩
    case round =>
      clear hcn hcp hc1 HG
      obtain ⟨m, hm, hgk, rfl, hm1, hr, hB⟩ := hrel
      have HR : Hid (wr.heap[w.heap.size]? = some (.cells (rp z m n).toArray 3 (0, 0)) ∧ Below w.heap.size w wr) := ⟨hr, hB⟩
      clear hr hB
      by_cases h1 : m < n
      · have i1 : (m : Int) < (n : Int) := by omega
        have i0 : (0 : Int) ≤ (m : Int) := by omega
        have i2 : (m : Int) ≤ (n : Int) := by omega
        obtain ⟨k, hk⟩ : ∃ k, k = Nat.min m (n - m) := ⟨_, rfl⟩
        have hk1 : k ≤ m := by rw [hk]; exact Nat.min_le_left _ _
        have hk2 : k ≤ n - m := by rw [hk]; exact Nat.min_le_right _ _
        have hk3 : 1 ≤ k := by rw [hk]; exact Nat.le_min.2 ⟨by omega, by omega⟩
        have hnm : ¬ n = m := by omega
        have HK : Hid (k = Nat.min m (n - m)) := hk
        clear hk
        go_wp2
        go_region_held3 (fun _ => True) (trivial) (((refine step_copy_splice (by rfl) (.tmp 41) (.tmp 44) 22 22 (by rfl) 3 Tryd.underlying22 HSZ.out (some ⟨w.heap.size, m, none⟩) (some ⟨w.heap.size, 0, none⟩) (n - m) (n - m) m n (by rfl) (by rfl) w.heap.size m (rp z m n) 3 HR.out.1 (List.replicate k (.int .i64 z)) (by rw [List.length_replicate]; exact HK.out) (fun _ => ⟨rfl, _, rfl, rp_cell HR.out.1 hk1⟩) (by rw [List.length_replicate, rp_len z hm]; omega) (rep_one k z) w.heap.size w (bl_drew HR.out.2) (Nat.le_refl _) ?_; intro w3 HG3 hb3)))
        all_goals
          go_wp2
          go_roundg (n - (m + k))
          case measure => omega
          case rel =>
            refine ⟨m + k, by omega, by omega, (congrArg _ (by first | omega | (rw [IntKind.wrap_i64]; omega))), Or.inr (by omega), ?_, hb3⟩
            have := HG3.out
            rw [rp_splice z (by omega)] at this
            exact this
      · have i1 : ¬ (m : Int) < (n : Int) := by omega
        obtain rfl : m = n := by omega
        go_wp2
        go_ret
        exact ⟨rfl, HR.out⟩
end Go.Proofs.YtehmoacggikfmaaDoor
