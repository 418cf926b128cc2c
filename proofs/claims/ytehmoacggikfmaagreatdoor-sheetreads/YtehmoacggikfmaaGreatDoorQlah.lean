/- A part of the proof of sheetReads_holds. -/
import Derived.Test.YtehmoacggikfmaaGreatDoorQlab
import Derived.Test.YtehmoacggikfmaaGreatDoorQlag
import Derived.Laws.AppendOwn
import Derived.Laws.IdiomStrings
import Derived.Laws.CopyOwn
import Derived.Deep.RegionHeld3
namespace Go.Proofs.YtehmoacggikfmaaGreatDoor
open Go.RowKit

def bs (x : List UInt8) : ByteArray := ⟨x.toArray⟩
def stV (l : List (List UInt8)) : List Value := l.map fun x => .string (bs x)
theorem stV_snoc (l : List (List UInt8)) (x : List UInt8) : stV (l ++ [x]) = stV l ++ [.string (bs x)] := by simp [stV]
theorem inf9 : (Tryz.prog.info? 9).map (fun i => (i.zero, i.size, i.bytes)) = some (some (.string ⟨#[]⟩), 1, 16) := by kernel_rfl
/-- Lines or words that were gathered, in memory of one's own. -/
def LI (w wx : World) (v : Value) (D : List (List UInt8)) : Prop := wx.ownsRow w.heap.size 9 1 v D.length (stV D) ∧ Below w.heap.size w wx
theorem LI.kept {w wr wx : World} {v : Value} {D : List (List UInt8)} (h : LI w wr v D) (hb : Below wr.heap.size wr wx) : LI w wx v D := ⟨own_below h.1 hb, bl_via h.2 hb⟩
theorem LI.push {w wr w3 : World} {v v' : Value} {D : List (List UInt8)} {C : List UInt8} {o : Obj} (h : LI w wr v D) (ho : w3.ownsRow w.heap.size 9 1 v' (D.length + 1) (stV D ++ [.string (bs C)])) (hg : (wr.alloc o).grownBy w3 v.ownBlock) : LI w w3 v' (D ++ [C]) := by
  refine ⟨?_, (bl_via h.2 (bl_alloc (bl_refl _))).grown hg (bl_via h.2 (bl_alloc (bl_refl _))).size (fun k hk => own_base h.1 k hk)⟩
  rw [stV_snoc, List.length_append]
  exact ho
theorem st_cell {w : World} {g : Nat} (x : ByteArray) (h : w.cell? ⟨g, 0, none⟩ = some (.string x)) : ∀ j u, [Value.string x][j]? = some u → w.cell? ((⟨g, 0, none⟩ : Addr).add j) = some u := by
  intro j u hu
  match j, hu with
  | 0, hu => simp at hu; subst hu; simpa [Addr.add] using h
theorem st_one (x : ByteArray) : ∀ u ∈ [Value.string x], u.oneCell' = true := by
  intro u hu
  simp at hu
  subst hu
  rfl
theorem drop_at (s : ByteArray) (i : Nat) (h : i < s.size) : s.data.toList.drop i = s[i] :: s.data.toList.drop (i + 1) := by
  have e : s.data.toList[i]? = some s[i] := by
    rw [Array.getElem?_toList]
    exact Array.getElem?_eq_getElem (xs := s.data) h
  rw [List.drop_eq_getElem?_toList_append, e]
  rfl
theorem bs_add (C : List UInt8) (s : ByteArray) (i : Nat) (h : i < s.size) : bs C ++ s.extract i (i + 1) = bs (C ++ [s[i]]) := by
  have e : (s.extract i (i + 1)).data.toList = [s[i]] := by
    rw [mdB_toList]
    unfold mdB
    rw [drop_at s i h, show i + 1 - i = 1 by omega]
    rfl
  have h2 : (bs C ++ s.extract i (i + 1)).data.toList = C ++ [s[i]] := by
    rw [ByteArray.data_append, Array.toList_append, e]
    rfl
  unfold bs at *
  rw [← h2]
theorem bs_size (C : List UInt8) : (bs C).size = C.length := by simp [bs, ByteArray.size]
theorem u8_eq (c : UInt8) (n : Int) (d : UInt8) (hd : (d.toNat : Int) = n) : ((c.toNat : Int) == n) = decide (c = d) := by
  subst hd
  by_cases h : c = d
  · simp [h]
  · have h2 : (c.toNat : Int) ≠ (d.toNat : Int) := fun e => h (UInt8.toNat_inj.1 (by omega))
    rw [beq_eq_false_iff_ne.2 h2]
    simp [h]
theorem bs_toList (C : List UInt8) : (bs C).toList = C := (ByteArray.toList_eq _).trans rfl
theorem bs_emp (C : List UInt8) : (bs C).toList.isEmpty = decide (C = []) := by
  rw [bs_toList]
  cases C <;> simp
theorem sepB_of (c : UInt8) : sepB c = (decide (c = 9) || decide (c = 13) || decide (c = 32)) := by
  unfold sepB
  rfl
theorem ahd_cons (c : UInt8) (r : List UInt8) (h : c ≠ 35) : ahd (c :: r) = c :: ahd r := by
  unfold ahd
  rw [List.takeWhile_cons, if_pos (by simpa using h)]
theorem ahd_stop (r : List UInt8) : ahd (35 :: r) = [] := rfl

set_option maxRecDepth 100000 in
set_option maxHeartbeats 3200000 in
theorem refLines_any (s : ByteArray) (w : World) (hs : s.size ≤ 8000) :
    Calls Tryz.prog 14 #[.string s] w fun e w' => ∃ v, e = .returned v ∧ LI w w' v (ln s.data.toList) := by
  obtain ⟨i9, hi, hz0, hz1, hz2⟩ := info_parts inf9
  have HI : Hid (Tryz.prog.info? 9 = some i9 ∧ i9.zero = some (.string ⟨#[]⟩) ∧ i9.size = 1 ∧ i9.bytes = 16) := ⟨hi, hz0, hz1, hz2⟩
  clear hi hz0 hz1 hz2
  go_enter Tryz.func14, Tryz.ntmps14
  go_wp2
  go_loopg [3, 4, 5] s.size (fun g s3 s4 s5 wx => ∃ (i : Nat) (D : List (List UInt8)) (C : List UInt8), i ≤ s.size ∧ g = s.size - i ∧ s5 = .int .i64 (i : Int) ∧ s4 = .string (bs C) ∧ C.length ≤ i ∧ D.length ≤ i ∧ D ++ lnF (s.data.toList.drop i) C = ln s.data.toList ∧ LI w wx s3 D)
  case atStart => exact ⟨0, [], [], by omega, rfl, rfl, rfl, by simp, by simp, rfl, by simpa [stV] using World.ownsRow_nil _ _ _ _, bl_refl _⟩
  case round =>
    obtain ⟨i, D, C, hi, rfl, rfl, rfl, hC, hD, hL, hT⟩ := hrel
    obtain ⟨va, hva⟩ : ∃ u, u = u3 := ⟨_, rfl⟩
    subst hva
    have HT : Hid (LI w wr va D) := hT
    have HL : Hid (D ++ lnF (s.data.toList.drop i) C = ln s.data.toList) := hL
    clear hT hL
    by_cases h1 : i < s.size
    · have i1 : (i : Int) < (s.size : Int) := by omega
      have hbz := bs_size C
      have hez : (s.extract i (i + 1)).size = 1 := by simp; omega
      have hq := u8_eq s[i] 10 10 rfl
      by_cases h10 : s[i] = 10
      · rw [decide_eq_true h10] at hq
        go_wp2_with (at_builtin; refine wpList_append_own _ rfl (.tmp 16) (.tmp 18) 33 rfl w.heap.size 9 i9 (.string ⟨#[]⟩) 1 16 Tryz.underlying33 HI.out.1 HI.out.2.1 HI.out.2.2.1 HI.out.2.2.2 rfl (by decide) va D.length (stV D) rfl (own_below HT.out.1 (bl_alloc (bl_refl _))) ⟨wr.heap.size, 0, none⟩ 1 1 [.string (bs C)] rfl rfl (st_cell _ (by simp [go_sem])) (st_one _) (by unfold maxLen; omega) (by omega) (by have := HT.out.2.size; simp; omega) ?gA)
        case gA =>
          intro v' w3 ho hg _
          have HT2 : Hid (LI w w3 v' (D ++ [C])) := HT.out.push ho hg
          clear ho hg
          go_wp2
          go_roundg (s.size - (i + 1))
          case measure => omega
          case rel =>
            refine ⟨i + 1, D ++ [C], [], by omega, rfl, by go_num, rfl, by simp, by simp; omega, ?_, HT2.out⟩
            rw [← HL.out, drop_at s i h1, lnF, if_pos h10, List.append_assoc]
            rfl
      · rw [decide_eq_false h10] at hq
        go_wp2_with (fail)
        go_roundg (s.size - (i + 1))
        case measure => omega
        case rel =>
          refine ⟨i + 1, D, C ++ [s[i]], by omega, rfl, by go_num, by rw [bs_add C s i h1], by simp; omega, by omega, ?_, HT.out⟩
          rw [← HL.out, drop_at s i h1, lnF, if_neg h10]
    · have i1 : ¬ (i : Int) < (s.size : Int) := by omega
      obtain rfl : i = s.size := by omega
      have hd : s.data.toList.drop s.size = [] := List.drop_eq_nil_of_le (by rw [Array.length_toList]; exact Nat.le_refl _)
      have HL2 := HL.out
      rw [hd, lnF] at HL2
      by_cases hc : C = []
      · subst hc
        have hb := bs_emp []
        rw [decide_eq_true rfl] at hb
        rw [if_pos rfl, List.append_nil] at HL2
        have HE : Hid (D = ln s.data.toList) := HL2
        clear HL2
        go_wp2_with (fail)
        go_ret
        exact ⟨va, rfl, by rw [← HE.out]; exact HT.out⟩
      · have hb := bs_emp C
        rw [decide_eq_false hc] at hb
        rw [if_neg hc] at HL2
        have HE : Hid (D ++ [C] = ln s.data.toList) := HL2
        clear HL2 hc
        go_wp2_with (at_builtin; refine wpList_append_own _ rfl (.tmp 29) (.tmp 31) 33 rfl w.heap.size 9 i9 (.string ⟨#[]⟩) 1 16 Tryz.underlying33 HI.out.1 HI.out.2.1 HI.out.2.2.1 HI.out.2.2.2 rfl (by decide) va D.length (stV D) rfl (own_below HT.out.1 (bl_alloc (bl_refl _))) ⟨wr.heap.size, 0, none⟩ 1 1 [.string (bs C)] rfl rfl (st_cell _ (by simp [go_sem])) (st_one _) (by unfold maxLen; omega) (by omega) (by have := HT.out.2.size; simp; omega) ?gA)
        case gA =>
          intro v' w3 ho hg _
          have HT2 : Hid (LI w w3 v' (D ++ [C])) := HT.out.push ho hg
          clear ho hg
          go_wp2
          go_ret
          exact ⟨v', rfl, by rw [← HE.out]; exact HT2.out⟩
set_option maxRecDepth 100000 in
set_option maxHeartbeats 6400000 in
theorem refWords_any (s : ByteArray) (w : World) (hs : s.size ≤ 8000) :
    Calls Tryz.prog 15 #[.string s] w fun e w' => ∃ v, e = .returned v ∧ LI w w' v (wd (ahd s.data.toList)) := by
  obtain ⟨i9, hi, hz0, hz1, hz2⟩ := info_parts inf9
  have HI : Hid (Tryz.prog.info? 9 = some i9 ∧ i9.zero = some (.string ⟨#[]⟩) ∧ i9.size = 1 ∧ i9.bytes = 16) := ⟨hi, hz0, hz1, hz2⟩
  clear hi hz0 hz1 hz2
  go_enter Tryz.func15, Tryz.ntmps15
  go_wp2
  go_loopg [3, 4, 5] s.size (fun g s3 s4 s5 wx => ∃ (i : Nat) (D : List (List UInt8)) (C : List UInt8), i ≤ s.size ∧ g = s.size - i ∧ s5 = .int .i64 (i : Int) ∧ s4 = .string (bs C) ∧ C.length ≤ i ∧ D.length ≤ i ∧ D ++ wdF (ahd (s.data.toList.drop i)) C = wd (ahd s.data.toList) ∧ LI w wx s3 D)
  case atStart => exact ⟨0, [], [], by omega, rfl, rfl, rfl, by simp, by simp, rfl, by simpa [stV] using World.ownsRow_nil _ _ _ _, bl_refl _⟩
  case round =>
    obtain ⟨i, D, C, hi, rfl, rfl, rfl, hC, hD, hL, hT⟩ := hrel
    obtain ⟨va, hva⟩ : ∃ u, u = u3 := ⟨_, rfl⟩
    subst hva
    have HT : Hid (LI w wr va D) := hT
    have HL : Hid (D ++ wdF (ahd (s.data.toList.drop i)) C = wd (ahd s.data.toList)) := hL
    clear hT hL
    by_cases h1 : i < s.size
    · have i1 : (i : Int) < (s.size : Int) := by omega
      have hbz := bs_size C
      have hez : (s.extract i (i + 1)).size = 1 := by simp; omega
      have hq := u8_eq s[i] 35 35 rfl
      by_cases h35 : s[i] = 35
      · rw [decide_eq_true h35] at hq
        have HL2 := HL.out
        rw [drop_at s i h1, h35, ahd_stop, wdF] at HL2
        clear HL
        by_cases hc : C = []
        · subst hc
          have hb := bs_emp []
          rw [decide_eq_true rfl] at hb
          rw [if_pos rfl, List.append_nil] at HL2
          have HE : Hid (D = wd (ahd s.data.toList)) := HL2
          clear HL2
          go_wp2_with (fail)
          go_ret
          exact ⟨va, rfl, by rw [← HE.out]; exact HT.out⟩
        · have hb := bs_emp C
          rw [decide_eq_false hc] at hb
          rw [if_neg hc] at HL2
          have HE : Hid (D ++ [C] = wd (ahd s.data.toList)) := HL2
          clear HL2 hc
          go_wp2_with (at_builtin; refine wpList_append_own _ rfl (.tmp 43) (.tmp 45) 33 rfl w.heap.size 9 i9 (.string ⟨#[]⟩) 1 16 Tryz.underlying33 HI.out.1 HI.out.2.1 HI.out.2.2.1 HI.out.2.2.2 rfl (by decide) va D.length (stV D) rfl (own_below HT.out.1 (bl_alloc (bl_refl _))) ⟨wr.heap.size, 0, none⟩ 1 1 [.string (bs C)] rfl rfl (st_cell _ (by simp [go_sem])) (st_one _) (by unfold maxLen; omega) (by omega) (by have := HT.out.2.size; simp; omega) ?gA)
          case gA =>
            intro v' w3 ho hg _
            have HT2 : Hid (LI w w3 v' (D ++ [C])) := HT.out.push ho hg
            clear ho hg
            go_wp2
            go_ret
            exact ⟨v', rfl, by rw [← HE.out]; exact HT2.out⟩
      · rw [decide_eq_false h35] at hq
        have q9 := u8_eq s[i] 9 9 rfl
        have q13 := u8_eq s[i] 13 13 rfl
        have q32 := u8_eq s[i] 32 32 rfl
        have HA : Hid (D ++ (if sepB s[i] then (if C = [] then wdF (ahd (s.data.toList.drop (i + 1))) [] else C :: wdF (ahd (s.data.toList.drop (i + 1))) []) else wdF (ahd (s.data.toList.drop (i + 1))) (C ++ [s[i]])) = wd (ahd s.data.toList)) := by
          have := HL.out
          rw [drop_at s i h1, ahd_cons _ _ h35, wdF] at this
          exact this
        clear HL
        by_cases hsep : sepB s[i] = true
        · have HA2 := HA.out
          rw [if_pos hsep] at HA2
          clear HA
          rw [sepB_of] at hsep
          simp only [Bool.or_eq_true, decide_eq_true_eq, or_assoc] at hsep
          by_cases hc : C = []
          · subst hc
            have hb := bs_emp []
            rw [decide_eq_true rfl] at hb
            rw [if_pos rfl] at HA2
            have HE : Hid (D ++ wdF (ahd (s.data.toList.drop (i + 1))) [] = wd (ahd s.data.toList)) := HA2
            clear HA2
            rcases hsep with h | h | h <;> (
                 first | rw [decide_eq_true h] at q9 | rw [show decide (s[i] = 9) = false by rw [h]; rfl] at q9
                 first | rw [decide_eq_true h] at q13 | rw [show decide (s[i] = 13) = false by rw [h]; rfl] at q13
                 first | rw [decide_eq_true h] at q32 | rw [show decide (s[i] = 32) = false by rw [h]; rfl] at q32
                 clear h
                 go_wp2_with (fail)
                 go_roundg (s.size - (i + 1))
                 case measure => omega
                 case rel => exact ⟨i + 1, D, [], by omega, rfl, by go_num, rfl, by simp, by omega, HE.out, HT.out⟩)
          · have hb := bs_emp C
            rw [decide_eq_false hc] at hb
            rw [if_neg hc] at HA2
            have HE : Hid (D ++ C :: wdF (ahd (s.data.toList.drop (i + 1))) [] = wd (ahd s.data.toList)) := HA2
            clear HA2 hc
            rcases hsep with h | h | h <;> (
                 first | rw [decide_eq_true h] at q9 | rw [show decide (s[i] = 9) = false by rw [h]; rfl] at q9
                 first | rw [decide_eq_true h] at q13 | rw [show decide (s[i] = 13) = false by rw [h]; rfl] at q13
                 first | rw [decide_eq_true h] at q32 | rw [show decide (s[i] = 32) = false by rw [h]; rfl] at q32
                 clear h
                 go_wp2_with (at_builtin; refine wpList_append_own _ rfl (.tmp 30) (.tmp 32) 33 rfl w.heap.size 9 i9 (.string ⟨#[]⟩) 1 16 Tryz.underlying33 HI.out.1 HI.out.2.1 HI.out.2.2.1 HI.out.2.2.2 rfl (by decide) va D.length (stV D) rfl (own_below HT.out.1 (bl_alloc (bl_refl _))) ⟨wr.heap.size, 0, none⟩ 1 1 [.string (bs C)] rfl rfl (st_cell _ (by simp [go_sem])) (st_one _) (by unfold maxLen; omega) (by omega) (by have := HT.out.2.size; simp; omega) ?gA)
                 case gA =>
                   intro v' w3 ho hg _
                   have HT2 : Hid (LI w w3 v' (D ++ [C])) := HT.out.push ho hg
                   clear ho hg
                   go_wp2
                   go_roundg (s.size - (i + 1))
                   case measure => omega
                   case rel => exact ⟨i + 1, D ++ [C], [], by omega, rfl, by go_num, rfl, by simp, by simp; omega, by rw [List.append_assoc]; exact HE.out, HT2.out⟩)
        · have HE : Hid (D ++ wdF (ahd (s.data.toList.drop (i + 1))) (C ++ [s[i]]) = wd (ahd s.data.toList)) := by
            have := HA.out
            rw [if_neg hsep] at this
            exact this
          rw [sepB_of] at hsep
          simp only [Bool.or_eq_true, decide_eq_true_eq, not_or] at hsep
          rw [decide_eq_false hsep.1.1] at q9
          rw [decide_eq_false hsep.1.2] at q13
          rw [decide_eq_false hsep.2] at q32
          clear HA hsep
          go_wp2_with (fail)
          go_roundg (s.size - (i + 1))
          case measure => omega
          case rel =>
            refine ⟨i + 1, D, C ++ [s[i]], by omega, rfl, by go_num, by rw [bs_add C s i h1], by simp; omega, by omega, HE.out, HT.out⟩
    · have i1 : ¬ (i : Int) < (s.size : Int) := by omega
      obtain rfl : i = s.size := by omega
      have hd : s.data.toList.drop s.size = [] := List.drop_eq_nil_of_le (by rw [Array.length_toList]; exact Nat.le_refl _)
      have HL2 := HL.out
      rw [hd, show ahd [] = [] from rfl, wdF] at HL2
      clear HL
      by_cases hc : C = []
      · subst hc
        have hb := bs_emp []
        rw [decide_eq_true rfl] at hb
        rw [if_pos rfl, List.append_nil] at HL2
        have HE : Hid (D = wd (ahd s.data.toList)) := HL2
        clear HL2
        go_wp2_with (fail)
        go_ret
        exact ⟨va, rfl, by rw [← HE.out]; exact HT.out⟩
      · have hb := bs_emp C
        rw [decide_eq_false hc] at hb
        rw [if_neg hc] at HL2
        have HE : Hid (D ++ [C] = wd (ahd s.data.toList)) := HL2
        clear HL2 hc
        go_wp2_with (at_builtin; refine wpList_append_own _ rfl (.tmp 43) (.tmp 45) 33 rfl w.heap.size 9 i9 (.string ⟨#[]⟩) 1 16 Tryz.underlying33 HI.out.1 HI.out.2.1 HI.out.2.2.1 HI.out.2.2.2 rfl (by decide) va D.length (stV D) rfl (own_below HT.out.1 (bl_alloc (bl_refl _))) ⟨wr.heap.size, 0, none⟩ 1 1 [.string (bs C)] rfl rfl (st_cell _ (by simp [go_sem])) (st_one _) (by unfold maxLen; omega) (by omega) (by have := HT.out.2.size; simp; omega) ?gA)
        case gA =>
          intro v' w3 ho hg _
          have HT2 : Hid (LI w w3 v' (D ++ [C])) := HT.out.push ho hg
          clear ho hg
          go_wp2
          go_ret
          exact ⟨v', rfl, by rw [← HE.out]; exact HT2.out⟩

theorem mul_one_any (n : Nat) (h : n ≤ 1000000) (w : World) : Calls Tryz.prog 73 #[.int .u64 1, .int .u64 (n : Int)] w fun e w' => e = .returned (.tuple #[.int .u64 0, .int .u64 (n : Int)]) ∧ w' = w := by
  have := Tryz.bits_Mul 1 n (by omega) (by omega) w
  have e1 : 1 * n / 18446744073709551616 = 0 := by omega
  have e2 : 1 * n % 18446744073709551616 = n := by omega
  rw [e1, e2] at this
  exact this

/-- A row whose first m cells hold a number, the others nought. -/
def rp (z : Int) (m n : Nat) : List Value := List.replicate m (.int .i64 z) ++ List.replicate (n - m) (.int .i64 0)
theorem rp_len (z : Int) {m n : Nat} (h : m ≤ n) : (rp z m n).length = n := by simp [rp]; omega
theorem rp_splice (z : Int) {m c n : Nat} (_h : m + c ≤ n) : splice (rp z m n) m (List.replicate c (.int .i64 z)) = rp z (m + c) n := by
  unfold splice rp
  have e1 : List.take m (List.replicate m (Value.int .i64 z) ++ List.replicate (n - m) (Value.int .i64 0)) = List.replicate m (Value.int .i64 z) := by
    rw [List.take_append_of_le_length (by simp)]
    simp
  have e2 : List.drop (m + (List.replicate c (Value.int .i64 z)).length) (List.replicate m (Value.int .i64 z) ++ List.replicate (n - m) (Value.int .i64 0)) = List.replicate (n - (m + c)) (Value.int .i64 0) := by
    rw [List.drop_append, List.drop_eq_nil_of_le (by simp), List.nil_append, List.drop_replicate]
    congr 1
    simp
    omega
  rw [e1, e2, ← List.append_assoc, List.replicate_append_replicate]
theorem rp_cell {w : World} {g n : Nat} {z : Int} {m : Nat} (h : w.heap[g]? = some (.cells (rp z m n).toArray 3 (0, 0))) {c : Nat} (hc : c ≤ m) : ∀ j v, (List.replicate c (Value.int .i64 z))[j]? = some v → w.cell? ((⟨g, 0, none⟩ : Addr).add j) = some v := by
  intro j v hv
  have hj : j < c := by
    rcases Nat.lt_or_ge j c with hj | hj
    · exact hj
    · rw [List.getElem?_eq_none (by simpa using hj)] at hv
      cases hv
  have hv' : v = .int .i64 z := by
    rw [List.getElem?_eq_getElem (by simpa using hj)] at hv
    simpa using hv.symm
  subst hv'
  have ha : (⟨g, 0, none⟩ : Addr).add j = ⟨g, j, none⟩ := by unfold Addr.add; split <;> simp_all
  rw [ha]
  simp [World.cell?, h, rp]
  rw [List.getElem?_append_left (by simp; omega)]
  rw [List.getElem?_replicate, if_pos (by omega)]
theorem rep_one (c : Nat) (z : Int) : ∀ v ∈ List.replicate c (Value.int .i64 z), v.oneCell' = true := by
  intro v hv
  rw [List.eq_of_mem_replicate hv]
  rfl

theorem made_row {w : World} {base g n : Nat} (ho : w.ownsRow base 3 1 (.slice (some ⟨g, 0, none⟩) n n) n (madeCells #[Value.int .i64 0] n).toList) : w.heap[g]? = some (.cells (List.replicate n (Value.int .i64 0)).toArray 3 (0, 0)) := by
  rcases ho.2 with ⟨e, _⟩ | ⟨g', cap, cur, e, h2, h3, h4, h5, h6, h7⟩
  · cases e
  · simp only [Value.slice.injEq, Option.some.injEq, Addr.mk.injEq, and_true, true_and] at e
    obtain ⟨rfl, rfl⟩ := e
    have h8 : cur.toList = List.replicate n (Value.int .i64 0) := by
      rw [Nat.mul_one, List.take_of_length_le (by rw [Array.length_toList]; omega)] at h7
      rw [h7]
      apply List.ext_getElem
      · simp [madeCells]
      · intro i h1 h2
        simp [madeCells, Nat.mod_one]
    rw [h3, ← h8]

set_option maxRecDepth 100000 in
set_option maxHeartbeats 3200000 in
theorem repeat_any (z : Int) (sb n : Nat) (w : World) (hn : n ≤ 1000000) (hc : w.cell? ⟨sb, 0, none⟩ = some (.int .i64 z)) :
    Calls Tryz.prog 50 #[.slice (some ⟨sb, 0, none⟩) 1 1, .int .i64 (n : Int)] w fun e w' => e = .returned (.slice (some ⟨w.heap.size, 0, none⟩) n n) ∧ w'.heap[w.heap.size]? = some (.cells (rp z n n).toArray 3 (0, 0)) ∧ Below w.heap.size w w' := by
  obtain ⟨i3, hi3, hz0, hz1, hz2⟩ := info_parts inf3
  have HI3 : Hid (Tryz.prog.info? 3 = some i3 ∧ i3.zero = some (.int .i64 0) ∧ i3.size = 1 ∧ i3.bytes = 8) := ⟨hi3, hz0, hz1, hz2⟩
  have hsz : (Tryz.prog.info? 3).map (fun i => i.size) = some 1 := by rw [hi3]; simp [hz1]
  have HSZ : Hid ((Tryz.prog.info? 3).map (fun i => i.size) = some 1) := hsz
  clear hi3 hz0 hz1 hz2 hsz
  have n0 : (0 : Int) ≤ (n : Int) := by omega
  have n1 : (n : Int) ≤ 1000000 := by omega
  go_enter Tryz.func50, Tryz.ntmps50
  go_wp2_with (first
    | (go_at_call 73; refine (mul_one_any n hn _).mono ?_; rintro e w' ⟨rfl, hw⟩; have hw2 := hw.symm; clear hw; subst hw2)
    | (at_make; refine wpList_make_full _ rfl (.tmp 29) (.tmp 29) 22 rfl w.heap.size 3 i3 (.int .i64 0) 1 Tryz.underlying22 HI3.out.1 HI3.out.2.1 HI3.out.2.2.1 .i64 .i64 _ _ n rfl rfl rfl rfl ?b2 ?b3 ?b4 ?mk))
  case b2 =>
    rw [HI3.out.2.2.2]
    omega
  case b3 =>
    unfold maxLen
    omega
  case b4 => exact Nat.le_refl _
  case mk =>
    intro w2 ho hg
    have hbel : Below w.heap.size w w2 := (Below.refl _ _).grown hg (Nat.le_refl _) (fun k h => by cases h)
    have hrow : w2.heap[w.heap.size]? = some (.cells (rp z 0 n).toArray 3 (0, 0)) := by simpa [rp] using made_row ho
    clear ho hg
    have HB : Hid (Below w.heap.size w w2 ∧ w2.heap[w.heap.size]? = some (.cells (rp z 0 n).toArray 3 (0, 0))) := ⟨hbel, hrow⟩
    have hc2 : w2.cell? ⟨sb, 0, none⟩ = some (.int .i64 z) := cl_kept hbel hc
    have HC2 : Hid (w2.cell? ⟨sb, 0, none⟩ = some (.int .i64 z)) := hc2
    clear hbel hrow hc hc2
    obtain ⟨c, hcc⟩ : ∃ c, c = Nat.min 1 n := ⟨_, rfl⟩
    have hc1 : c ≤ 1 := by rw [hcc]; exact Nat.min_le_left _ _
    have hcn : c ≤ n := by rw [hcc]; exact Nat.min_le_right _ _
    have hcp : n = 0 ∨ c = 1 := by
      rcases Nat.eq_zero_or_pos n with h | h
      · exact Or.inl h
      · exact Or.inr (by rw [hcc]; exact Nat.min_eq_left h)
    have HPO : Hid (0 < (List.replicate c (Value.int .i64 z)).length → (some (⟨w.heap.size, 0, none⟩ : Addr)) = some ⟨w.heap.size, 0, none⟩ ∧ ∃ ad, (some (⟨sb, 0, none⟩ : Addr)) = some ad ∧ ∀ j v, (List.replicate c (Value.int .i64 z))[j]? = some v → w2.cell? (ad.add j) = some v) := fun _ => ⟨rfl, _, rfl, fun j v hv => by
      have hj : j < c := by
        rcases Nat.lt_or_ge j c with hj | hj
        · exact hj
        · rw [List.getElem?_eq_none (by simpa using hj)] at hv
          cases hv
      obtain rfl : j = 0 := by omega
      rw [List.getElem?_replicate, if_pos hj] at hv
      rw [← hv]
      simpa [Addr.add] using HC2.out⟩
    go_wp2_with (refine wpList_copy_splice (by rfl) (.tmp 31) (.tmp 32) 22 22 (by rfl) 3 Tryz.underlying22 HSZ.out (some ⟨w.heap.size, 0, none⟩) (some ⟨sb, 0, none⟩) n n 1 1 (by rfl) (by rfl) w.heap.size 0 (rp z 0 n) 3 HB.out.2 (List.replicate c (.int .i64 z)) (by rw [List.length_replicate]; exact hcc) HPO.out (by rw [List.length_replicate, rp_len z (Nat.zero_le n)]; omega) (rep_one c z) w.heap.size w HB.out.1 (Nat.le_refl _) ?_; intro w3 HG3 hb3)
    have HG : Hid (w3.heap[w.heap.size]? = some (.cells (rp z c n).toArray 3 (0, 0)) ∧ Below w.heap.size w w3) := by
      have := HG3.out
      rw [rp_splice z (by omega), Nat.zero_add] at this
      exact ⟨this, hb3⟩
    have HCC : Hid (c = Nat.min 1 n) := hcc
    clear HG3 hb3 HB HC2 hcc
    go_loopg [8] n (fun gk s8 wx => ∃ m : Nat, m ≤ n ∧ n - m ≤ gk ∧ s8 = .int .i64 (m : Int) ∧ (n = 0 ∨ 1 ≤ m) ∧ wx.heap[w.heap.size]? = some (.cells (rp z m n).toArray 3 (0, 0)) ∧ Below w.heap.size w wx)
    case atStart => exact ⟨c, hcn, by omega, by rw [HCC.out], hcp.imp id (fun h => by omega), HG.out⟩
    case round =>
      clear hcn hcp hc1 HG
      obtain ⟨m, hm, hgk, rfl, hm1, hr, hB⟩ := hrel
      have HR : Hid (wr.heap[w.heap.size]? = some (.cells (rp z m n).toArray 3 (0, 0)) ∧ Below w.heap.size w wr) := ⟨hr, hB⟩
      clear hr hB
      by_cases h1 : m < n
      · have i1 : (m : Int) < (n : Int) := by omega
        have i0 : (0 : Int) ≤ (m : Int) := by omega
        have i2 : (m : Int) ≤ (n : Int) := by omega
        obtain ⟨k, hk⟩ : ∃ k, k = Nat.min m (n - m) := ⟨_, rfl⟩
        have hk1 : k ≤ m := by rw [hk]; exact Nat.min_le_left _ _
        have hk2 : k ≤ n - m := by rw [hk]; exact Nat.min_le_right _ _
        have hk3 : 1 ≤ k := by rw [hk]; exact Nat.le_min.2 ⟨by omega, by omega⟩
        have hnm : ¬ n = m := by omega
        have HK : Hid (k = Nat.min m (n - m)) := hk
        clear hk
        go_wp2
        go_region_held3 (fun _ => True) (trivial) (((refine step_copy_splice (by rfl) (.tmp 41) (.tmp 44) 22 22 (by rfl) 3 Tryz.underlying22 HSZ.out (some ⟨w.heap.size, m, none⟩) (some ⟨w.heap.size, 0, none⟩) (n - m) (n - m) m n (by rfl) (by rfl) w.heap.size m (rp z m n) 3 HR.out.1 (List.replicate k (.int .i64 z)) (by rw [List.length_replicate]; exact HK.out) (fun _ => ⟨rfl, _, rfl, rp_cell HR.out.1 hk1⟩) (by rw [List.length_replicate, rp_len z hm]; omega) (rep_one k z) w.heap.size w (bl_drew HR.out.2) (Nat.le_refl _) ?_; intro w3 HG3 hb3)))
        all_goals
          go_wp2
          go_roundg (n - (m + k))
          case measure => omega
          case rel =>
            refine ⟨m + k, by omega, by omega, (congrArg _ (by first | omega | (rw [IntKind.wrap_i64]; omega))), Or.inr (by omega), ?_, hb3⟩
            have := HG3.out
            rw [rp_splice z (by omega)] at this
            exact this
      · have i1 : ¬ (m : Int) < (n : Int) := by omega
        obtain rfl : m = n := by omega
        go_wp2
        go_ret
        exact ⟨rfl, HR.out⟩
end Go.Proofs.YtehmoacggikfmaaGreatDoor
