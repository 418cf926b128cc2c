/- A part of the proof of sheetReads_holds. -/
import Derived.Test.YtehmoacggikfmaaGreatDoorQlah
import Derived.Test.YtehmoacggikfmaaGreatDoorQlac
import Derived.WalkLawsBesides
namespace Go.Proofs.YtehmoacggikfmaaGreatDoor
open Go.RowKit

def nuI (x : List UInt8) : Int := match num x with | some v => (v : Int) | none => -1
theorem num_short {x : List UInt8} (h : x.length < 1 ∨ 3 < x.length) : num x = none := by
  unfold num
  rw [if_neg (by omega)]
theorem nuI_none {x : List UInt8} (h : num x = none) : nuI x = -1 := by unfold nuI; rw [h]
theorem size_list (s : ByteArray) : s.data.toList.length = s.size := Array.length_toList
theorem u8_sub (c : UInt8) (n : Int) (h : n ≤ (c.toNat : Int)) (h0 : 0 ≤ n) : IntKind.u8.wrap ((c.toNat : Int) - n) = (c.toNat : Int) - n := by
  have := c.toNat_lt
  simp [IntKind.wrap, IntKind.bits, IntKind.signed]
  omega
theorem pow_bd {n i : Nat} (h : n < 10 ^ i) (hi : i ≤ 2) : n < 100 := Nat.lt_of_lt_of_le h (Nat.pow_le_pow_right (n := 10) (by decide) hi)

set_option maxRecDepth 100000 in
set_option maxHeartbeats 3200000 in
theorem numberOf_any (s : ByteArray) (w : World) :
    Calls Tryz.prog 16 #[.string s] w fun e w' => e = .returned (.int .i64 (nuI s.data.toList)) ∧ w' = w := by
  have hsl := size_list s
  by_cases g1 : s.size < 1
  · have HN : Hid (nuI s.data.toList = -1) := nuI_none (num_short (by omega))
    clear hsl
    have c1 : (s.size : Int) < 1 := by omega
    go_enter Tryz.func16, Tryz.ntmps16
    go_wp2_with (fail)
    go_ret
    exact ⟨by rw [HN.out]; rfl, rfl⟩
  by_cases g3 : 3 < s.size
  · have HN : Hid (nuI s.data.toList = -1) := nuI_none (num_short (by omega))
    clear hsl
    have c1 : ¬ (s.size : Int) < 1 := by omega
    have c3 : 3 < (s.size : Int) := by omega
    go_enter Tryz.func16, Tryz.ntmps16
    go_wp2_with (fail)
    go_ret
    exact ⟨by rw [HN.out]; rfl, rfl⟩
  have HN : Hid (num s.data.toList = numF s.data.toList 0) := by
    show num s.data.toList = _
    unfold num
    rw [if_pos (by omega)]
  clear hsl
  have c1 : ¬ (s.size : Int) < 1 := by omega
  have c3 : ¬ 3 < (s.size : Int) := by omega
  go_enter Tryz.func16, Tryz.ntmps16
  go_wp2_with (fail)
  go_loopg [3, 4] s.size (fun g s3 s4 wx => ∃ (i n : Nat), i ≤ s.size ∧ g = s.size - i ∧ s4 = .int .i64 (i : Int) ∧ s3 = .int .i64 (n : Int) ∧ n < 10 ^ i ∧ numF (s.data.toList.drop i) n = numF s.data.toList 0 ∧ wx = w)
  case atStart => exact ⟨0, 0, by omega, rfl, rfl, rfl, by decide, rfl, rfl⟩
  case round =>
    obtain ⟨i, n, hi, rfl, rfl, rfl, hn, hL, rfl⟩ := hrel
    have HL : Hid (numF (s.data.toList.drop i) n = numF s.data.toList 0) := hL
    have HP : Hid (n < 10 ^ i) := hn
    clear hL hn
    by_cases h1 : i < s.size
    · have i1 : (i : Int) < (s.size : Int) := by omega
      have n3 := pow_bd HP.out (by omega)
      have HL2 := HL.out
      rw [drop_at s i h1, numF] at HL2
      clear HL
      by_cases hd : isD s[i] = true
      · rw [if_pos hd] at HL2
        have hdn := isD_nat hd
        have c4 : ¬ (s[i].toNat : Int) < 48 := by omega
        have c5 : ¬ 57 < (s[i].toNat : Int) := by omega
        have hw := u8_sub s[i] 48 (by omega) (by omega)
        have HE : Hid (numF (s.data.toList.drop (i + 1)) (10 * n + (s[i].toNat - 48)) = numF s.data.toList 0) := HL2
        clear HL2 hd
        obtain ⟨d, hdd⟩ : ∃ d : Nat, d = s[i].toNat - 48 := ⟨_, rfl⟩
        have HDD : Hid (d = s[i].toNat - 48) := hdd
        have e1 : (s[i].toNat : Int) - 48 = (d : Int) := by omega
        rw [e1] at hw
        have d9 : d ≤ 9 := by omega
        clear hdd
        go_wp2_with (fail)
        go_roundg (s.size - (i + 1))
        case measure => omega
        case rel =>
          refine ⟨i + 1, 10 * n + d, by omega, rfl, by go_num, by go_num, ?_, ?_, rfl⟩
          · have := HP.out
            rw [Nat.pow_succ]
            omega
          · rw [HDD.out]
            exact HE.out
      · rw [if_neg hd] at HL2
        have HE : Hid (nuI s.data.toList = -1) := nuI_none (HN.out.trans HL2.symm)
        clear HL2
        have hdn : s[i].toNat < 48 ∨ 57 < s[i].toNat := by
          simp [isD] at hd
          omega
        clear hd
        rcases hdn with hdn | hdn
        · have c4 : (s[i].toNat : Int) < 48 := by omega
          go_wp2_with (fail)
          go_ret
          exact ⟨by rw [HE.out]; rfl, rfl⟩
        · have c4 : ¬ (s[i].toNat : Int) < 48 := by omega
          have c5 : 57 < (s[i].toNat : Int) := by omega
          go_wp2_with (fail)
          go_ret
          exact ⟨by rw [HE.out]; rfl, rfl⟩
    · have i1 : ¬ (i : Int) < (s.size : Int) := by omega
      obtain rfl : i = s.size := by omega
      have hd : s.data.toList.drop s.size = [] := List.drop_eq_nil_of_le (by rw [Array.length_toList]; exact Nat.le_refl _)
      have HE : Hid (nuI s.data.toList = (n : Int)) := by
        have := HL.out
        rw [hd, numF] at this
        show nuI s.data.toList = (n : Int)
        unfold nuI
        rw [HN.out, ← this]
      clear hd
      go_wp2_with (fail)
      go_ret
      exact ⟨by rw [HE.out]; rfl, rfl⟩

def leI (c : UInt8) : Int := match ltr c with | some v => (v : Int) | none => -1
set_option maxRecDepth 100000 in
set_option maxHeartbeats 3200000 in
theorem letterOf_any (c : UInt8) (w : World) : Calls Tryz.prog 18 #[.int .u8 (c.toNat : Int)] w fun e w' => e = .returned (.int .i64 (leI c)) ∧ w' = w := by
  by_cases hd : isD c = true
  · have hdn := isD_nat hd
    have HE : Hid (leI c = (c.toNat : Int) - 48) := by
      show leI c = _
      unfold leI ltr
      rw [if_pos hd]
      simp only []
      omega
    clear hd
    have c4 : 48 ≤ (c.toNat : Int) := by omega
    have c5 : (c.toNat : Int) ≤ 57 := by omega
    have hw := u8_sub c 48 (by omega) (by omega)
    go_enter Tryz.func18, Tryz.ntmps18
    go_wp2_with (fail)
    go_ret
    exact ⟨by rw [HE.out]; rfl, rfl⟩
  · have hdn : c.toNat < 48 ∨ 57 < c.toNat := by
      simp [isD] at hd
      omega
    by_cases h9 : 97 ≤ c.toNat ∧ c.toNat ≤ 102
    · have HE : Hid (leI c = (c.toNat : Int) - 97 + 10) := by
        show leI c = _
        unfold leI ltr
        rw [if_neg hd, if_pos h9]
        simp only []
        omega
      clear hd
      obtain ⟨h91, h92⟩ := h9
      have c4 : 48 ≤ (c.toNat : Int) := by omega
      have c5 : ¬ (c.toNat : Int) ≤ 57 := by omega
      have c6 : 97 ≤ (c.toNat : Int) := by omega
      have c7 : (c.toNat : Int) ≤ 102 := by omega
      have hw := u8_sub c 97 (by omega) (by omega)
      clear hdn
      go_enter Tryz.func18, Tryz.ntmps18
      go_wp2_with (fail)
      go_ret
      exact ⟨by rw [HE.out]; rfl, rfl⟩
    · have HE : Hid (leI c = -1) := by
        show leI c = _
        unfold leI ltr
        rw [if_neg hd, if_neg h9]
      clear hd
      by_cases k1 : c.toNat < 48
      · have c4 : ¬ 48 ≤ (c.toNat : Int) := by omega
        have c6 : ¬ 97 ≤ (c.toNat : Int) := by omega
        clear hdn h9
        go_enter Tryz.func18, Tryz.ntmps18
        go_wp2_with (fail)
        go_ret
        exact ⟨by rw [HE.out]; rfl, rfl⟩
      · have c4 : 48 ≤ (c.toNat : Int) := by omega
        have c5 : ¬ (c.toNat : Int) ≤ 57 := by omega
        by_cases k2 : 97 ≤ c.toNat
        · have c6 : 97 ≤ (c.toNat : Int) := by omega
          have c7 : ¬ (c.toNat : Int) ≤ 102 := by omega
          clear hdn h9
          go_enter Tryz.func18, Tryz.ntmps18
          go_wp2_with (fail)
          go_ret
          exact ⟨by rw [HE.out]; rfl, rfl⟩
        · have c6 : ¬ 97 ≤ (c.toNat : Int) := by omega
          clear hdn h9
          go_enter Tryz.func18, Tryz.ntmps18
          go_wp2_with (fail)
          go_ret
          exact ⟨by rw [HE.out]; rfl, rfl⟩

/-- What a panic of the reader carries. -/
abbrev PF (c a : Int) : Ending := .panicked [{ v := .iface 28 (.agg #[.int .i64 c, .int .i64 a]), recovered := false }]
set_option maxRecDepth 100000 in
theorem refuse_no (rb : Nat) (c : Int) (w : World) : Calls Tryz.prog 23 #[.pointer (some ⟨rb, 0, none⟩), .bool false, .int .i64 c] w fun e w' => e = .returned (.tuple #[]) ∧ w' = w := by
  go_enter Tryz.func23, Tryz.ntmps23
  go_wp2
  first | go_ret | go_end0
  exact ⟨rfl, rfl⟩
set_option maxRecDepth 100000 in
theorem refuse_yes (rb : Nat) (c a : Int) (w : World) (h : w.cell? ⟨rb, 1, none⟩ = some (.int .i64 a)) : Calls Tryz.prog 23 #[.pointer (some ⟨rb, 0, none⟩), .bool true, .int .i64 c] w fun e w' => e = PF c a ∧ w' = w := by
  go_enter Tryz.func23, Tryz.ntmps23
  go_wp2
  simp [bodyPost, PF]

def nuN (x : List UInt8) : Int := match num x with | some v => (v : Int) | none => 0
def nuB (x : List UInt8) : Bool := (num x).isSome
theorem nu_none {x : List UInt8} (h : num x = none) : nuN x = 0 ∧ nuB x = false := by unfold nuN nuB; rw [h]; exact ⟨rfl, rfl⟩
theorem nu_some {x : List UInt8} {v : Nat} (h : num x = some v) : nuN x = (v : Int) ∧ nuB x = true := by unfold nuN nuB; rw [h]; exact ⟨rfl, rfl⟩
/-- A text's bytes, in new memory. -/
def BR (w wx : World) (s : ByteArray) : Prop := (∀ i (h : i < s.size), wx.cell? ⟨w.heap.size, i, none⟩ = some (.int .u8 (s[i].toNat : Int))) ∧ Below w.heap.size w wx
theorem bytes_of (s : ByteArray) (w : World) : ∃ cap w1, (convert 9 109 (.string s)).run Tryz.prog w = .ok (.slice (some ⟨w.heap.size, 0, none⟩) s.size cap) w1 ∧ BR w w1 s := by
  have h := run_bytes_of_string (P := Tryz.prog) w 9 109 5 s Tryz.underlying9 Tryz.underlying109 Tryz.underlying5
  refine ⟨_, _, h, fun i hi => ?_, ?_⟩
  · have hb := bytesRow_at s (grownCap w s.size 0 5) i hi
    have hz : w.drew.heap.size = w.heap.size := rfl
    have hh : ∀ o : Obj, (w.drew.alloc o).heap[w.drew.heap.size]? = some o := fun o => Array.getElem?_push_size
    rw [← hz]
    unfold World.cell?
    simp only [hh]
    exact hb
  · exact bl_alloc (bl_drew (bl_refl _))

set_option maxRecDepth 100000 in
set_option maxHeartbeats 3200000 in
theorem number43 (s : ByteArray) (w : World) :
    Calls Tryz.prog 43 #[.string s] w fun e w' => e = .returned (.tuple #[.int .i64 (nuN s.data.toList), .bool (nuB s.data.toList)]) ∧ Below w.heap.size w w' := by
  have hsl := size_list s
  by_cases g1 : s.size < 1
  · have HN : Hid (nuN s.data.toList = 0 ∧ nuB s.data.toList = false) := nu_none (num_short (by omega))
    clear hsl
    have c1 : (s.size : Int) < 1 := by omega
    go_enter Tryz.func43, Tryz.ntmps43
    go_wp2_with (fail)
    go_ret2
    exact ⟨by rw [HN.out.1, HN.out.2]; rfl, bl_refl _⟩
  by_cases g3 : 3 < s.size
  · have HN : Hid (nuN s.data.toList = 0 ∧ nuB s.data.toList = false) := nu_none (num_short (by omega))
    clear hsl
    have c1 : ¬ (s.size : Int) < 1 := by omega
    have c3 : 3 < (s.size : Int) := by omega
    go_enter Tryz.func43, Tryz.ntmps43
    go_wp2_with (fail)
    go_ret2
    exact ⟨by rw [HN.out.1, HN.out.2]; rfl, bl_refl _⟩
  have HN : Hid (num s.data.toList = numF s.data.toList 0) := by
    show num s.data.toList = _
    unfold num
    rw [if_pos (by omega)]
  clear hsl
  have c1 : ¬ (s.size : Int) < 1 := by omega
  have c3 : ¬ 3 < (s.size : Int) := by omega
  obtain ⟨cap, w1, hcv, hbr⟩ := bytes_of s w
  have HB : Hid (BR w w1 s) := hbr
  clear hbr
  go_enter Tryz.func43, Tryz.ntmps43
  go_wp2_with (fail)
  go_loopg [4, 18] s.size (fun g s4 s18 wx => ∃ (i n : Nat), i ≤ s.size ∧ g = s.size - i ∧ s18 = .int .i64 (i : Int) ∧ s4 = .int .i64 (n : Int) ∧ n < 10 ^ i ∧ numF (s.data.toList.drop i) n = numF s.data.toList 0 ∧ wx = w1)
  case atStart => exact ⟨0, 0, by omega, rfl, rfl, rfl, by decide, rfl, rfl⟩
  case round =>
    obtain ⟨i, n, hi, rfl, rfl, rfl, hn, hL, rfl⟩ := hrel
    have HL : Hid (numF (s.data.toList.drop i) n = numF s.data.toList 0) := hL
    have HP : Hid (n < 10 ^ i) := hn
    clear hL hn hcv
    by_cases h1 : i < s.size
    · have i1 : (i : Int) < (s.size : Int) := by omega
      have n3 := pow_bd HP.out (by omega)
      have HL2 := HL.out
      have hcl := HB.out.1 i h1
      rw [drop_at s i h1, numF] at HL2
      clear HL
      by_cases hd : isD s[i] = true
      · rw [if_pos hd] at HL2
        have hdn := isD_nat hd
        have c4 : ¬ (s[i].toNat : Int) < 48 := by omega
        have c5 : ¬ 57 < (s[i].toNat : Int) := by omega
        have hw := u8_sub s[i] 48 (by omega) (by omega)
        have HE : Hid (numF (s.data.toList.drop (i + 1)) (10 * n + (s[i].toNat - 48)) = numF s.data.toList 0) := HL2
        clear HL2 hd
        obtain ⟨d, hdd⟩ : ∃ d : Nat, d = s[i].toNat - 48 := ⟨_, rfl⟩
        have HDD : Hid (d = s[i].toNat - 48) := hdd
        have e1 : (s[i].toNat : Int) - 48 = (d : Int) := by omega
        rw [e1] at hw
        have d9 : d ≤ 9 := by omega
        clear hdd
        go_wp2_with (fail)
        go_roundg (s.size - (i + 1))
        case measure => omega
        case rel =>
          refine ⟨i + 1, 10 * n + d, by omega, rfl, by go_num, by go_num, ?_, ?_, rfl⟩
          · have := HP.out
            rw [Nat.pow_succ]
            omega
          · rw [HDD.out]
            exact HE.out
      · rw [if_neg hd] at HL2
        have HE : Hid (nuN s.data.toList = 0 ∧ nuB s.data.toList = false) := nu_none (HN.out.trans HL2.symm)
        clear HL2
        have hdn : s[i].toNat < 48 ∨ 57 < s[i].toNat := by
          simp [isD] at hd
          omega
        clear hd
        rcases hdn with hdn | hdn
        · have c4 : (s[i].toNat : Int) < 48 := by omega
          go_wp2_with (fail)
          go_ret2
          exact ⟨by rw [HE.out.1, HE.out.2]; rfl, HB.out.2⟩
        · have c4 : ¬ (s[i].toNat : Int) < 48 := by omega
          have c5 : 57 < (s[i].toNat : Int) := by omega
          go_wp2_with (fail)
          go_ret2
          exact ⟨by rw [HE.out.1, HE.out.2]; rfl, HB.out.2⟩
    · have i1 : ¬ (i : Int) < (s.size : Int) := by omega
      obtain rfl : i = s.size := by omega
      have hd : s.data.toList.drop s.size = [] := List.drop_eq_nil_of_le (by rw [Array.length_toList]; exact Nat.le_refl _)
      have HE : Hid (nuN s.data.toList = (n : Int) ∧ nuB s.data.toList = true) := by
        have := HL.out
        rw [hd, numF] at this
        exact nu_some (HN.out.trans this.symm)
      clear hd
      go_wp2_with (fail)
      go_ret2
      exact ⟨by rw [HE.out.1, HE.out.2]; rfl, HB.out.2⟩

set_option maxRecDepth 100000 in
set_option maxHeartbeats 1600000 in
theorem rnumber_yes (rb : Nat) (s : ByteArray) (v : Nat) (w : World) (h : num s.data.toList = some v) :
    Calls Tryz.prog 24 #[.pointer (some ⟨rb, 0, none⟩), .string s] w fun e w' => e = .returned (.int .i64 (v : Int)) ∧ Below w.heap.size w w' := by
  have C1 : Hid (Calls Tryz.prog 43 #[.string s] w fun e w' => e = .returned (.tuple #[.int .i64 (v : Int), .bool true]) ∧ Below w.heap.size w w') := by
    have := number43 s w
    rwa [(nu_some h).1, (nu_some h).2] at this
  go_enter Tryz.func24, Tryz.ntmps24
  go_wp2_with (first
    | (go_at_call 43; (with_reducible refine C1.out.mono ?_); rintro e w1 ⟨rfl, hb⟩; have HB : Hid (Below w.heap.size w w1) := hb; clear hb)
    | (go_at_call 23; (with_reducible refine (refuse_no _ _ _).mono ?_); rintro e w2 ⟨rfl, hw2⟩; have hw2b := hw2.symm; clear hw2; subst hw2b)
    | fail)
  go_ret
  exact ⟨rfl, HB.out⟩
set_option maxRecDepth 100000 in
set_option maxHeartbeats 1600000 in
theorem rnumber_no (rb : Nat) (s : ByteArray) (a : Int) (w : World) (h : num s.data.toList = none) (hc : w.cell? ⟨rb, 1, none⟩ = some (.int .i64 a)) :
    Calls Tryz.prog 24 #[.pointer (some ⟨rb, 0, none⟩), .string s] w fun e w' => e = PF 1 a ∧ Below w.heap.size w w' := by
  have C1 : Hid (Calls Tryz.prog 43 #[.string s] w fun e w' => e = .returned (.tuple #[.int .i64 0, .bool false]) ∧ Below w.heap.size w w') := by
    have := number43 s w
    rwa [(nu_none h).1, (nu_none h).2] at this
  go_enter Tryz.func24, Tryz.ntmps24
  go_wp2_with (first
    | (go_at_call 43; (with_reducible refine C1.out.mono ?_); rintro e w1 ⟨rfl, hb⟩; have hc1 := cl_kept hb hc; have HB : Hid (Below w.heap.size w w1) := hb; clear hb)
    | (go_at_call 23; (with_reducible refine (refuse_yes _ _ _ _ hc1).mono ?_); rintro e w2 ⟨rfl, hw2⟩; have hw2b := hw2.symm; clear hw2; subst hw2b)
    | fail)
  simp [bodyPost, PF]
  exact HB.out
end Go.Proofs.YtehmoacggikfmaaGreatDoor
