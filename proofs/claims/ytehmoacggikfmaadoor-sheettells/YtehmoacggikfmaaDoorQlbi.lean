/- Numbers and letters of a sheet's text. -/
import Derived.Test.YtehmoacggikfmaaDoorQlbh
namespace Go.Proofs.YtehmoacggikfmaaDoor
open Go.RowKit

/-- Numbers, each behind a blank. -/
def nmL (ns : List Nat) : List UInt8 := ns.flatMap fun n => 32 :: dgs n
theorem bytes_eq {t : ByteArray} {l : List UInt8} (h : t.data.toList = l) : t = ⟨l.toArray⟩ := by
  cases t
  subst h
  simp
theorem nmL_take (ns : List Nat) (i : Nat) (h : i < ns.length) : nmL (ns.take (i + 1)) = nmL (ns.take i) ++ (32 :: dgs ns[i]) := by
  unfold nmL
  rw [List.take_succ_eq_append_getElem h, List.flatMap_append]
  simp only [List.flatMap_cons, List.flatMap_nil, List.append_nil]
theorem dgs_len (n : Nat) : (dgs n).length ≤ 2 := by
  unfold dgs
  split <;> simp
theorem nmL_len (ns : List Nat) : (nmL ns).length ≤ 3 * ns.length := by
  induction ns with
  | nil => simp [nmL]
  | cons a r ih =>
    have : nmL (a :: r) = (32 :: dgs a) ++ nmL r := by simp [nmL]
    rw [this, List.length_append, List.length_cons, List.length_cons]
    have := dgs_len a
    omega

/-- A line of numbers: blanks between them, a line feed behind. -/
def lnJ (ns : List Nat) : List UInt8 := Lib.join (ns.map dgs) [32] ++ [10]
theorem lnJ_cons (a : Nat) (r : List Nat) : 32 :: lnJ (a :: r) = nmL (a :: r) ++ [10] := by
  unfold lnJ nmL
  rw [List.map_cons, Lib.join_cons]
  simp [Lib.joinTail, List.flatMap, Function.comp_def]
theorem lnJ_len {ns : List Nat} (h : ns ≠ []) : (lnJ ns).length ≤ 3 * ns.length := by
  match ns, h with
  | a :: r, _ =>
    have h1 := congrArg List.length (lnJ_cons a r)
    have h2 := nmL_len (a :: r)
    simp only [List.length_cons, List.length_append, List.length_nil] at h1 h2 ⊢
    omega
theorem inf9 : (Tryd.prog.info? 9).map (fun i => (i.zero, i.size, i.bytes)) = some (some (.string ⟨#[]⟩), 1, 16) := by kernel_rfl
def stD (l : List Nat) : List Value := l.map fun n => .string (dgB n)
theorem stD_take (ns : List Nat) (i : Nat) (h : i < ns.length) : stD (ns.take (i + 1)) = stD (ns.take i) ++ [.string (dgB ns[i])] := by
  unfold stD
  rw [List.take_succ_eq_append_getElem h, List.map_append]
  rfl
theorem one_str (w : World) (v : Value) (T : TypeId) : ∀ j u, ([v])[j]? = some u → (w.alloc (.cells #[v] T)).cell? ((⟨w.heap.size, 0, none⟩ : Addr).add j) = some u := by
  intro j u hu
  match j, hu with
  | 0, hu => simp at hu; subst hu; simp [Addr.add, go_sem]
set_option maxRecDepth 100000 in
set_option maxHeartbeats 3200000 in
theorem numbers_any (g cap : Nat) (ns : List Nat) (w : World) (hn : ∀ n ∈ ns, n < 100) (h0 : ns ≠ []) (hl : ns.length ≤ 10) (hc : ∀ i (h : i < ns.length), w.cell? ⟨g, i, none⟩ = some (.int .i64 ((ns[i] : Nat) : Int))) :
    Calls Tryd.prog 26 #[.slice (some ⟨g, 0, none⟩) ns.length cap] w fun e w' => e = .returned (.string ⟨(lnJ ns).toArray⟩) ∧ Below w.heap.size w w' := by
  obtain ⟨i9, hi, hz0, hz1, hz2⟩ := info_parts inf9
  have HI : Hid (Tryd.prog.info? 9 = some i9 ∧ i9.zero = some (.string ⟨#[]⟩) ∧ i9.size = 1 ∧ i9.bytes = 16) := ⟨hi, hz0, hz1, hz2⟩
  have HC : Hid (∀ i (h : i < ns.length), w.cell? ⟨g, i, none⟩ = some (.int .i64 ((ns[i] : Nat) : Int))) := hc
  have HN : Hid (∀ n ∈ ns, n < 100) := hn
  have H0 : Hid (ns ≠ []) := h0
  have CJ : Hid (∀ (V : World) (b c : Nat), V.ownsRow w.heap.size 9 1 (.slice (some ⟨b, 0, none⟩) ns.length c) ns.length (stD ns) → Calls Tryd.prog 42 #[.slice (some ⟨b, 0, none⟩) ns.length c, .string ⟨#[32]⟩] V fun e w' => e = .returned (.string ⟨(Lib.join (ns.map dgs) [32]).toArray⟩) ∧ Below V.heap.size V w') := fun V b c ho => by
    have hm : (ns.map dgB).map (fun x => x.data.toList) = ns.map dgs := by
      rw [List.map_map]
      exact List.map_congr_left (fun n _ => dgB_list n)
    have hcap : ns.length ≤ c := by
      rcases ho.2 with ⟨h1, _⟩ | ⟨g', cap', cur, h1, h2⟩
      · cases h1
      · cases h1
        omega
    have hlt : b < V.heap.size := (ho.lt b rfl).2
    have h := Tryd.strings_Join b 0 c (ns.map dgB) ⟨#[32]⟩ V (fun j x hx => by
      rw [List.getElem?_map] at hx
      obtain ⟨m, hm1, rfl⟩ := Option.map_eq_some_iff.1 hx
      have hj : j < ns.length := (List.getElem?_eq_some_iff.1 hm1).1
      rw [Nat.zero_add]
      refine (ho.cellAt j (by rw [Nat.mul_one]; exact hj)).trans ?_
      simp [stD, hm1]) hlt (by rw [List.length_map]; omega) (by rw [List.length_map]; exact hcap) (by
      rw [hm]
      have h1 := lnJ_len h0
      unfold lnJ at h1
      rw [List.length_append] at h1
      show (Lib.join (ns.map dgs) [32]).length ≤ _
      omega)
    rw [hm, List.length_map] at h
    exact h
  have HLN := lnJ_len h0
  clear hc hn h0 hi hz0 hz1 hz2
  go_enter Tryd.func26, Tryd.ntmps26
  go_wp2_with (at_make; refine wpList_make_own _ rfl _ _ 82 rfl w.heap.size 9 i9 (.string ⟨#[]⟩) 1 Tryd.underlying82 HI.out.1 HI.out.2.1 HI.out.2.2.1 _ _ _ ns.length rfl rfl rfl (by rw [HI.out.2.2.2]; omega) (by unfold maxLen; omega) (Nat.le_refl _) ?mk)
  case mk =>
    intro w1 hown hgr
    have HO1 : Hid (w1.ownsRow w.heap.size 9 1 (.slice (some ⟨w.heap.size, 0, none⟩) 0 ns.length) 0 (stD (ns.take 0)) ∧ Below w.heap.size w w1) := ⟨by simpa [stD] using hown, ⟨hgr.os, hgr.tape, hgr.output, hgr.size, fun k hk => hgr.block k hk (by simp)⟩⟩
    clear hown hgr
    go_wp2
    go_loopg [3, 5, 11] ns.length (fun gk s3 s5 s11 wx => ∃ i : Nat, i ≤ ns.length ∧ gk = ns.length - i ∧ s11 = .int .i64 (i : Int) ∧ wx.ownsRow w.heap.size 9 1 s3 i (stD (ns.take i)) ∧ Below w.heap.size w wx)
    case atStart => exact ⟨0, by omega, rfl, rfl, HO1.out.1, HO1.out.2⟩
    case round =>
      clear HO1
      obtain ⟨i, hi, rfl, rfl, hO, hB⟩ := hrel
      obtain ⟨va, hva⟩ : ∃ x, x = u3 := ⟨_, rfl⟩
      subst hva
      have HO : Hid (wr.ownsRow w.heap.size 9 1 va i (stD (ns.take i)) ∧ Below w.heap.size w wr) := ⟨hO, hB⟩
      clear hO hB
      by_cases h1 : i < ns.length
      · have i1 : (i : Int) < (ns.length : Int) := by omega
        have i0 : (0 : Int) ≤ (i : Int) := by omega
        have c0 := cl_kept HO.out.2 (HC.out i h1)
        have hlt := HN.out _ (List.getElem_mem h1)
        have HST : Hid (stD (ns.take (i + 1)) = stD (ns.take i) ++ [.string (dgB ns[i])]) := stD_take ns i h1
        obtain ⟨m, hm⟩ : ∃ m, m = ns[i] := ⟨_, rfl⟩
        rw [← hm] at c0 hlt HST
        clear hm
        have CI : Hid (∀ W' : World, Calls Tryd.prog 41 #[.int .i64 (m : Int)] W' fun e w' => e = .returned (.string (dgB m)) ∧ w' = W') := fun W' => by
          have := Tryd.strconv_Itoa_small m hlt W'
          rw [dgs_lib m hlt] at this
          exact this
        go_wp2_with (first
          | (go_at_call 41; (with_reducible refine (CI.out _).mono ?_); rintro e w9 ⟨rfl, hw9⟩; have hw9b := hw9.symm; clear hw9; subst hw9b)
          | (at_builtin; refine wpList_append_own _ rfl (.tmp 15) (.tmp 18) 82 rfl w.heap.size 9 i9 (.string ⟨#[]⟩) 1 16 Tryd.underlying82 HI.out.1 HI.out.2.1 HI.out.2.2.1 HI.out.2.2.2 rfl (by decide) va i (stD (ns.take i)) rfl (own_below HO.out.1 (bl_alloc (bl_refl _))) ⟨wr.heap.size, 0, none⟩ 1 1 [.string (dgB m)] rfl rfl (one_str _ _ _) (by intro q hq; simp at hq; subst hq; rfl) (by unfold maxLen; omega) (by omega) (by have := HO.out.2.size; simp; omega) ?gA)
          | fail)
        case gA =>
          intro v' w3 ho hg _
          have HNW : Hid (w3.ownsRow w.heap.size 9 1 v' (i + 1) (stD (ns.take (i + 1))) ∧ Below w.heap.size w w3) := by
            refine ⟨?_, ?_⟩
            · rw [HST.out]
              exact ho
            · have hb9 : Below w.heap.size w (wr.alloc (.cells #[.string (dgB m)] 9)) := bl_alloc HO.out.2
              exact hb9.grown hg hb9.size (fun r e => (HO.out.1.lt r e).1)
          clear ho hg
          go_wp2
          go_roundg (ns.length - (i + 1))
          case measure => omega
          case rel => exact ⟨i + 1, by omega, rfl, by go_num, HNW.out.1, HNW.out.2⟩
      · have i1 : ¬ (i : Int) < (ns.length : Int) := by omega
        obtain rfl : i = ns.length := by omega
        have hof := HO.out.1
        rw [List.take_length] at hof
        obtain ⟨b, c, rfl⟩ : ∃ b c, va = .slice (some ⟨b, 0, none⟩) ns.length c := by
          rcases hof.2 with ⟨h1, h2⟩ | ⟨g', cap', cur, h1, h2⟩
          · exact absurd (List.length_eq_zero_iff.1 h2) H0.out
          · exact ⟨g', cap', h1⟩
        have HOF : Hid (wr.ownsRow w.heap.size 9 1 (.slice (some ⟨b, 0, none⟩) ns.length c) ns.length (stD ns)) := hof
        have HBW : Hid (Below w.heap.size w wr) := HO.out.2
        clear hof HO
        obtain ⟨J, hJ⟩ : ∃ J, J = Lib.join (ns.map dgs) [32] := ⟨_, rfl⟩
        have HJ : Hid (J = Lib.join (ns.map dgs) [32]) := hJ
        rw [← hJ] at CJ
        have zJ : ByteArray.size ⟨J.toArray⟩ + 1 ≤ 9223372036854775807 := by
          have h2 := HLN
          unfold lnJ at h2
          rw [← hJ, List.length_append] at h2
          simp only [ByteArray.size, List.size_toArray]
          omega
        have d1 : ∀ w' : World, (Op.stringOp .add ⟨J.toArray⟩ ⟨#[10]⟩).run Tryd.prog w' = .ok (.string (⟨J.toArray⟩ ++ ⟨#[10]⟩)) w' := fun w' => run_string_add_sum (P := Tryd.prog) (w := w') _ _ zJ
        clear hJ HLN
        go_wp2_with (first
          | (go_at_call 42; (with_reducible refine (CJ.out _ _ _ HOF.out).mono ?_); rintro e w5 ⟨rfl, hb5⟩; have HB5 : Hid (Below w.heap.size w w5) := bl_via HBW.out hb5; clear hb5)
          | fail)
        go_ret
        refine ⟨?_, HB5.out⟩
        congr 1
        have e1 : (⟨J.toArray⟩ ++ ⟨#[10]⟩ : ByteArray) = ⟨(J ++ [10]).toArray⟩ := bytes_eq (by rw [app_list])
        unfold lnJ
        rw [← HJ.out]
        exact congrArg Value.string e1

def kdB (k : Int) : UInt8 := if k = 1 then 109 else 118
theorem letter_any (k : Int) (w : World) : Calls Tryd.prog 28 #[.int .i64 k] w fun e w' => e = .returned (.string ⟨#[kdB k]⟩) ∧ w' = w := by
  by_cases h : k = 1
  · subst h
    go_enter Tryd.func28, Tryd.ntmps28
    go_wp2
    go_ret
    exact ⟨rfl, rfl⟩
  · have hb : (k == 1) = false := by simpa using h
    have hd : kdB k = 118 := by simp [kdB, h]
    go_enter Tryd.func28, Tryd.ntmps28
    go_wp2
    go_ret
    exact ⟨by rw [hd]; rfl, rfl⟩
theorem idx_letter (z : Int) (h0 : 0 ≤ z) (h1 : z ≤ 15) (w : World) : (Instr.index 9 (.string ⟨#[48, 49, 50, 51, 52, 53, 54, 55, 56, 57, 97, 98, 99, 100, 101, 102]⟩) (.int .i64 z)).run Tryd.prog w = .ok (.int .u8 ((ltB z).toNat : Int)) w := by
  have key : ∀ m : Nat, m < 16 → (Instr.index 9 (.string ⟨#[48, 49, 50, 51, 52, 53, 54, 55, 56, 57, 97, 98, 99, 100, 101, 102]⟩) (.int .i64 (m : Int))).run Tryd.prog w = .ok (.int .u8 ((ltB (m : Int)).toNat : Int)) w := by
    intro m hm
    match m, hm with
    | 0, _ => exact (show _ = _ from by kernel_rfl)
    | 1, _ => exact (show _ = _ from by kernel_rfl)
    | 2, _ => exact (show _ = _ from by kernel_rfl)
    | 3, _ => exact (show _ = _ from by kernel_rfl)
    | 4, _ => exact (show _ = _ from by kernel_rfl)
    | 5, _ => exact (show _ = _ from by kernel_rfl)
    | 6, _ => exact (show _ = _ from by kernel_rfl)
    | 7, _ => exact (show _ = _ from by kernel_rfl)
    | 8, _ => exact (show _ = _ from by kernel_rfl)
    | 9, _ => exact (show _ = _ from by kernel_rfl)
    | 10, _ => exact (show _ = _ from by kernel_rfl)
    | 11, _ => exact (show _ = _ from by kernel_rfl)
    | 12, _ => exact (show _ = _ from by kernel_rfl)
    | 13, _ => exact (show _ = _ from by kernel_rfl)
    | 14, _ => exact (show _ = _ from by kernel_rfl)
    | 15, _ => exact (show _ = _ from by kernel_rfl)
    | m + 16, hm => omega
  have := key z.toNat (by omega)
  rwa [show ((z.toNat : Nat) : Int) = z by omega] at this
end Go.Proofs.YtehmoacggikfmaaDoor
