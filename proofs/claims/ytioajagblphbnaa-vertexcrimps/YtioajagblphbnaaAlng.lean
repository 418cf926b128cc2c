/- Places along the line. -/
import Derived.Test.YtioajagblphbnaaOwns
namespace Go.Proofs.Ytioajagblphbnaa
open Go.RowKit

/-- The place where sector j begins. -/
def xf (l : List Int) : Nat → Int
  | 0 => 0
  | j + 1 => xf l j + (if j % 2 = 0 then gt l j else - gt l j)
def plc (l : List Int) (i : Nat) : List Int := (List.range (i + 1)).map (xf l)
theorem plc_len (l : List Int) (i : Nat) : (plc l i).length = i + 1 := by simp [plc]
theorem plc_at {l : List Int} {i k : Nat} (h : k ≤ i) : gt (plc l i) k = xf l k := by
  rw [gt_lt (by rw [plc_len]; omega)]
  simp [plc]
theorem plc_zero (l : List Int) : plc l 0 = [0] := by simp [plc, xf]
theorem plc_succ (l : List Int) (i : Nat) : plc l (i + 1) = plc l i ++ [xf l (i + 1)] := by
  unfold plc
  rw [List.range_succ, List.map_append]
  rfl
theorem xf_bd {l : List Int} (h : ∀ i, i < l.length → 1 ≤ gt l i ∧ gt l i ≤ 1000) : ∀ j, j ≤ l.length → -1000 * (j : Int) ≤ xf l j ∧ xf l j ≤ 1000 * (j : Int)
  | 0, _ => by simp [xf]
  | j + 1, hj => by
    have ih := xf_bd h j (by omega)
    have hb := h j (by omega)
    unfold xf
    split <;> omega
/-- 'make([]T, 1, n)'. -/
theorem wpList_make_one {P : Program} (w : World) {ops : Array Oper} {rest : List Oper} {o : Oper} {a : Act} {Q : Exit → Act → World → Prop}
    (hg : o.guard = none) (l c : Operand) (t : TypeId) (hop : o.op = Op.makeSlice t l c)
    (base : Nat) (e : TypeId) (i : TypeInfo) (z : Value) (h1 : P.underlying t = some (.slice e)) (h2 : P.info? e = some i) (h3 : i.zero = some z) (h4 : i.size = 1) (hz : z.cells = #[z])
    (kl kc : IntKind) (C : Int) (n : Nat) (hl : a.eval l = .int kl 1) (hc : a.eval c = .int kc C) (hC : C = (n : Int)) (hn : 1 ≤ n) (b2 : i.bytes * n ≤ 281474976710656) (b3 : n ≤ maxLen) (b4 : base ≤ w.heap.size)
    (hK : ∀ w', w'.ownsRow base e 1 (.slice (some ⟨w.heap.size, 0, none⟩) 1 n) 1 [z] → w.grownBy w' none → wpList P ops Q rest (a.put o.dst (.slice (some ⟨w.heap.size, 0, none⟩) 1 n)) w') :
    wpList P ops Q (o :: rest) a w := by
  refine wpList_plain hg fun K hK' => ?_
  have h63' : (n : Int) ≤ 9223372036854775807 := by
    have h := b3
    simp [maxLen] at h
    omega
  have hb' : (i.bytes : Int) * (n : Int) ≤ 281474976710656 := by
    have h : ((i.bytes * n : Nat) : Int) ≤ 281474976710656 := by omega
    rwa [Int.natCast_mul] at h
  have hr := run_make (P := P) w t e i z h1 h2 h3 kl kc 1 n (by omega) (by omega) hb' h63'
  simp only [Int.toNat_one, Int.toNat_natCast, h4, Nat.mul_one, hz] at hr
  subst hC
  unfold Oper.wp
  simp [execOp, hop, hl, hc, hr, Result.andThen]
  refine hK' _ _ (hK _ ⟨by simp, .inr ⟨w.heap.size, n, madeCells #[z] n, rfl, b4, heap_alloc_new w _, hn, b3, by rw [size_madeCells]; omega, ?_⟩⟩ (World.grownBy_alloc w _ none))
  rw [toList_madeCells_one, List.take_replicate]
  have : min (1 * 1) n = 1 := by omega
  rw [this]
  rfl
set_option maxRecDepth 100000 in
set_option maxHeartbeats 800000 in
theorem along_any (v : Value) (l : List Int) (w : World) (hv : Sg w v l) (h8 : l.length ≤ 8) (hb : ∀ i, i < l.length → 1 ≤ gt l i ∧ gt l i ≤ 1000) :
    Calls Try.prog 17 #[v] w fun e w' => ∃ g cap, e = .returned (.slice (some ⟨g, 0, none⟩) (l.length + 1) cap) ∧ l.length + 1 ≤ cap ∧ Rw w' g (plc l l.length) ∧ Below w.heap.size w w' := by
  obtain ⟨a, c, rfl, hR⟩ := sg_meet hv
  obtain ⟨i3, hI⟩ := info_parts inf3
  have HI : Hid (Try.prog.info? 3 = some i3 ∧ i3.zero = some (.int .i64 0) ∧ i3.size = 1 ∧ i3.bytes = 8) := hI
  have HR : Hid (∀ i, i < l.length → ∃ g off, a = some ⟨g, off, none⟩ ∧ w.cell? ⟨g, off + i, none⟩ = some (.int .i64 (gt l i))) := hR
  have HBD : Hid (∀ i, i < l.length → 1 ≤ gt l i ∧ gt l i ≤ 1000) := hb
  clear hv hI hR hb
  go_enter Try.func17, Try.ntmps17
  go_wp2_with (at_make; refine wpList_make_one _ rfl _ _ 22 rfl w.heap.size 3 i3 (.int .i64 0) Try.underlying22 HI.out.1 HI.out.2.1 HI.out.2.2.1 rfl _ _ _ (l.length + 1) rfl rfl (by omega) (by omega) (by rw [HI.out.2.2.2]; omega) (by unfold maxLen; omega) (Nat.le_refl _) ?_)
  intro w1 hown hg1
  have HO : Hid (w1.ownsRow w.heap.size 3 1 (.slice (some ⟨w.heap.size, 0, none⟩) 1 (l.length + 1)) 1 (rowI [0]) ∧ Below w.heap.size w w1) := ⟨hown, (bl_refl w).grown hg1 (Nat.le_refl _) (fun k hk => by cases hk)⟩
  clear hown hg1
  go_wp2
  go_loopg [3, 12] l.length (fun gk s3 s12 wx => ∃ i : Nat, i ≤ l.length ∧ gk = l.length - i ∧ s12 = .int .i64 (i : Int) ∧ wx.ownsRow w.heap.size 3 1 s3 (i + 1) (rowI (plc l i)) ∧ Below w.heap.size w wx)
  case atStart => exact ⟨0, by omega, rfl, rfl, by rw [plc_zero]; exact HO.out.1, HO.out.2⟩
  case round =>
    clear HO
    obtain ⟨i, hi, rfl, rfl, hO, hB⟩ := hrel
    have HS : Hid (w.heap.size ≤ wr.heap.size) := hB.size
    obtain ⟨gp, cp, rfl, hrp⟩ := (own_sl hO (plc_len l i).symm).some (by rw [plc_len]; omega)
    rw [plc_len] at hO ⊢
    have HO : Hid (wr.ownsRow w.heap.size 3 1 (.slice (some ⟨gp, 0, none⟩) (i + 1) cp) (i + 1) (rowI (plc l i)) ∧ Below w.heap.size w wr ∧ Rw wr gp (plc l i)) := ⟨hO, hB, hrp⟩
    clear hO hB hrp
    by_cases h1 : i < l.length
    · have i1 : (i : Int) < (l.length : Int) := by omega
      have i0 : (0 : Int) ≤ (i : Int) := by omega
      have i2 : (i : Int) < (i : Int) + 1 := by omega
      obtain ⟨g, off, rfl, c0⟩ := HR.out i h1
      replace c0 := cl_kept HO.out.2.1 c0
      have zg : g < wr.heap.size := World.block_lt_of_cell? _ _ c0
      have c1 := HO.out.2.2 i (by rw [plc_len]; omega)
      have zp : gp < wr.heap.size := World.block_lt_of_cell? _ _ c1
      rw [plc_at (Nat.le_refl _)] at c1
      have hbd := HBD.out i h1
      have hxb := xf_bd HBD.out i (by omega)
      obtain ⟨vi, hvi⟩ : ∃ v, v = gt l i := ⟨_, rfl⟩
      obtain ⟨xi, hxi⟩ : ∃ v, v = xf l i := ⟨_, rfl⟩
      rw [← hvi] at c0 hbd
      rw [← hxi] at c1 hxb
      have HVI : Hid (vi = gt l i ∧ xi = xf l i) := ⟨hvi, hxi⟩
      clear hvi hxi
      have t1 := two_int i
      by_cases q : (i : Int) % 2 = 0
      · have qb : ((i : Int) % 2 != 0) = false := by simpa using q
        have HF : Hid (xf l (i + 1) = xi + vi) := by
          have : xf l (i + 1) = xi + vi := by
            unfold xf
            rw [if_pos (by omega), HVI.out.1, HVI.out.2]
          exact this
        clear q
        go_wp2_with (at_builtin; refine wpList_append_own _ rfl (.tmp 22) (.tmp 29) 22 rfl w.heap.size 3 i3 (.int .i64 0) 1 8 Try.underlying22 HI.out.1 HI.out.2.1 HI.out.2.2.1 HI.out.2.2.2 rfl (by decide) (.slice (some ⟨gp, 0, none⟩) (i + 1) cp) (i + 1) (rowI (plc l i)) rfl (own_below HO.out.1 (bl_alloc (bl_refl _))) ⟨wr.heap.size, 0, none⟩ 1 1 [.int .i64 (xi + vi)] rfl rfl (cell_one _ (by simp [go_sem])) (one_cell _) (by unfold maxLen; omega) (by omega) (by have := HS.out; simp; omega) ?growA)
        case growA =>
          intro v' w3 hown hgrow _
          have HO3 : Hid (w3.ownsRow w.heap.size 3 1 v' (i + 1 + 1) (rowI (plc l (i + 1))) ∧ Below w.heap.size w w3) := by
            refine ⟨?_, bl_own (bl_alloc HO.out.2.1) (own_below HO.out.1 (bl_alloc (bl_refl _))) (Nat.le_refl _) hgrow⟩
            rw [plc_succ, rowI_add, HF.out]
            exact hown
          clear hown hgrow
          go_wp2
          go_roundg (l.length - (i + 1))
          case measure => omega
          case rel => exact ⟨i + 1, by omega, rfl, by go_num, HO3.out.1, HO3.out.2⟩
      · have qb : ((i : Int) % 2 != 0) = true := by simpa using q
        have HF : Hid (xf l (i + 1) = xi + -vi) := by
          have : xf l (i + 1) = xi + -vi := by
            unfold xf
            rw [if_neg (by omega), HVI.out.1, HVI.out.2]
          exact this
        clear q
        go_wp2_with (at_builtin; refine wpList_append_own _ rfl (.tmp 22) (.tmp 29) 22 rfl w.heap.size 3 i3 (.int .i64 0) 1 8 Try.underlying22 HI.out.1 HI.out.2.1 HI.out.2.2.1 HI.out.2.2.2 rfl (by decide) (.slice (some ⟨gp, 0, none⟩) (i + 1) cp) (i + 1) (rowI (plc l i)) rfl (own_below HO.out.1 (bl_alloc (bl_refl _))) ⟨wr.heap.size, 0, none⟩ 1 1 [.int .i64 (xi + -vi)] rfl rfl (cell_one _ (by simp [go_sem])) (one_cell _) (by unfold maxLen; omega) (by omega) (by have := HS.out; simp; omega) ?growB)
        case growB =>
          intro v' w3 hown hgrow _
          have HO3 : Hid (w3.ownsRow w.heap.size 3 1 v' (i + 1 + 1) (rowI (plc l (i + 1))) ∧ Below w.heap.size w w3) := by
            refine ⟨?_, bl_own (bl_alloc HO.out.2.1) (own_below HO.out.1 (bl_alloc (bl_refl _))) (Nat.le_refl _) hgrow⟩
            rw [plc_succ, rowI_add, HF.out]
            exact hown
          clear hown hgrow
          go_wp2
          go_roundg (l.length - (i + 1))
          case measure => omega
          case rel => exact ⟨i + 1, by omega, rfl, by go_num, HO3.out.1, HO3.out.2⟩
    · have i1 : ¬ (i : Int) < (l.length : Int) := by omega
      obtain rfl : i = l.length := by omega
      have hcap : l.length + 1 ≤ cp := by
        rcases HO.out.1.2 with ⟨h, _⟩ | ⟨_, _, _, h, _, _, h2, _⟩
        · cases h
        · cases h
          exact h2
      go_wp2
      go_ret
      exact ⟨gp, cp, rfl, hcap, HO.out.2.2, HO.out.2.1⟩
end Go.Proofs.Ytioajagblphbnaa
