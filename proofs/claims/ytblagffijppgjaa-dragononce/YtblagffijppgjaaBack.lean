/- kinds of raw numbers; the word read from its end; the law DragonBack. -/
import Derived.Test.YtblagffijppgjaaLawf
namespace Go.Proofs.Ytblagffijppgjaa
open Go.RowKit

def pk2 (n : Int) : Int := if n < 0 then (-(n + 1)) % 2 else n % 2
theorem pk2_bd (n : Int) : 0 ≤ pk2 n ∧ pk2 n ≤ 1 := by
  unfold pk2
  split <;> omega
theorem picked2 (n : Int) (h1 : -9223372036854775808 ≤ n) (h2 : n ≤ 9223372036854775807) (w : World) : Calls Try.prog 24 #[.int .i64 n, .int .i64 2] w fun e w' => e = .returned (.int .i64 (pk2 n)) ∧ Below w.heap.size w w' := by
  by_cases q : n < 0
  · have HM : Hid (-((n + 1).tmod 2) = pk2 n) := by
      have : -((n + 1).tmod 2) = pk2 n := by
        rw [pk2, if_pos q, ← Int.neg_tmod, Int.tmod_eq_emod_of_nonneg (by omega)]
      exact this
    go_enter Try.func24, Try.ntmps24
    go_wp2
    go_ret
    exact ⟨ret_int HM.out, bl_refl _⟩
  · have HM : Hid (n % 2 = pk2 n) := by
      have : n % 2 = pk2 n := by rw [pk2, if_neg q]
      exact this
    go_enter Try.func24, Try.ntmps24
    go_wp2
    go_ret
    exact ⟨ret_int HM.out, bl_refl _⟩
def kdR (l : List Int) (i : Nat) : List Int := (List.range i).map fun j => 1 + pk2 (gt l j)
theorem kdR_succ (l : List Int) (i : Nat) : kdR l (i + 1) = kdR l i ++ [1 + pk2 (gt l i)] := by
  unfold kdR
  rw [List.range_succ, List.map_append]
  rfl
theorem kdR_len (l : List Int) (i : Nat) : (kdR l i).length = i := by simp [kdR]
theorem kdR_two (l : List Int) (i : Nat) : ∀ x ∈ kdR l i, x = 1 ∨ x = 2 := by
  intro x hx
  unfold kdR at hx
  obtain ⟨j, _, rfl⟩ := List.mem_map.1 hx
  have := pk2_bd (gt l j)
  omega
set_option maxRecDepth 100000 in
set_option maxHeartbeats 1000000 in
theorem kinds16 (a : Option Addr) (c : Nat) (l : List Int) (w : World) (hv : Sg w (.slice a l.length c) l) (hb : ∀ i, i < l.length → -9223372036854775808 ≤ gt l i ∧ gt l i ≤ 9223372036854775807) :
    Calls Try.prog 16 #[.slice a l.length c, .int .i64 10] w fun e w' => ∃ m u, e = .returned u ∧ m ≤ 10 ∧ Sl w' u (kdR l m) ∧ Below w.heap.size w w' := by
  obtain ⟨_, _, hva, hR⟩ := hv
  cases hva
  have HRD : Hid (∀ i, i < l.length → ∃ g off, a = some ⟨g, off, none⟩ ∧ w.cell? ⟨g, off + i, none⟩ = some (.int .i64 (gt l i))) := hR
  have HBD : Hid (∀ i, i < l.length → -9223372036854775808 ≤ gt l i ∧ gt l i ≤ 9223372036854775807) := hb
  obtain ⟨i3, hI⟩ := info_parts inf3
  have HI : Hid (Try.prog.info? 3 = some i3 ∧ i3.zero = some (.int .i64 0) ∧ i3.size = 1 ∧ i3.bytes = 8) := hI
  have CP : Hid (∀ (n : Int) (W : World), -9223372036854775808 ≤ n → n ≤ 9223372036854775807 → Calls Try.prog 24 #[.int .i64 n, .int .i64 2] W fun e w' => e = .returned (.int .i64 (pk2 n)) ∧ Below W.heap.size W w') := fun n W h1 h2 => picked2 n h1 h2 W
  clear hR hb hI
  go_enter Try.func16, Try.ntmps16
  go_wp2
  go_loopg [5, 6] 10 (fun gk s5 s6 wx => ∃ i : Nat, i ≤ 10 ∧ i ≤ l.length ∧ gk = 10 - i ∧ s6 = .int .i64 (i : Int) ∧ wx.ownsRow w.heap.size 3 1 s5 i (rowI (kdR l i)) ∧ Below w.heap.size w wx)
  case atStart => exact ⟨0, by omega, by omega, rfl, rfl, ⟨by simp [rowI, kdR], Or.inl ⟨rfl, rfl⟩⟩, bl_refl _⟩
  case round =>
    obtain ⟨i, hi7, hil, rfl, rfl, hO, hB⟩ := hrel
    have HO : Hid (wr.ownsRow w.heap.size 3 1 u5 i (rowI (kdR l i)) ∧ Below w.heap.size w wr) := ⟨hO, hB⟩
    clear hO hB
    by_cases h1 : i < l.length
    · have i1 : (i : Int) < (l.length : Int) := by omega
      by_cases h7 : i < 10
      · have i2 : (i : Int) < 10 := by omega
        have i0 : (0 : Int) ≤ (i : Int) := by omega
        obtain ⟨g, off, rfl, c0⟩ := HRD.out i h1
        replace c0 := cl_kept HO.out.2 c0
        have zg : g < wr.heap.size := World.block_lt_of_cell? _ _ c0
        have hbd := HBD.out i h1
        obtain ⟨vi, hvi⟩ : ∃ v, v = gt l i := ⟨_, rfl⟩
        rw [← hvi] at c0 hbd
        have CX := fun W => CP.out vi W hbd.1 hbd.2
        have hp := pk2_bd vi
        obtain ⟨pv, hpv⟩ : ∃ x, x = pk2 vi := ⟨_, rfl⟩
        rw [← hpv] at CX hp
        have HV : Hid (pv = pk2 (gt l i)) := by rw [← hvi]; exact hpv
        have CY : Hid (∀ W : World, Calls Try.prog 24 #[.int .i64 vi, .int .i64 2] W fun e w' => e = .returned (.int .i64 pv) ∧ Below W.heap.size W w') := CX
        clear CX hvi hpv hbd
        go_wp2_with (first | (go_at_call 24; refine (CY.out _).mono ?_; rintro e w1 ⟨rfl, hb1⟩; have H1 : Hid (w1.ownsRow w.heap.size 3 1 u5 i (rowI (kdR l i)) ∧ Below w.heap.size w w1) := ⟨own_below HO.out.1 hb1, bl_via HO.out.2 hb1⟩; clear hb1) | (at_builtin; refine wpList_append_own _ rfl (.tmp 18) (.tmp 25) 22 rfl w.heap.size 3 i3 (.int .i64 0) 1 8 Try.underlying22 HI.out.1 HI.out.2.1 HI.out.2.2.1 HI.out.2.2.2 rfl (by decide) u5 i (rowI (kdR l i)) rfl (own_below H1.out.1 (bl_alloc (bl_refl _))) ⟨w1.heap.size, 0, none⟩ 1 1 [.int .i64 (1 + pv)] rfl rfl (cell_one _ (by simp [go_sem])) (one_cell _) (by unfold maxLen; omega) (by omega) (by have := H1.out.2.size; simp; omega) ?gA))
        case gA =>
          intro v' w3 hown hgrow _
          have HO3 : Hid (w3.ownsRow w.heap.size 3 1 v' (i + 1) (rowI (kdR l (i + 1))) ∧ Below w.heap.size w w3) := by
            refine ⟨?_, bl_own (bl_alloc H1.out.2) (own_below H1.out.1 (bl_alloc (bl_refl _))) (Nat.le_refl _) hgrow⟩
            rw [kdR_succ, rowI_add, ← HV.out]
            exact hown
          clear hown hgrow
          go_wp2
          go_roundg (10 - (i + 1))
          case measure => omega
          case rel => exact ⟨i + 1, by omega, by omega, rfl, by go_num, HO3.out.1, HO3.out.2⟩
      · have i2 : ¬ (i : Int) < 10 := by omega
        go_wp2
        go_ret
        first
          | exact ⟨i, u5, rfl, hi7, own_sl (n := i) (base := w.heap.size) (e := 3) HO.out.1 (kdR_len l i).symm, HO.out.2⟩
          | exact ⟨u5, rfl, i, hi7, own_sl (n := i) (base := w.heap.size) (e := 3) HO.out.1 (kdR_len l i).symm, HO.out.2⟩
    · have i1 : ¬ (i : Int) < (l.length : Int) := by omega
      go_wp2
      go_ret
      first
        | exact ⟨i, u5, rfl, hi7, own_sl (n := i) (base := w.heap.size) (e := 3) HO.out.1 (kdR_len l i).symm, HO.out.2⟩
        | exact ⟨u5, rfl, i, hi7, own_sl (n := i) (base := w.heap.size) (e := 3) HO.out.1 (kdR_len l i).symm, HO.out.2⟩
/-- The kinds that the law makes: ten at the most, each a crease's. -/
theorem kinds_any (a : Option Addr) (c : Nat) (l : List Int) (w : World) (hv : Sg w (.slice a l.length c) l) (hb : ∀ i, i < l.length → -9223372036854775808 ≤ gt l i ∧ gt l i ≤ 9223372036854775807) :
    Calls Try.prog 16 #[.slice a l.length c, .int .i64 10] w fun e w' => ∃ (fs : List Int) (a c : _), e = .returned (.slice a fs.length c) ∧ (fs.length ≤ 10 ∧ allK fs = true) ∧ Sg w' (.slice a fs.length c) fs ∧ Below w.heap.size w w' :=
  (kinds16 a c l w hv hb).mono fun e w' ⟨m, u, h1, h2, h3, h4⟩ => by
    obtain ⟨a, c, rfl, h5⟩ := h3.sg
    exact ⟨kdR l m, a, c, h1, ⟨by rw [kdR_len]; exact h2, by rw [allK, List.all_eq_true]; intro x hx; have := kdR_two l m x hx; simpa [isK] using this⟩, ⟨a, c, rfl, h5⟩, h4⟩
theorem code_opn {fs : List Int} (h : fs.length ≤ 10) (ha : allK fs = true) : fcode (opn fs) = 0 ∧ fres (opn fs) = fs := by
  have h2 : 2 ^ fs.length = (opn fs).length + 1 := (opn_len fs).symm
  have hp : isP (opn fs).length = true := isP_ex.2 ⟨_, h, h2⟩
  have hb : bg (opn fs) = fs := by rw [bg_k h2, bgl_opn]
  have hf : fcode (opn fs) = 0 := by rw [fcode, if_neg (by rw [hp]; simp), if_neg (by rw [allK_opn ha]; simp), hb, if_pos rfl]
  exact ⟨hf, by rw [fres, if_pos hf, hb]⟩
theorem flp_kind : ∀ rs : List Int, (∀ k ∈ rs, k = 1 ∨ k = 2) → ∀ k ∈ flp rs, k = 1 ∨ k = 2
  | [], _, k, hk => by simp [flp] at hk
  | [x], h, k, hk => by
    have := h x (by simp)
    simp [flp] at hk
    omega
  | x :: y :: rs, h, k, hk => by
    have ih := flp_kind (y :: rs) (fun k hk => h k (List.mem_cons_of_mem _ hk))
    rw [flp, List.mem_cons] at hk
    rcases hk with rfl | hk
    · exact h _ (by simp)
    · exact ih k hk
/-- The folds of the word read from its end. -/
def fbk (fs : List Int) : List Int := (flp fs.reverse).reverse
theorem fbk_len (fs : List Int) : (fbk fs).length = fs.length := by rw [fbk, List.length_reverse, flp_len, List.length_reverse]
theorem fbk_allK {fs : List Int} (h : allK fs = true) : allK (fbk fs) = true := by
  rw [fbk, allK, List.all_reverse, List.all_eq_true]
  intro x hx
  have := flp_kind fs.reverse (fun k hk => allK_mem h k (by simpa using hk)) x hx
  simpa [isK] using this
theorem bck_opn (fs : List Int) : bck (opn fs) = opn (fbk fs) := by rw [opr_opn, bck_opr, fbk, opn_opr]
/-- What lies behind place r, read from its end. -/
def bkl (ws : List Int) (r : Nat) : List Int := ((ws.drop r).map fun k => 3 - k).reverse
theorem bkl_step {ws : List Int} {r : Nat} (h : r < ws.length) : bkl ws r = bkl ws (r + 1) ++ [3 - gt ws r] := by
  rw [bkl, drop_gt h, List.map_cons, List.reverse_cons]
  rfl
theorem bkl_len (ws : List Int) (r : Nat) : (bkl ws r).length = ws.length - r := by simp [bkl]
theorem bkl_zero (ws : List Int) : bkl ws 0 = bck ws := by simp [bkl, bck]
theorem bkl_all (ws : List Int) : bkl ws ws.length = [] := by simp [bkl]
end Go.Proofs.Ytblagffijppgjaa
