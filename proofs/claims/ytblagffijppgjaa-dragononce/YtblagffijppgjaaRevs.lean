/- halved; slices.Reverse; begun. -/
import Derived.Test.YtblagffijppgjaaRefw
namespace Go.Proofs.Ytblagffijppgjaa
open Go.RowKit

/-- One less than a power of two, within the limits. -/
def isP (m : Nat) : Bool := (List.range 11).any fun k => 2 ^ k == m + 1
theorem bits_two : ∀ a : Fin 1024, (bits .and .i64 ((a.val : Int) + 1) (a.val : Int) == 0) = isP a.val := by decide +kernel
theorem isP_big {m : Nat} (h : 1024 ≤ m) : isP m = false := by
  rw [isP, List.any_eq_false]
  intro k hk
  have h1 : k ≤ 10 := by have := List.mem_range.1 hk; omega
  have := pow10 h1
  simp
  omega
theorem isP_ex {m : Nat} : isP m = true ↔ ∃ k, k ≤ 10 ∧ 2 ^ k = m + 1 := by
  rw [isP, List.any_eq_true]
  constructor
  · rintro ⟨k, hk, e⟩
    exact ⟨k, by have := List.mem_range.1 hk; omega, by simpa using e⟩
  · rintro ⟨k, hk, e⟩
    exact ⟨k, List.mem_range.2 (by omega), by simpa using e⟩
theorem halved21 (m : Nat) (hm : m ≤ 17592186044416) (w : World) : Calls Try.prog 21 #[.int .i64 ((m : Int) + 1)] w fun e w' => e = .returned (.bool (isP m)) ∧ Below w.heap.size w w' := by
  by_cases h : m < 1024
  · have hb := bits_two ⟨m, h⟩
    simp only at hb
    have q : (m : Int) + 1 ≤ 1024 := by omega
    obtain ⟨p, hp⟩ : ∃ p, p = isP m := ⟨_, rfl⟩
    rw [← hp] at hb ⊢
    clear hp
    have q2 : decide ((m : Int) + 1 ≤ 1024) = true := by simp [q]
    go_enter Try.func21, Try.ntmps21
    go_wp2
    go_ret
    exact ⟨ret_bool (by simp), bl_refl _⟩
  · rw [isP_big (by omega)]
    have q : ¬ (m : Int) + 1 ≤ 1024 := by omega
    have q2 : decide ((m : Int) + 1 ≤ 1024) = false := by simpa using q
    go_enter Try.func21, Try.ntmps21
    go_wp2
    go_ret
    exact ⟨rfl, bl_refl _⟩
theorem gr_via {w x y : World} {row : Option Nat} (h : w.grownBy x row) (k : Below x.heap.size x y) : w.grownBy y row := by
  have g := bl_grown k
  exact ⟨g.os.trans h.os, g.tape.trans h.tape, g.output.trans h.output, Nat.le_trans h.size g.size, fun j hj hne => (g.block j (Nat.lt_of_lt_of_le hj h.size) (by simp)).trans (h.block j hj hne)⟩
/-- The first and the last i numbers have changed places. -/
def RV (l : List Int) (i : Nat) (H : List Int) : Prop := H.length = l.length ∧ ∀ k, k < l.length → gt H k = if k < i ∨ l.length - 1 - i < k then gt l (l.length - 1 - k) else gt l k
theorem rv_start (l : List Int) : RV l 0 l := ⟨rfl, fun k hk => by rw [if_neg (by omega)]⟩
theorem rv_step {l H : List Int} {i j : Nat} (h : RV l i H) (hij : i + j + 1 = l.length) (hlt : i < j) : RV l (i + 1) ((H.set i (gt H j)).set j (gt H i)) := by
  refine ⟨by simp [h.1], fun k hk => ?_⟩
  have e := h.1
  rw [gt_set (by rw [List.length_set]; omega), gt_set (by omega)]
  have hi := h.2 i (by omega)
  have hj := h.2 j (by omega)
  rw [if_neg (by omega)] at hi hj
  by_cases c : k = j
  · subst c
    rw [if_pos rfl, if_pos (by omega), hi]
    congr 1
    omega
  · rw [if_neg c]
    by_cases d : k = i
    · subst d
      rw [if_pos rfl, if_pos (by omega), hj]
      congr 1
      omega
    · rw [if_neg d, h.2 k hk]
      by_cases f : k < i ∨ l.length - 1 - i < k
      · rw [if_pos f, if_pos (by omega)]
      · rw [if_neg f, if_neg (by omega)]
theorem rv_end {l H : List Int} {i j : Nat} (h : RV l i H) (hij : i + j + 1 = l.length) (hle : j ≤ i) : H = l.reverse := by
  have e := h.1
  refine List.ext_getElem (by simp [e]) (fun k h1 h2 => ?_)
  have hk : k < l.length := by omega
  have := h.2 k hk
  rw [gt_lt h1] at this
  rw [this, List.getElem_reverse]
  by_cases f : k < i ∨ l.length - 1 - i < k
  · rw [if_pos f, gt_lt (by omega)]
  · rw [if_neg f, gt_lt hk]
    congr 1
    omega
set_option maxRecDepth 100000 in
set_option maxHeartbeats 1000000 in
theorem reverse30 (g cap : Nat) (l : List Int) (w : World) (h : HR w g l.length l) (hl : l.length ≤ 100) (h0 : 0 < l.length) :
    Calls Try.prog 30 #[.slice (some ⟨g, 0, none⟩) l.length cap] w fun e w' => (∃ v, e = .returned v) ∧ HR w' g l.length l.reverse ∧ w.grownBy w' (some g) := by
  have HH : Hid (HR w g l.length l) := h
  clear h
  obtain ⟨n, hn⟩ : ∃ n, n = l.length := ⟨_, rfl⟩
  have HN : Hid (n = l.length) := hn
  rw [← hn] at HH hl h0 ⊢
  clear hn
  obtain ⟨n1, rfl⟩ : ∃ n1, n = n1 + 1 := ⟨n - 1, by omega⟩
  go_enter Try.func30, Try.ntmps30
  go_wp2
  go_loopg [2, 3] (n1 + 1) (fun gk s2 s3 wx => ∃ i j : Nat, i ≤ 100 ∧ j ≤ 100 ∧ gk = n1 + 1 - i ∧ s2 = .int .i64 (i : Int) ∧ s3 = .int .i64 (j : Int) ∧ Hid (i + j = n1 ∧ i ≤ j + 1) ∧ Hid (∃ H, RV l i H ∧ HR wx g (n1 + 1) H) ∧ Hid (w.grownBy wx (some g)))
  case atStart => exact ⟨0, n1, by omega, by omega, rfl, rfl, by go_num, ⟨by omega, by omega⟩, ⟨l, rv_start l, HH.out⟩, ⟨rfl, rfl, rfl, Nat.le_refl _, fun _ _ _ => rfl⟩⟩
  case round =>
    obtain ⟨i, j, hi1, hj1, rfl, rfl, rfl, HIJ, HX, HG⟩ := hrel
    obtain ⟨H, hrv, hhr⟩ := HX.out
    have HV : Hid (RV l i H ∧ HR wr g (n1 + 1) H) := ⟨hrv, hhr⟩
    clear hrv hhr HX
    by_cases q : i < j
    · have q1 : (i : Int) < (j : Int) := by omega
      have i0 : (0 : Int) ≤ (i : Int) := by omega
      have j0 : (0 : Int) ≤ (j : Int) := by omega
      have i2 : (i : Int) < (n1 : Int) + 1 := by have := HIJ.out; omega
      have j2 : (j : Int) < (n1 : Int) + 1 := by have := HIJ.out; omega
      obtain ⟨c0, f0⟩ := HV.out.2.2 i (by have := HIJ.out; omega)
      obtain ⟨c1, f1⟩ := HV.out.2.2 j (by have := HIJ.out; omega)
      obtain ⟨vi, hvi⟩ : ∃ v, v = gt H i := ⟨_, rfl⟩
      obtain ⟨vj, hvj⟩ : ∃ v, v = gt H j := ⟨_, rfl⟩
      rw [← hvi] at c0
      rw [← hvj] at c1
      have zg : g < wr.heap.size := World.block_lt_of_cell? _ _ c0
      have ne : ¬ i = j := by omega
      have ne2 : ¬ j = i := by omega
      have t1 : (wr.setCell ⟨g, i, none⟩ (.int .i64 vj)).cell? ⟨g, j, none⟩ = some (.int .i64 vj) := by
        rw [World.cell?_setCell_other _ _ _ _ (by simp )]
        exact c1
      have HS : Hid (RV l (i + 1) ((H.set i vj).set j vi) ∧ HR ((wr.setCell ⟨g, i, none⟩ (.int .i64 vj)).setCell ⟨g, j, none⟩ (.int .i64 vi)) g (n1 + 1) ((H.set i vj).set j vi)) := by
        have hij := HIJ.out
        have hn := HN.out
        refine ⟨by rw [hvi, hvj]; exact rv_step HV.out.1 (by omega) q, ?_⟩
        exact (HV.out.2.set vj (by omega)).set vi (by omega)
      have HG2 : Hid (w.grownBy ((wr.setCell ⟨g, i, none⟩ (.int .i64 vj)).setCell ⟨g, j, none⟩ (.int .i64 vi)) (some g)) := by
        have g1 := grown_cell wr g i (.int .i64 vj)
        have g2 := grown_cell (wr.setCell ⟨g, i, none⟩ (.int .i64 vj)) g j (.int .i64 vi)
        have g0 := HG.out
        exact ⟨g2.os.trans (g1.os.trans g0.os), g2.tape.trans (g1.tape.trans g0.tape), g2.output.trans (g1.output.trans g0.output), Nat.le_trans g0.size (Nat.le_trans g1.size g2.size), fun k hk hne => (g2.block k (Nat.lt_of_lt_of_le hk (Nat.le_trans g0.size g1.size)) hne).trans ((g1.block k (Nat.lt_of_lt_of_le hk g0.size) hne).trans (g0.block k hk hne))⟩
      clear hvi hvj
      go_wp2
      go_region
      all_goals
        go_wp2
        go_roundg (n1 + 1 - (i + 1))
        case measure => have := HIJ.out; omega
        case rel => exact ⟨i + 1, j - 1, by have := HIJ.out; omega, by omega, rfl, by go_num, by go_num, (by have := HIJ.out; constructor <;> omega), ⟨_, HS.out.1, HS.out.2.kept (bl_drew (bl_refl _))⟩, gr_via HG2.out (bl_drew (bl_refl _))⟩
    · have q1 : ¬ (i : Int) < (j : Int) := by omega
      have HF : Hid (HR wr g (n1 + 1) l.reverse) := by
        have := rv_end (j := j) HV.out.1 (by have h1 := HN.out; have h2 := HIJ.out; omega) (by omega)
        have h2 := HV.out.2
        rw [this] at h2
        exact h2
      go_wp2
      go_end0
      exact ⟨⟨_, rfl⟩, HF.out, HG.out⟩
end Go.Proofs.Ytblagffijppgjaa
