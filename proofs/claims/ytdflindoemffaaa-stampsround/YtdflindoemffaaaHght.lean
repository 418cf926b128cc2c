/- heights; kindsOf. -/
import Derived.Test.YtdflindoemffaaaRfsd
namespace Go.Proofs.Ytdflindoemffaaa
open Go.RowKit

theorem ext_gt {l m : List Int} (h : l.length = m.length) (he : ∀ k, k < l.length → gt l k = gt m k) : l = m :=
  List.ext_getElem h fun k h1 h2 => by
    have := he k h1
    rwa [gt_lt h1, gt_lt h2] at this
def hs (l : List Int) (i : Nat) : List Int := (List.range l.length).map fun k : Nat => if (l.take i).contains ((k : Int) + 1) = true then hk l k else 0
theorem hs_len (l : List Int) (i : Nat) : (hs l i).length = l.length := by simp [hs]
theorem hs_at {l : List Int} {i k : Nat} (h : k < l.length) : gt (hs l i) k = if (l.take i).contains ((k : Int) + 1) = true then hk l k else 0 := by
  rw [gt_lt (by rw [hs_len]; exact h)]
  simp [hs]
theorem hs_step {l : List Int} (hp : Prm l) {i t : Nat} (hi : i < l.length) (ht : t < l.length) (e : gt l i = (t : Int) + 1) : hs l (i + 1) = (hs l i).set t (i : Int) := by
  refine ext_gt (by rw [List.length_set, hs_len, hs_len]) (fun k hk' => ?_)
  rw [hs_len] at hk'
  rw [gt_set (by rw [hs_len]; exact ht), hs_at hk', hs_at hk', take_more hi, e]
  by_cases c : k = t
  · subst c
    have := hg_at hp hi
    rw [e] at this
    simp [hk, this]
  · have : (((k : Int) + 1) == ((t : Int) + 1)) = false := by rw [beq_eq_false_iff_ne]; omega
    simp [c, this]
def hL (l : List Int) : List Int := (List.range l.length).map fun k : Nat => hk l k
theorem hL_len (l : List Int) : (hL l).length = l.length := by simp [hL]
theorem hL_at {l : List Int} {k : Nat} (h : k < l.length) : gt (hL l) k = hk l k := by
  rw [gt_lt (by rw [hL_len]; exact h)]
  simp [hL]
theorem hs_end {l : List Int} (hp : Prm l) : hs l l.length = hL l := by
  refine ext_gt (by rw [hs_len, hL_len]) (fun k hk' => ?_)
  rw [hs_len] at hk'
  rw [hs_at hk', hL_at hk', List.take_length, if_pos]
  rw [List.contains_iff_mem]
  have := hp (k + 1) (by omega) (by omega)
  rwa [show ((k + 1 : Nat) : Int) = (k : Int) + 1 by omega] at this
theorem hs_zero (l : List Int) : hs l 0 = List.replicate l.length 0 := by
  refine ext_gt (by rw [hs_len]; simp) (fun k hk' => ?_)
  rw [hs_len] at hk'
  rw [hs_at hk', gt_rep _ _ hk']
  simp
set_option maxRecDepth 100000 in
set_option maxHeartbeats 800000 in
theorem heights_any (v : Value) (l : List Int) (w : World) (hv : Sg w v l) (hp : Prm l) (h8 : l.length ≤ 8) :
    Calls Try.prog 34 #[v] w fun e w' => ∃ g, e = .returned (.slice (some ⟨g, 0, none⟩) l.length l.length) ∧ Rw w' g (hL l) ∧ Below w.heap.size w w' := by
  obtain ⟨a, c, rfl, hR⟩ := hv
  obtain ⟨i3, hI⟩ := info_parts inf3
  have HI : Hid (Try.prog.info? 3 = some i3 ∧ i3.zero = some (.int .i64 0) ∧ i3.size = 1 ∧ i3.bytes = 8) := hI
  have HRD : Hid (∀ i, i < l.length → ∃ g off, a = some ⟨g, off, none⟩ ∧ w.cell? ⟨g, off + i, none⟩ = some (.int .i64 (gt l i))) := hR
  have HP : Hid (Prm l) := hp
  clear hR hI hp
  go_enter Try.func34, Try.ntmps34
  go_wp2_with (at_make; refine wpList_make_full _ rfl _ _ 22 rfl w.heap.size 3 i3 (.int .i64 0) 1 Try.underlying22 HI.out.1 HI.out.2.1 HI.out.2.2.1 _ _ _ _ l.length rfl rfl rfl rfl (by rw [HI.out.2.2.2]; omega) (by unfold maxLen; omega) (Nat.le_refl _) ?mk2)
  case mk2 =>
    intro w2 hown2 hg2
    have hb2 : Below w.heap.size w w2 := (bl_refl w).grown hg2 (Nat.le_refl _) (fun k hk => by cases hk)
    have HO : Hid (HR w2 w.heap.size l.length (hs l 0) ∧ Below w.heap.size w w2) := by
      refine ⟨⟨hs_len _ _, fun i hi => ?_⟩, hb2⟩
      rw [hs_zero, gt_rep _ _ hi]
      exact made_cells hown2 i hi
    clear hown2 hg2 hb2
    go_wp2
    go_loopg [11] l.length (fun gk s11 wx => ∃ i : Nat, i ≤ l.length ∧ gk = l.length - i ∧ s11 = .int .i64 (i : Int) ∧ Below w.heap.size w wx ∧ HR wx w.heap.size l.length (hs l i))
    case atStart => exact ⟨0, by omega, rfl, rfl, HO.out.2, HO.out.1⟩
    case round =>
      clear HO
      obtain ⟨i, hi, rfl, rfl, hB, hT⟩ := hrel
      have HB : Hid (Below w.heap.size w wr ∧ HR wr w.heap.size l.length (hs l i)) := ⟨hB, hT⟩
      clear hB hT
      by_cases h1 : i < l.length
      · have i1 : (i : Int) < (l.length : Int) := by omega
        have i0 : (0 : Int) ≤ (i : Int) := by omega
        obtain ⟨g, off, rfl, c0⟩ := HRD.out i h1
        replace c0 := cl_kept HB.out.1 c0
        have zg : g < wr.heap.size := World.block_lt_of_cell? _ _ c0
        have hrg := HP.out.range h1
        obtain ⟨vi, hvi⟩ : ∃ v, v = gt l i := ⟨_, rfl⟩
        rw [← hvi] at c0 hrg
        obtain ⟨t, ht⟩ : ∃ t : Nat, vi - 1 = (t : Int) := ⟨(vi - 1).toNat, by omega⟩
        have HVI : Hid (gt l i = (t : Int) + 1) := by rw [← hvi]; exact (by omega : vi = (t : Int) + 1)
        have t1 : (t : Int) < (l.length : Int) := by omega
        have t0 : (0 : Int) ≤ (t : Int) := by omega
        have c1 := (HB.out.2.2 t (by omega)).1
        have f1 := (HB.out.2.2 t (by omega)).2
        have z1 : w.heap.size < wr.heap.size := World.block_lt_of_cell? _ _ c1
        clear hvi
        have HS2 : Hid (HR (wr.setCell ⟨w.heap.size, t, none⟩ (.int .i64 (i : Int))) w.heap.size l.length (hs l (i + 1))) := by
          have := HB.out.2.set (k := t) (i : Int) (by omega)
          rw [← hs_step HP.out h1 (by omega) HVI.out] at this
          exact this
        go_wp2
        go_roundg (l.length - (i + 1))
        case measure => omega
        case rel => exact ⟨i + 1, by omega, rfl, by go_num, bl_set HB.out.1 (Nat.le_refl _), HS2.out⟩
      · have i1 : ¬ (i : Int) < (l.length : Int) := by omega
        obtain rfl : i = l.length := by omega
        go_wp2
        go_ret
        refine ⟨w.heap.size, rfl, ?_, HB.out.1⟩
        rw [← hs_end HP.out]
        exact HB.out.2.rw
end Go.Proofs.Ytdflindoemffaaa
