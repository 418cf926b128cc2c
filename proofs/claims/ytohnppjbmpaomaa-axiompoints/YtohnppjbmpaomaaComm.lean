/- common. -/
import Derived.Test.YtohnppjbmpaomaaForm
namespace Go.Proofs.Ytohnppjbmpaomaa
open Go.RowKit

set_option maxRecDepth 100000 in
set_option maxHeartbeats 1600000 in
theorem common39 (v : Value) (l : List Int) (w : World) (hv : Sg w v l) (hl : l.length ≤ 100) (hs : ∀ i, i < l.length → sm (gt l i)) :
    Calls Try.prog 39 #[v] w fun e w' => e = .returned (.int .i64 (gL l : Int)) ∧ Below w.heap.size w w' := by
  obtain ⟨a, c, rfl, hR⟩ := hv
  have HR : Hid (∀ i, i < l.length → ∃ g off, a = some ⟨g, off, none⟩ ∧ w.cell? ⟨g, off + i, none⟩ = some (.int .i64 (gt l i))) := hR
  have HS : Hid (∀ i, i < l.length → sm (gt l i)) := hs
  clear hR hs
  go_enter Try.func39, Try.ntmps39
  go_wp2
  go_loopg [3, 8] l.length (fun gk s3 s8 wx => ∃ (i : Nat) (d : Int), i ≤ l.length ∧ gk = l.length - i ∧ s3 = .int .i64 d ∧ s8 = .int .i64 (i : Int) ∧ Below w.heap.size w wx ∧ sm d ∧ d.natAbs = gL (l.take i))
  case atStart => exact ⟨0, 0, by omega, rfl, rfl, rfl, bl_refl _, by unfold sm; omega, by simp [gL]⟩
  case round =>
    obtain ⟨i, d, hi, rfl, rfl, rfl, hB, hd, hg⟩ := hrel
    have HB : Hid (Below w.heap.size w wr ∧ sm d ∧ d.natAbs = gL (l.take i)) := ⟨hB, hd, hg⟩
    clear hB hd hg
    by_cases h1 : i < l.length
    · have i1 : (i : Int) < (l.length : Int) := by omega
      have i0 : (0 : Int) ≤ (i : Int) := by omega
      obtain ⟨g, off, rfl, c0⟩ := HR.out i h1
      replace c0 := cl_kept HB.out.1 c0
      have zg : g < wr.heap.size := World.block_lt_of_cell? _ _ c0
      have hsv := HS.out i h1
      have HGT := gL_take h1
      rw [← HB.out.2.2] at HGT
      obtain ⟨vi, hvi⟩ : ∃ v, v = gt l i := ⟨_, rfl⟩
      rw [← hvi] at c0 hsv HGT
      have HVI : Hid (sm vi ∧ gL (l.take (i + 1)) = Nat.gcd d.natAbs vi.natAbs) := ⟨hsv, HGT⟩
      clear hvi hsv HGT
      go_wp2
      go_loopg [3, 5] vi.natAbs (fun gk s3 s5 wx => ∃ (d' n : Int), n.natAbs = gk ∧ s3 = .int .i64 d' ∧ s5 = .int .i64 n ∧ Below w.heap.size w wx ∧ sm d' ∧ sm n ∧ Nat.gcd d'.natAbs n.natAbs = gL (l.take (i + 1)))
      case atStart => exact ⟨d, vi, rfl, rfl, rfl, HB.out.1, HB.out.2.1, HVI.out.1, HVI.out.2.symm⟩
      case round =>
        obtain ⟨d', n, rfl, rfl, rfl, hB, hd, hn, hg⟩ := hrel
        have HY : Hid (Below w.heap.size w wr ∧ sm d' ∧ sm n ∧ Nat.gcd d'.natAbs n.natAbs = gL (l.take (i + 1))) := ⟨hB, hd, hn, hg⟩
        clear hB hd hn hg
        by_cases hn0 : n = 0
        · subst hn0
          have HZ : Hid (d'.natAbs = gL (l.take (i + 1))) := by
            have := HY.out.2.2.2
            simp at this
            exact this
          go_wp2
          go_roundg (l.length - (i + 1))
          case measure => omega
          case rel => exact ⟨i + 1, d', by omega, rfl, rfl, by go_num, HY.out.1, HY.out.2.1, HZ.out⟩
        · have q0 : (n != 0) = true := by simpa using hn0
          have HT : Hid ((d'.tmod n).natAbs < n.natAbs ∧ sm (d'.tmod n) ∧ Nat.gcd n.natAbs (d'.tmod n).natAbs = gL (l.take (i + 1))) := ⟨tmod_lt d' n hn0, sm_tmod HY.out.2.1 hn0 HY.out.2.2.1, (gcd_step d' n).trans HY.out.2.2.2⟩
          go_wp2
          go_region
          go_wp2
          go_roundg ((d'.tmod n).natAbs)
          case measure => exact HT.out.1
          case rel => exact ⟨n, d'.tmod n, rfl, rfl, rfl, bl_drew HY.out.1, HY.out.2.2.1, HT.out.2.1, HT.out.2.2⟩
    · have i1 : ¬ (i : Int) < (l.length : Int) := by omega
      obtain rfl : i = l.length := by omega
      have hd := HB.out.2.1
      have HG := HB.out.2.2
      rw [List.take_length] at HG
      have HH : Hid (d.natAbs = gL l) := HG
      clear HG
      unfold sm at hd
      obtain ⟨d1, d2⟩ := hd
      by_cases hd0 : d < 0
      · have e1 : (gL l : Int) = -d := by have := HH.out; omega
        have q : -d > d := by omega
        go_wp2
        go_ret
        exact ⟨rfl, HB.out.1⟩
      · have e1 : (gL l : Int) = d := by have := HH.out; omega
        have q : ¬ -d > d := by omega
        go_wp2
        go_ret
        exact ⟨rfl, HB.out.1⟩
end Go.Proofs.Ytohnppjbmpaomaa
