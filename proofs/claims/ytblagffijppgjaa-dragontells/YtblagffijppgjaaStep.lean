/- One step of the walk. -/
import Derived.Test.YtblagffijppgjaaPnts
namespace Go.Proofs.Ytblagffijppgjaa
open Go.RowKit

set_option maxRecDepth 100000 in
set_option maxHeartbeats 1000000 in
theorem step28 (W0 w : World) (b1 b2 b3 : Nat) (x y dx dy : Int) (s : Value) (l : List (Int × Int)) (h : Wk W0 w b1 b2 b3 (x, y) (dx, dy) s l) (hx : -2000 ≤ x ∧ x ≤ 2000 ∧ -2000 ≤ y ∧ y ≤ 2000) (hd : -1 ≤ dx ∧ dx ≤ 1 ∧ -1 ≤ dy ∧ dy ≤ 1) (hl : l.length ≤ 2000) :
    Calls Try.prog 28 #[.pointer (some ⟨b1, 0, none⟩), .pointer (some ⟨b2, 0, none⟩), .pointer (some ⟨b3, 0, none⟩)] w fun e w' => (∃ v, e = .returned v) ∧ ∃ s', Wk W0 w' b1 b2 b3 (x + dx, y + dy) (dx, dy) s' (l ++ [(x + dx, y + dy)]) := by
  obtain ⟨i34, hI⟩ := info_parts inf34
  have HI : Hid (Try.prog.info? 34 = some i34 ∧ i34.zero = some (.agg #[.int .i64 0, .int .i64 0]) ∧ i34.size = 2 ∧ i34.bytes = 16) := hI
  obtain ⟨hx1, hx2, hx3, hx4⟩ := hx
  obtain ⟨hd1, hd2, hd3, hd4⟩ := hd
  have HW : Hid (Wk W0 w b1 b2 b3 (x, y) (dx, dy) s l) := h
  obtain ⟨⟨⟨c1, f1⟩, ⟨c2, f2⟩⟩, ⟨⟨c3, f3⟩, ⟨c4, f4⟩⟩, ⟨c5, f5⟩, h6, ⟨n1, n2, n3⟩, h8, h9, h10⟩ := h
  have z1 : b1 < w.heap.size := World.block_lt_of_cell? _ _ c1
  have z2 : b2 < w.heap.size := World.block_lt_of_cell? _ _ c3
  have z3 : b3 < w.heap.size := World.block_lt_of_cell? _ _ c5
  clear h6 h8 h9 h10 hI
  go_enter Try.func28, Try.ntmps28
  go_wp2_with (at_builtin; refine wpList_append_lies _ rfl (.tmp 14) (.tmp 16) 27 rfl W0.heap.size 34 i34 (.agg #[.int .i64 0, .int .i64 0]) 2 16 Try.underlying27 HI.out.1 HI.out.2.1 HI.out.2.2.1 HI.out.2.2.2 rfl (by decide) s l.length (rowP l) rfl (own_below (HW.out.at (x + dx, y + dy)).2.2.2.1 (bl_alloc (bl_refl _))) ⟨w.heap.size, 0, none⟩ 1 1 [.int .i64 (x + dx), .int .i64 (y + dy)] rfl rfl (two_cells _ _ (by simp [go_sem]) (by simp [go_sem])) (cell_two _ _) (by decide) (by unfold maxLen; omega) (by omega) (by have := HW.out.2.2.2.2.2.2.2.size; simp; omega) _ rfl ?grow)
  case grow =>
    intro g3 cap3 w3 hown hgr hat hlt
    have HX : Hid (Wk W0 (w3.setCell ⟨b3, 0, none⟩ (.slice (some ⟨g3, 0, none⟩) (l.length + 1) cap3)) b1 b2 b3 (x + dx, y + dy) (dx, dy) (.slice (some ⟨g3, 0, none⟩) (l.length + 1) cap3) (l ++ [(x + dx, y + dy)]) ∧ Cl w3 b3 0 s) :=
      ((HW.out.at (x + dx, y + dy)).kept (bl_alloc (bl_refl _))).more (x + dx, y + dy) hown hgr (by simpa using hat)
    have d5 := HX.out.2.1
    have e5 := HX.out.2.2
    have z5 : b3 < w3.heap.size := World.block_lt_of_cell? _ _ d5
    clear hown hgr hat hlt
    go_wp2
    go_end0
    exact ⟨⟨_, rfl⟩, _, HX.out.1⟩
end Go.Proofs.Ytblagffijppgjaa
