/- Neighbours: across an own edge and back; have two triangles an edge in common? -/
import Derived.Test.YtfpfgfbkbpgolaaDoorTwom
import Derived.Test.YtfpfgfbkbpgolaaDoorGtrb
namespace Go.Proofs.YtfpfgfbkbpgolaaDoor
open Go.RowKit
attribute [local go_sem ↓] Go.wp_at_zero Go.wp_at_succ

theorem fresh_a {v w8 : World} {g : Nat} (hg : v.heap.size = g) (hb : Below (v.alloc (.cells #[.int .i64 0, .int .i64 0, .int .i64 0] 23)).heap.size (v.alloc (.cells #[.int .i64 0, .int .i64 0, .int .i64 0] 23)) w8) : w8.cell? ⟨g, 0, none⟩ = some (.int .i64 0) ∧ w8.cell? ⟨g, 1, none⟩ = some (.int .i64 0) ∧ w8.cell? ⟨g, 2, none⟩ = some (.int .i64 0) ∧ w8.frozen? ⟨g, 0, none⟩ = false ∧ w8.frozen? ⟨g, 1, none⟩ = false ∧ w8.frozen? ⟨g, 2, none⟩ = false ∧ g < w8.heap.size := by
  subst hg
  have c0 : w8.cell? ⟨v.heap.size, 0, none⟩ = some (.int .i64 0) := cl_kept hb (by simp [go_sem])
  refine ⟨c0, cl_kept hb (by simp [go_sem]), cl_kept hb (by simp [go_sem]), ?_, ?_, ?_, World.block_lt_of_cell? _ _ c0⟩
  all_goals exact (hb.frozen (by simp)).trans (by simp [go_sem])
theorem fresh_d {v w8 : World} {g : Nat} (hg : v.heap.size = g) (hb : Below ((v.alloc (.cells #[.int .i64 0, .int .i64 0, .int .i64 0] 23)).drew).heap.size ((v.alloc (.cells #[.int .i64 0, .int .i64 0, .int .i64 0] 23)).drew) w8) : w8.cell? ⟨g, 0, none⟩ = some (.int .i64 0) ∧ w8.cell? ⟨g, 1, none⟩ = some (.int .i64 0) ∧ w8.cell? ⟨g, 2, none⟩ = some (.int .i64 0) ∧ w8.frozen? ⟨g, 0, none⟩ = false ∧ w8.frozen? ⟨g, 1, none⟩ = false ∧ w8.frozen? ⟨g, 2, none⟩ = false ∧ g < w8.heap.size := by
  subst hg
  have c0 : w8.cell? ⟨v.heap.size, 0, none⟩ = some (.int .i64 0) := cl_kept hb (by simp [go_sem])
  refine ⟨c0, cl_kept hb (by simp [go_sem]), cl_kept hb (by simp [go_sem]), ?_, ?_, ?_, World.block_lt_of_cell? _ _ c0⟩
  all_goals exact (hb.frozen (by simp)).trans (by simp [go_sem])
theorem fresh_dd {v w8 : World} {g : Nat} (hg : v.heap.size = g) (hb : Below ((v.alloc (.cells #[.int .i64 0, .int .i64 0, .int .i64 0] 23)).drew.drew).heap.size ((v.alloc (.cells #[.int .i64 0, .int .i64 0, .int .i64 0] 23)).drew.drew) w8) : w8.cell? ⟨g, 0, none⟩ = some (.int .i64 0) ∧ w8.cell? ⟨g, 1, none⟩ = some (.int .i64 0) ∧ w8.cell? ⟨g, 2, none⟩ = some (.int .i64 0) ∧ w8.frozen? ⟨g, 0, none⟩ = false ∧ w8.frozen? ⟨g, 1, none⟩ = false ∧ w8.frozen? ⟨g, 2, none⟩ = false ∧ g < w8.heap.size := by
  subst hg
  have c0 : w8.cell? ⟨v.heap.size, 0, none⟩ = some (.int .i64 0) := cl_kept hb (by simp [go_sem])
  refine ⟨c0, cl_kept hb (by simp [go_sem]), cl_kept hb (by simp [go_sem]), ?_, ?_, ?_, World.block_lt_of_cell? _ _ c0⟩
  all_goals exact (hb.frozen (by simp)).trans (by simp [go_sem])

theorem Across_nb_0 (x y k : Int) (w : World) (h : triB x y k = true) (hs : Steps w) :
    Calls Tryd.prog 10 #[.agg #[.int .i64 x, .int .i64 y, .int .i64 k], .agg #[.int .i64 (ue0 x y k), .int .i64 (ue1 x y k), .int .i64 (ue2 x y k), .int .i64 (ue3 x y k)]] w fun e w' => e = .returned (.tuple #[.agg #[.int .i64 (nbX 0 x k), .int .i64 (nbY 0 y k), .int .i64 (nbK 0 k)], .int .i64 0]) ∧ Below w.heap.size w w' := by
  have hk : 0 ≤ k ∧ k ≤ 3 := by simp [triB] at h; omega
  have := Across_some x y k (ue0 x y k) (ue1 x y k) (ue2 x y k) (ue3 x y k) w h hs (own_0 x y k)
  rw [(nb_ac_0 (y := y) hk).1, (nb_ac_0 (x := x) hk).2.1, (nb_ac_0 (x := x) (y := y) hk).2.2] at this
  exact this
theorem Across_bk_0 (x y k : Int) (w : World) (hk : 0 ≤ k ∧ k ≤ 3) (h : triB (nbX 0 x k) (nbY 0 y k) (nbK 0 k) = true) (hs : Steps w) :
    Calls Tryd.prog 10 #[.agg #[.int .i64 (nbX 0 x k), .int .i64 (nbY 0 y k), .int .i64 (nbK 0 k)], .agg #[.int .i64 (ue0 x y k), .int .i64 (ue1 x y k), .int .i64 (ue2 x y k), .int .i64 (ue3 x y k)]] w fun e w' => e = .returned (.tuple #[.agg #[.int .i64 x, .int .i64 y, .int .i64 k], .int .i64 0]) ∧ Below w.heap.size w w' := by
  have := Across_some (nbX 0 x k) (nbY 0 y k) (nbK 0 k) (ue0 x y k) (ue1 x y k) (ue2 x y k) (ue3 x y k) w h hs (nb_has_0 hk)
  rw [(nb_back_0 (x := x) (y := y) hk).1, (nb_back_0 (x := x) (y := y) hk).2.1, (nb_back_0 (x := x) (y := y) hk).2.2] at this
  exact this

theorem Across_nb_1 (x y k : Int) (w : World) (h : triB x y k = true) (hs : Steps w) :
    Calls Tryd.prog 10 #[.agg #[.int .i64 x, .int .i64 y, .int .i64 k], .agg #[.int .i64 (ue4 x y k), .int .i64 (ue5 x y k), .int .i64 (ue6 x y k), .int .i64 (ue7 x y k)]] w fun e w' => e = .returned (.tuple #[.agg #[.int .i64 (nbX 1 x k), .int .i64 (nbY 1 y k), .int .i64 (nbK 1 k)], .int .i64 0]) ∧ Below w.heap.size w w' := by
  have hk : 0 ≤ k ∧ k ≤ 3 := by simp [triB] at h; omega
  have := Across_some x y k (ue4 x y k) (ue5 x y k) (ue6 x y k) (ue7 x y k) w h hs (own_1 x y k)
  rw [(nb_ac_1 (y := y) hk).1, (nb_ac_1 (x := x) hk).2.1, (nb_ac_1 (x := x) (y := y) hk).2.2] at this
  exact this
theorem Across_bk_1 (x y k : Int) (w : World) (hk : 0 ≤ k ∧ k ≤ 3) (h : triB (nbX 1 x k) (nbY 1 y k) (nbK 1 k) = true) (hs : Steps w) :
    Calls Tryd.prog 10 #[.agg #[.int .i64 (nbX 1 x k), .int .i64 (nbY 1 y k), .int .i64 (nbK 1 k)], .agg #[.int .i64 (ue4 x y k), .int .i64 (ue5 x y k), .int .i64 (ue6 x y k), .int .i64 (ue7 x y k)]] w fun e w' => e = .returned (.tuple #[.agg #[.int .i64 x, .int .i64 y, .int .i64 k], .int .i64 0]) ∧ Below w.heap.size w w' := by
  have := Across_some (nbX 1 x k) (nbY 1 y k) (nbK 1 k) (ue4 x y k) (ue5 x y k) (ue6 x y k) (ue7 x y k) w h hs (nb_has_1 hk)
  rw [(nb_back_1 (x := x) (y := y) hk).1, (nb_back_1 (x := x) (y := y) hk).2.1, (nb_back_1 (x := x) (y := y) hk).2.2] at this
  exact this

theorem Across_nb_2 (x y k : Int) (w : World) (h : triB x y k = true) (hs : Steps w) :
    Calls Tryd.prog 10 #[.agg #[.int .i64 x, .int .i64 y, .int .i64 k], .agg #[.int .i64 (ue8 x y k), .int .i64 (ue9 x y k), .int .i64 (ue10 x y k), .int .i64 (ue11 x y k)]] w fun e w' => e = .returned (.tuple #[.agg #[.int .i64 (nbX 2 x k), .int .i64 (nbY 2 y k), .int .i64 (nbK 2 k)], .int .i64 0]) ∧ Below w.heap.size w w' := by
  have hk : 0 ≤ k ∧ k ≤ 3 := by simp [triB] at h; omega
  have := Across_some x y k (ue8 x y k) (ue9 x y k) (ue10 x y k) (ue11 x y k) w h hs (own_2 x y k)
  rw [(nb_ac_2 (y := y) hk).1, (nb_ac_2 (x := x) hk).2.1, (nb_ac_2 (x := x) (y := y) hk).2.2] at this
  exact this
theorem Across_bk_2 (x y k : Int) (w : World) (hk : 0 ≤ k ∧ k ≤ 3) (h : triB (nbX 2 x k) (nbY 2 y k) (nbK 2 k) = true) (hs : Steps w) :
    Calls Tryd.prog 10 #[.agg #[.int .i64 (nbX 2 x k), .int .i64 (nbY 2 y k), .int .i64 (nbK 2 k)], .agg #[.int .i64 (ue8 x y k), .int .i64 (ue9 x y k), .int .i64 (ue10 x y k), .int .i64 (ue11 x y k)]] w fun e w' => e = .returned (.tuple #[.agg #[.int .i64 x, .int .i64 y, .int .i64 k], .int .i64 0]) ∧ Below w.heap.size w w' := by
  have := Across_some (nbX 2 x k) (nbY 2 y k) (nbK 2 k) (ue8 x y k) (ue9 x y k) (ue10 x y k) (ue11 x y k) w h hs (nb_has_2 hk)
  rw [(nb_back_2 (x := x) (y := y) hk).1, (nb_back_2 (x := x) (y := y) hk).2.1, (nb_back_2 (x := x) (y := y) hk).2.2] at this
  exact this

set_option maxRecDepth 100000 in
set_option maxHeartbeats 3200000 in
theorem beside_true (x y k X Y K j : Int) (w : World) (ht : triB x y k = true) (hs : Steps w) (hj : 0 ≤ j ∧ j ≤ 2) (hX : X = nbX j x k ∧ Y = nbY j y k ∧ K = nbK j k) :
    Calls Tryd.prog 30 #[.agg #[.int .i64 x, .int .i64 y, .int .i64 k], .agg #[.int .i64 X, .int .i64 Y, .int .i64 K]] w fun e w' => e = .returned (.bool true) ∧ Below w.heap.size w w' := by
  have HX : Hid (X = nbX j x k ∧ Y = nbY j y k ∧ K = nbK j k) := hX
  have HS : Hid (Steps w) := hs
  have HT : Hid (triB x y k = true) := ht
  have he := eql23
  obtain ⟨j0, j2⟩ := hj
  clear hX hs ht
  go_enter Tryd.func30, Tryd.ntmps30
  go_wp2_with (go_at_call 9; refine (Edges_yes _ _ _ _ HT.out (by with_reducible exact HS.out.kept (bl_alloc (bl_alloc (bl_refl _))))).mono ?_; rintro e w1 ⟨rfl, hb⟩; have HB : Hid (Tr w1 w.heap.size x y k ∧ Tr w1 (w.heap.size + 1) X Y K ∧ Below w.heap.size w w1) := ⟨Tr.kept (by simp [Tr, go_sem]) hb, Tr.kept (by simp [Tr, go_sem]) hb, bl_via (bl_alloc (bl_alloc (bl_refl _))) hb⟩; clear hb)
  go_loopg [7] 3 (fun g s7 wx => ∃ i : Int, 0 ≤ i ∧ i ≤ j ∧ (g : Int) = 3 - i ∧ s7 = .int .i64 i ∧ Tr wx w.heap.size x y k ∧ Tr wx (w.heap.size + 1) X Y K ∧ Twl wx w1.heap.size (ue0 x y k) (ue1 x y k) (ue2 x y k) (ue3 x y k) (ue4 x y k) (ue5 x y k) (ue6 x y k) (ue7 x y k) (ue8 x y k) (ue9 x y k) (ue10 x y k) (ue11 x y k) ∧ Below w.heap.size w wx)
  case atStart => exact ⟨0, by omega, by omega, by omega, rfl, HB.out.1.kept (bl_alloc (bl_refl _)), HB.out.2.1.kept (bl_alloc (bl_refl _)), by simp [Twl, go_sem], bl_alloc HB.out.2.2⟩
  case round =>
    clear HB
    obtain ⟨i, i0, ij, hg, rfl, ⟨t0, t1, t2⟩, ⟨o0, o1, o2⟩, ⟨m0, m1, m2, m3, m4, m5, m6, m7, m8, m9, m10, m11⟩, hB⟩ := hrel
    have HBr : Hid (Below w.heap.size w wr) := hB
    clear hB
    have zt : w.heap.size < wr.heap.size := World.block_lt_of_cell? _ _ t0
    have zg : w1.heap.size < wr.heap.size := World.block_lt_of_cell? _ _ m0
    have hi : i = 0 ∨ i = 1 ∨ i = 2 := by omega
    rcases hi with rfl | rfl | rfl
    · go_wp2
      go_cut [8, 9] (fun sa sb wx => ∃ g : Nat, sa = .pointer (some ⟨g, 0, none⟩) ∧ sb = .int .i64 0 ∧ Tr wx g (nbX 0 x k) (nbY 0 y k) (nbK 0 k) ∧ Below wr.heap.size wr wx)
      case first =>
        go_region_held3 (fun w' => w'.cell? ⟨w.heap.size, 0, none⟩ = some (.int .i64 x) ∧ w'.cell? ⟨w.heap.size, 1, none⟩ = some (.int .i64 y) ∧ w'.cell? ⟨w.heap.size, 2, none⟩ = some (.int .i64 k) ∧ w'.cell? ⟨w1.heap.size, 0, none⟩ = some (.int .i64 (ue0 x y k)) ∧ w'.cell? ⟨w1.heap.size, 1, none⟩ = some (.int .i64 (ue1 x y k)) ∧ w'.cell? ⟨w1.heap.size, 2, none⟩ = some (.int .i64 (ue2 x y k)) ∧ w'.cell? ⟨w1.heap.size, 3, none⟩ = some (.int .i64 (ue3 x y k)))
          ((refine ⟨?_, ?_, ?_, ?_, ?_, ?_, ?_⟩ <;> (repeat' (first | (with_reducible assumption) | (with_reducible refine st_old ?_ ?_) | (dsimp only; omega) | (simp [go_sem]; done) | (with_reducible refine al_old ?_) | (with_reducible refine dr_old ?_)))))
          ((go_at_call 10; refine (Across_nb_0 _ _ _ _ HT.out (by with_reducible (first | exact HS.out.kept HBr.out | exact HS.out.kept (bl_drew HBr.out) | exact HS.out.kept (bl_drew (bl_drew HBr.out)) | exact HS.out.kept (bl_alloc HBr.out) | exact HS.out.kept (bl_drew (bl_alloc HBr.out)) | exact HS.out.kept (bl_alloc (bl_drew HBr.out)) | exact HS.out.kept (bl_drew (bl_alloc (bl_drew HBr.out)))))).mono ?_; rintro e w8 ⟨rfl, hb⟩; have t0_w8 : w8.cell? ⟨w.heap.size, 0, none⟩ = some (.int .i64 x) := cl_kept hb (by with_reducible (repeat (first | assumption | refine dr_old ?_ | refine al_old ?_))); have t1_w8 : w8.cell? ⟨w.heap.size, 1, none⟩ = some (.int .i64 y) := cl_kept hb (by with_reducible (repeat (first | assumption | refine dr_old ?_ | refine al_old ?_))); have t2_w8 : w8.cell? ⟨w.heap.size, 2, none⟩ = some (.int .i64 k) := cl_kept hb (by with_reducible (repeat (first | assumption | refine dr_old ?_ | refine al_old ?_))); have m0_w8 : w8.cell? ⟨w1.heap.size, 0, none⟩ = some (.int .i64 (ue0 x y k)) := cl_kept hb (by with_reducible (repeat (first | assumption | refine dr_old ?_ | refine al_old ?_))); have m1_w8 : w8.cell? ⟨w1.heap.size, 1, none⟩ = some (.int .i64 (ue1 x y k)) := cl_kept hb (by with_reducible (repeat (first | assumption | refine dr_old ?_ | refine al_old ?_))); have m2_w8 : w8.cell? ⟨w1.heap.size, 2, none⟩ = some (.int .i64 (ue2 x y k)) := cl_kept hb (by with_reducible (repeat (first | assumption | refine dr_old ?_ | refine al_old ?_))); have m3_w8 : w8.cell? ⟨w1.heap.size, 3, none⟩ = some (.int .i64 (ue3 x y k)) := cl_kept hb (by with_reducible (repeat (first | assumption | refine dr_old ?_ | refine al_old ?_))); (first | (have hfz := fresh_a (g := wr.heap.size) rfl hb; obtain ⟨n0_w8, n1_w8, n2_w8, nf0_w8, nf1_w8, nf2_w8, nz_w8⟩ := hfz) | (have hfz := fresh_d (g := wr.heap.size) rfl hb; obtain ⟨n0_w8, n1_w8, n2_w8, nf0_w8, nf1_w8, nf2_w8, nz_w8⟩ := hfz) | (have hfz := fresh_dd (g := wr.heap.size) rfl hb; obtain ⟨n0_w8, n1_w8, n2_w8, nf0_w8, nf1_w8, nf2_w8, nz_w8⟩ := hfz) | skip); have hq : Below wr.heap.size wr w8 := (by with_reducible (first | exact hb | exact bl_undrew hb | exact bl_undrew (bl_undrew hb) | exact bl_via (bl_alloc (bl_refl _)) hb | exact bl_via (bl_drew (bl_alloc (bl_refl _))) hb | exact bl_via (bl_alloc (bl_drew (bl_refl _))) hb | exact bl_via (bl_drew (bl_alloc (bl_drew (bl_refl _)))) hb | exact bl_via (bl_alloc (bl_drew (bl_drew (bl_refl _)))) hb)); have zs0_w8 : w.heap.size < w8.heap.size := World.block_lt_of_cell? (w := w8) (a := ⟨w.heap.size, 0, none⟩) t0_w8; have zs1_w8 : w1.heap.size < w8.heap.size := World.block_lt_of_cell? (w := w8) (a := ⟨w1.heap.size, 0, none⟩) m0_w8; have HQ : Hid (Below wr.heap.size wr w8) := hq; clear hb hq))
        all_goals
          go_wp2
          go_meet
          case rel =>
            refine ⟨_, rfl, rfl, ?_, ?_⟩
            · first | (simp [Tr, go_sem]; done) | (simp [Tr, go_sem, *]; done)
            · with_reducible repeat' (first | exact HQ.out | refine bl_set ?_ ?_ | refine bl_alloc ?_ | refine bl_drew ?_)
              all_goals (first | omega | (dsimp only; omega) | (simp; done))
      case rest =>
        obtain ⟨g8, rfl, rfl, ⟨n0, n1, n2⟩, hBc⟩ := hcut
        have HC : Hid (Tr wc w.heap.size x y k ∧ Tr wc (w.heap.size + 1) X Y K ∧ Twl wc w1.heap.size (ue0 x y k) (ue1 x y k) (ue2 x y k) (ue3 x y k) (ue4 x y k) (ue5 x y k) (ue6 x y k) (ue7 x y k) (ue8 x y k) (ue9 x y k) (ue10 x y k) (ue11 x y k) ∧ Below w.heap.size w wc) := ⟨Tr.kept ⟨t0, t1, t2⟩ hBc, Tr.kept ⟨o0, o1, o2⟩ hBc, Twl.kept ⟨m0, m1, m2, m3, m4, m5, m6, m7, m8, m9, m10, m11⟩ hBc, bl_via HBr.out hBc⟩
        clear t0 t1 t2 o0 o1 o2 m0 m1 m2 m3 m4 m5 m6 m7 m8 m9 m10 m11 hBc
        obtain ⟨o0, o1, o2⟩ := HC.out.2.1
        cases hq : sameT (nbX 0 x k) (nbY 0 y k) (nbK 0 k) X Y K
        · have hlt : 0 < j := by
            by_cases e : 0 = j
            · subst e
              rw [HX.out.1, HX.out.2.1, HX.out.2.2] at hq
              simp [sameT] at hq
            · omega
          go_wp2
          go_roundg 2
          case measure => omega
          case rel => exact ⟨1, by omega, by omega, by omega, by go_num, HC.out⟩
        · go_wp2
          go_ret
          exact ⟨rfl, HC.out.2.2.2⟩
    · go_wp2
      go_cut [8, 9] (fun sa sb wx => ∃ g : Nat, sa = .pointer (some ⟨g, 0, none⟩) ∧ sb = .int .i64 0 ∧ Tr wx g (nbX 1 x k) (nbY 1 y k) (nbK 1 k) ∧ Below wr.heap.size wr wx)
      case first =>
        go_region_held3 (fun w' => w'.cell? ⟨w.heap.size, 0, none⟩ = some (.int .i64 x) ∧ w'.cell? ⟨w.heap.size, 1, none⟩ = some (.int .i64 y) ∧ w'.cell? ⟨w.heap.size, 2, none⟩ = some (.int .i64 k) ∧ w'.cell? ⟨w1.heap.size, 4, none⟩ = some (.int .i64 (ue4 x y k)) ∧ w'.cell? ⟨w1.heap.size, 5, none⟩ = some (.int .i64 (ue5 x y k)) ∧ w'.cell? ⟨w1.heap.size, 6, none⟩ = some (.int .i64 (ue6 x y k)) ∧ w'.cell? ⟨w1.heap.size, 7, none⟩ = some (.int .i64 (ue7 x y k)))
          ((refine ⟨?_, ?_, ?_, ?_, ?_, ?_, ?_⟩ <;> (repeat' (first | (with_reducible assumption) | (with_reducible refine st_old ?_ ?_) | (dsimp only; omega) | (simp [go_sem]; done) | (with_reducible refine al_old ?_) | (with_reducible refine dr_old ?_)))))
          ((go_at_call 10; refine (Across_nb_1 _ _ _ _ HT.out (by with_reducible (first | exact HS.out.kept HBr.out | exact HS.out.kept (bl_drew HBr.out) | exact HS.out.kept (bl_drew (bl_drew HBr.out)) | exact HS.out.kept (bl_alloc HBr.out) | exact HS.out.kept (bl_drew (bl_alloc HBr.out)) | exact HS.out.kept (bl_alloc (bl_drew HBr.out)) | exact HS.out.kept (bl_drew (bl_alloc (bl_drew HBr.out)))))).mono ?_; rintro e w8 ⟨rfl, hb⟩; have t0_w8 : w8.cell? ⟨w.heap.size, 0, none⟩ = some (.int .i64 x) := cl_kept hb (by with_reducible (repeat (first | assumption | refine dr_old ?_ | refine al_old ?_))); have t1_w8 : w8.cell? ⟨w.heap.size, 1, none⟩ = some (.int .i64 y) := cl_kept hb (by with_reducible (repeat (first | assumption | refine dr_old ?_ | refine al_old ?_))); have t2_w8 : w8.cell? ⟨w.heap.size, 2, none⟩ = some (.int .i64 k) := cl_kept hb (by with_reducible (repeat (first | assumption | refine dr_old ?_ | refine al_old ?_))); have m4_w8 : w8.cell? ⟨w1.heap.size, 4, none⟩ = some (.int .i64 (ue4 x y k)) := cl_kept hb (by with_reducible (repeat (first | assumption | refine dr_old ?_ | refine al_old ?_))); have m5_w8 : w8.cell? ⟨w1.heap.size, 5, none⟩ = some (.int .i64 (ue5 x y k)) := cl_kept hb (by with_reducible (repeat (first | assumption | refine dr_old ?_ | refine al_old ?_))); have m6_w8 : w8.cell? ⟨w1.heap.size, 6, none⟩ = some (.int .i64 (ue6 x y k)) := cl_kept hb (by with_reducible (repeat (first | assumption | refine dr_old ?_ | refine al_old ?_))); have m7_w8 : w8.cell? ⟨w1.heap.size, 7, none⟩ = some (.int .i64 (ue7 x y k)) := cl_kept hb (by with_reducible (repeat (first | assumption | refine dr_old ?_ | refine al_old ?_))); (first | (have hfz := fresh_a (g := wr.heap.size) rfl hb; obtain ⟨n0_w8, n1_w8, n2_w8, nf0_w8, nf1_w8, nf2_w8, nz_w8⟩ := hfz) | (have hfz := fresh_d (g := wr.heap.size) rfl hb; obtain ⟨n0_w8, n1_w8, n2_w8, nf0_w8, nf1_w8, nf2_w8, nz_w8⟩ := hfz) | (have hfz := fresh_dd (g := wr.heap.size) rfl hb; obtain ⟨n0_w8, n1_w8, n2_w8, nf0_w8, nf1_w8, nf2_w8, nz_w8⟩ := hfz) | skip); have hq : Below wr.heap.size wr w8 := (by with_reducible (first | exact hb | exact bl_undrew hb | exact bl_undrew (bl_undrew hb) | exact bl_via (bl_alloc (bl_refl _)) hb | exact bl_via (bl_drew (bl_alloc (bl_refl _))) hb | exact bl_via (bl_alloc (bl_drew (bl_refl _))) hb | exact bl_via (bl_drew (bl_alloc (bl_drew (bl_refl _)))) hb | exact bl_via (bl_alloc (bl_drew (bl_drew (bl_refl _)))) hb)); have zs0_w8 : w.heap.size < w8.heap.size := World.block_lt_of_cell? (w := w8) (a := ⟨w.heap.size, 0, none⟩) t0_w8; have zs1_w8 : w1.heap.size < w8.heap.size := World.block_lt_of_cell? (w := w8) (a := ⟨w1.heap.size, 4, none⟩) m4_w8; have HQ : Hid (Below wr.heap.size wr w8) := hq; clear hb hq))
        all_goals
          go_wp2
          go_meet
          case rel =>
            refine ⟨_, rfl, rfl, ?_, ?_⟩
            · first | (simp [Tr, go_sem]; done) | (simp [Tr, go_sem, *]; done)
            · with_reducible repeat' (first | exact HQ.out | refine bl_set ?_ ?_ | refine bl_alloc ?_ | refine bl_drew ?_)
              all_goals (first | omega | (dsimp only; omega) | (simp; done))
      case rest =>
        obtain ⟨g8, rfl, rfl, ⟨n0, n1, n2⟩, hBc⟩ := hcut
        have HC : Hid (Tr wc w.heap.size x y k ∧ Tr wc (w.heap.size + 1) X Y K ∧ Twl wc w1.heap.size (ue0 x y k) (ue1 x y k) (ue2 x y k) (ue3 x y k) (ue4 x y k) (ue5 x y k) (ue6 x y k) (ue7 x y k) (ue8 x y k) (ue9 x y k) (ue10 x y k) (ue11 x y k) ∧ Below w.heap.size w wc) := ⟨Tr.kept ⟨t0, t1, t2⟩ hBc, Tr.kept ⟨o0, o1, o2⟩ hBc, Twl.kept ⟨m0, m1, m2, m3, m4, m5, m6, m7, m8, m9, m10, m11⟩ hBc, bl_via HBr.out hBc⟩
        clear t0 t1 t2 o0 o1 o2 m0 m1 m2 m3 m4 m5 m6 m7 m8 m9 m10 m11 hBc
        obtain ⟨o0, o1, o2⟩ := HC.out.2.1
        cases hq : sameT (nbX 1 x k) (nbY 1 y k) (nbK 1 k) X Y K
        · have hlt : 1 < j := by
            by_cases e : 1 = j
            · subst e
              rw [HX.out.1, HX.out.2.1, HX.out.2.2] at hq
              simp [sameT] at hq
            · omega
          go_wp2
          go_roundg 1
          case measure => omega
          case rel => exact ⟨2, by omega, by omega, by omega, by go_num, HC.out⟩
        · go_wp2
          go_ret
          exact ⟨rfl, HC.out.2.2.2⟩
    · go_wp2
      go_cut [8, 9] (fun sa sb wx => ∃ g : Nat, sa = .pointer (some ⟨g, 0, none⟩) ∧ sb = .int .i64 0 ∧ Tr wx g (nbX 2 x k) (nbY 2 y k) (nbK 2 k) ∧ Below wr.heap.size wr wx)
      case first =>
        go_region_held3 (fun w' => w'.cell? ⟨w.heap.size, 0, none⟩ = some (.int .i64 x) ∧ w'.cell? ⟨w.heap.size, 1, none⟩ = some (.int .i64 y) ∧ w'.cell? ⟨w.heap.size, 2, none⟩ = some (.int .i64 k) ∧ w'.cell? ⟨w1.heap.size, 8, none⟩ = some (.int .i64 (ue8 x y k)) ∧ w'.cell? ⟨w1.heap.size, 9, none⟩ = some (.int .i64 (ue9 x y k)) ∧ w'.cell? ⟨w1.heap.size, 10, none⟩ = some (.int .i64 (ue10 x y k)) ∧ w'.cell? ⟨w1.heap.size, 11, none⟩ = some (.int .i64 (ue11 x y k)))
          ((refine ⟨?_, ?_, ?_, ?_, ?_, ?_, ?_⟩ <;> (repeat' (first | (with_reducible assumption) | (with_reducible refine st_old ?_ ?_) | (dsimp only; omega) | (simp [go_sem]; done) | (with_reducible refine al_old ?_) | (with_reducible refine dr_old ?_)))))
          ((go_at_call 10; refine (Across_nb_2 _ _ _ _ HT.out (by with_reducible (first | exact HS.out.kept HBr.out | exact HS.out.kept (bl_drew HBr.out) | exact HS.out.kept (bl_drew (bl_drew HBr.out)) | exact HS.out.kept (bl_alloc HBr.out) | exact HS.out.kept (bl_drew (bl_alloc HBr.out)) | exact HS.out.kept (bl_alloc (bl_drew HBr.out)) | exact HS.out.kept (bl_drew (bl_alloc (bl_drew HBr.out)))))).mono ?_; rintro e w8 ⟨rfl, hb⟩; have t0_w8 : w8.cell? ⟨w.heap.size, 0, none⟩ = some (.int .i64 x) := cl_kept hb (by with_reducible (repeat (first | assumption | refine dr_old ?_ | refine al_old ?_))); have t1_w8 : w8.cell? ⟨w.heap.size, 1, none⟩ = some (.int .i64 y) := cl_kept hb (by with_reducible (repeat (first | assumption | refine dr_old ?_ | refine al_old ?_))); have t2_w8 : w8.cell? ⟨w.heap.size, 2, none⟩ = some (.int .i64 k) := cl_kept hb (by with_reducible (repeat (first | assumption | refine dr_old ?_ | refine al_old ?_))); have m8_w8 : w8.cell? ⟨w1.heap.size, 8, none⟩ = some (.int .i64 (ue8 x y k)) := cl_kept hb (by with_reducible (repeat (first | assumption | refine dr_old ?_ | refine al_old ?_))); have m9_w8 : w8.cell? ⟨w1.heap.size, 9, none⟩ = some (.int .i64 (ue9 x y k)) := cl_kept hb (by with_reducible (repeat (first | assumption | refine dr_old ?_ | refine al_old ?_))); have m10_w8 : w8.cell? ⟨w1.heap.size, 10, none⟩ = some (.int .i64 (ue10 x y k)) := cl_kept hb (by with_reducible (repeat (first | assumption | refine dr_old ?_ | refine al_old ?_))); have m11_w8 : w8.cell? ⟨w1.heap.size, 11, none⟩ = some (.int .i64 (ue11 x y k)) := cl_kept hb (by with_reducible (repeat (first | assumption | refine dr_old ?_ | refine al_old ?_))); (first | (have hfz := fresh_a (g := wr.heap.size) rfl hb; obtain ⟨n0_w8, n1_w8, n2_w8, nf0_w8, nf1_w8, nf2_w8, nz_w8⟩ := hfz) | (have hfz := fresh_d (g := wr.heap.size) rfl hb; obtain ⟨n0_w8, n1_w8, n2_w8, nf0_w8, nf1_w8, nf2_w8, nz_w8⟩ := hfz) | (have hfz := fresh_dd (g := wr.heap.size) rfl hb; obtain ⟨n0_w8, n1_w8, n2_w8, nf0_w8, nf1_w8, nf2_w8, nz_w8⟩ := hfz) | skip); have hq : Below wr.heap.size wr w8 := (by with_reducible (first | exact hb | exact bl_undrew hb | exact bl_undrew (bl_undrew hb) | exact bl_via (bl_alloc (bl_refl _)) hb | exact bl_via (bl_drew (bl_alloc (bl_refl _))) hb | exact bl_via (bl_alloc (bl_drew (bl_refl _))) hb | exact bl_via (bl_drew (bl_alloc (bl_drew (bl_refl _)))) hb | exact bl_via (bl_alloc (bl_drew (bl_drew (bl_refl _)))) hb)); have zs0_w8 : w.heap.size < w8.heap.size := World.block_lt_of_cell? (w := w8) (a := ⟨w.heap.size, 0, none⟩) t0_w8; have zs1_w8 : w1.heap.size < w8.heap.size := World.block_lt_of_cell? (w := w8) (a := ⟨w1.heap.size, 8, none⟩) m8_w8; have HQ : Hid (Below wr.heap.size wr w8) := hq; clear hb hq))
        all_goals
          go_wp2
          go_meet
          case rel =>
            refine ⟨_, rfl, rfl, ?_, ?_⟩
            · first | (simp [Tr, go_sem]; done) | (simp [Tr, go_sem, *]; done)
            · with_reducible repeat' (first | exact HQ.out | refine bl_set ?_ ?_ | refine bl_alloc ?_ | refine bl_drew ?_)
              all_goals (first | omega | (dsimp only; omega) | (simp; done))
      case rest =>
        obtain ⟨g8, rfl, rfl, ⟨n0, n1, n2⟩, hBc⟩ := hcut
        have HC : Hid (Tr wc w.heap.size x y k ∧ Tr wc (w.heap.size + 1) X Y K ∧ Twl wc w1.heap.size (ue0 x y k) (ue1 x y k) (ue2 x y k) (ue3 x y k) (ue4 x y k) (ue5 x y k) (ue6 x y k) (ue7 x y k) (ue8 x y k) (ue9 x y k) (ue10 x y k) (ue11 x y k) ∧ Below w.heap.size w wc) := ⟨Tr.kept ⟨t0, t1, t2⟩ hBc, Tr.kept ⟨o0, o1, o2⟩ hBc, Twl.kept ⟨m0, m1, m2, m3, m4, m5, m6, m7, m8, m9, m10, m11⟩ hBc, bl_via HBr.out hBc⟩
        clear t0 t1 t2 o0 o1 o2 m0 m1 m2 m3 m4 m5 m6 m7 m8 m9 m10 m11 hBc
        obtain ⟨o0, o1, o2⟩ := HC.out.2.1
        cases hq : sameT (nbX 2 x k) (nbY 2 y k) (nbK 2 k) X Y K
        · have hlt : 2 < j := by
            by_cases e : 2 = j
            · subst e
              rw [HX.out.1, HX.out.2.1, HX.out.2.2] at hq
              simp [sameT] at hq
            · omega
          go_wp2
          go_roundg 0
          case measure => omega
          case rel => exact ⟨3, by omega, by omega, by omega, by go_num, HC.out⟩
        · go_wp2
          go_ret
          exact ⟨rfl, HC.out.2.2.2⟩

end Go.Proofs.YtfpfgfbkbpgolaaDoor
