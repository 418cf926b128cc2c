/- ref.MoveOf. -/
import Derived.Test.YtnpboeodhpenmaaGreatDoorQlaw
import Derived.Test.YtnpboeodhpenmaaGreatDoorQlao
namespace Go.Proofs.YtnpboeodhpenmaaGreatDoor
open Go.RowKit
attribute [local go_sem ↓] Go.wp_at_zero Go.wp_at_succ

/-- A map brings one point to another. -/
def GoodG (a b c d e f x y p q : Int) : Prop := (dot a b x y + e = p ∧ dot c d x y + f = q) ∧ (-4000000 ≤ x ∧ x ≤ 4000000) ∧ (-4000000 ≤ y ∧ y ≤ 4000000)

theorem pointOf_good (a b c d e f x y p q : Int) (w : World) (hs : Sm a b c d) (he : (-1000000 ≤ e ∧ e ≤ 1000000) ∧ (-1000000 ≤ f ∧ f ≤ 1000000)) (hg : GoodG a b c d e f x y p q) :
    Calls Tryz.prog 130 #[.agg #[.int .i64 a, .int .i64 b, .int .i64 c, .int .i64 d, .int .i64 e, .int .i64 f], .agg #[.int .i64 x, .int .i64 y]] w fun r w' => r = .returned (.agg #[.int .i64 p, .int .i64 q]) ∧ ∃ o1 o2 o3, w' = ((w.alloc o1).alloc o2).alloc o3 := by
  obtain ⟨⟨rfl, rfl⟩, ⟨h1, h2⟩, ⟨h3, h4⟩⟩ := hg
  exact pointOf_any a b c d e f x y w hs he.1 he.2 h1 h2 h3 h4

def Match (X Y K q1 q2 r1 r2 : Int) : Prop :=
  (K = 0 ∧ q1 = 2 * X ∧ q2 = 2 * Y ∧ r1 = 2 * X + 2 ∧ r2 = 2 * Y)
  ∨ (K = 0 ∧ q1 = 2 * X + 2 ∧ q2 = 2 * Y ∧ r1 = 2 * X ∧ r2 = 2 * Y)
  ∨ (K = 1 ∧ q1 = 2 * X + 2 ∧ q2 = 2 * Y ∧ r1 = 2 * X + 2 ∧ r2 = 2 * Y + 2)
  ∨ (K = 1 ∧ q1 = 2 * X + 2 ∧ q2 = 2 * Y + 2 ∧ r1 = 2 * X + 2 ∧ r2 = 2 * Y)
  ∨ (K = 2 ∧ q1 = 2 * X + 2 ∧ q2 = 2 * Y + 2 ∧ r1 = 2 * X ∧ r2 = 2 * Y + 2)
  ∨ (K = 2 ∧ q1 = 2 * X ∧ q2 = 2 * Y + 2 ∧ r1 = 2 * X + 2 ∧ r2 = 2 * Y + 2)
  ∨ (K = 3 ∧ q1 = 2 * X ∧ q2 = 2 * Y + 2 ∧ r1 = 2 * X ∧ r2 = 2 * Y)
  ∨ (K = 3 ∧ q1 = 2 * X ∧ q2 = 2 * Y ∧ r1 = 2 * X ∧ r2 = 2 * Y + 2)

/-- A new point's row: two noughts, which may be written. -/
def Zr (W : World) (h g : Nat) : Prop := (W.cell? ⟨g, 0, none⟩ = some (.int .i64 0) ∧ W.cell? ⟨g, 1, none⟩ = some (.int .i64 0)) ∧ (W.frozen? ⟨g, 0, none⟩ = false ∧ W.frozen? ⟨g, 1, none⟩ = false) ∧ h ≤ g
theorem Zr.lt {W : World} {h g : Nat} (z : Zr W h g) : g < W.heap.size := World.block_lt_of_cell? (w := W) (a := ⟨g, 0, none⟩) z.1.1
theorem Zr.ne {W : World} {h g : Nat} (z : Zr W h g) : g ≠ W.heap.size := Nat.ne_of_lt z.lt
theorem Zr.kept {W W' : World} {h g : Nat} (z : Zr W h g) (hb : Below W.heap.size W W') : Zr W' h g :=
  ⟨⟨cl_kept hb z.1.1, cl_kept hb z.1.2⟩, ⟨(hb.frozen (p := ⟨g, 0, none⟩) z.lt).trans z.2.1.1, (hb.frozen (p := ⟨g, 1, none⟩) z.lt).trans z.2.1.2⟩, z.2.2⟩
theorem Zr.new {W : World} {h : Nat} (hh : h ≤ W.heap.size) : Zr (W.alloc (.cells #[.int .i64 0, .int .i64 0] 40)) h W.heap.size :=
  ⟨⟨by simp [go_sem], by simp [go_sem]⟩, ⟨by simp [go_sem], by simp [go_sem]⟩, hh⟩
theorem st_have {P : Program} {md : Region.Mode} {ops : Array Oper} {Q : Exit → Act → World → Prop} {S : World → Prop} {fuel : Nat} {listed : Array Bool} {a : Act} {w : World} (F : Nat) (up : Array Bool → Array Bool) (ua : Nat → Nat → Nat → Act → Act) (I : Nat → Nat → Nat → World → Prop)
    (H : ∀ h6 h7 h8 W, I h6 h7 h8 W → wpAnyH P md ops Q S F (up listed) (ua h6 h7 h8 a) W)
    (k : (∀ h6 h7 h8 W, I h6 h7 h8 W → wpAnyH P md ops Q S F (up listed) (ua h6 h7 h8 a) W) → wpAnyH P md ops Q S fuel listed a w) : wpAnyH P md ops Q S fuel listed a w := k H
theorem st_use {P : Program} {md : Region.Mode} {ops : Array Oper} {Q : Exit → Act → World → Prop} {S : World → Prop} {F F' : Nat} {L L' : Array Bool} {A A' : Act} {W : World} (h : wpAnyH P md ops Q S F L A W) (hF : F = F') (hL : L = L') (hA : A = A') : wpAnyH P md ops Q S F' L' A' W := by
  subst hF hL hA; exact h
/-- Below a number of blocks nothing has turned: new blocks, and stores into them. -/
theorem bw_set {h : Nat} {w v : World} {p : Addr} {u : Value} (hb : Below h w v) (hp : h ≤ p.block) : Below h w (v.setCell p u) := hb.setCell hp _

set_option maxRecDepth 100000 in
set_option maxHeartbeats 40000000 in
theorem moveOf_any (a b c d e f x y k X Y K q1 q2 r1 r2 : Int) (w : World) (hs : Sm a b c d) (he : (-1000000 ≤ e ∧ e ≤ 1000000) ∧ (-1000000 ≤ f ∧ f ≤ 1000000)) (ht : triB x y k = true)
    (hp : GoodG a b c d e f (2 * x + 1) (2 * y + 1) (2 * X + 1) (2 * Y + 1)) (hq : GoodG a b c d e f (c1x x k) (c1y y k) q1 q2) (hr : GoodG a b c d e f (c2x x k) (c2y y k) r1 r2) (X1 : -4000000 ≤ X ∧ X ≤ 4000000) (Y1 : -4000000 ≤ Y ∧ Y ≤ 4000000) (hm : Match X Y K q1 q2 r1 r2) :
    Calls Tryz.prog 54 #[.agg #[.int .i64 a, .int .i64 b, .int .i64 c, .int .i64 d, .int .i64 e, .int .i64 f], .agg #[.int .i64 x, .int .i64 y, .int .i64 k]] w fun r w' =>
      r = .returned (.agg #[.int .i64 X, .int .i64 Y, .int .i64 K]) ∧ Below w.heap.size w w' := by
  have HS : Hid (Sm a b c d) := hs
  have HE : Hid ((-1000000 ≤ e ∧ e ≤ 1000000) ∧ (-1000000 ≤ f ∧ f ≤ 1000000)) := he
  clear hs he
  go_enter Tryz.func54, Tryz.ntmps54
  go_wp2_with (go_at_call 129; refine (cornersOf_any _ _ _ _ ht).mono ?_; rintro e w1 ⟨g, rfl, hg, ⟨g0, g1, g2, g3, g4, g5⟩, hb1⟩; have m0 : w1.cell? ⟨w.heap.size, 0, none⟩ = some (.int .i64 a) := cl_kept hb1 (by simp [go_sem]); have m1 : w1.cell? ⟨w.heap.size, 1, none⟩ = some (.int .i64 b) := cl_kept hb1 (by simp [go_sem]); have m2 : w1.cell? ⟨w.heap.size, 2, none⟩ = some (.int .i64 c) := cl_kept hb1 (by simp [go_sem]); have m3 : w1.cell? ⟨w.heap.size, 3, none⟩ = some (.int .i64 d) := cl_kept hb1 (by simp [go_sem]); have m4 : w1.cell? ⟨w.heap.size, 4, none⟩ = some (.int .i64 e) := cl_kept hb1 (by simp [go_sem]); have m5 : w1.cell? ⟨w.heap.size, 5, none⟩ = some (.int .i64 f) := cl_kept hb1 (by simp [go_sem]); have HB1 : Hid (Below w.heap.size w w1 ∧ Tr w1 (w.heap.size + 1 + 1) 0 0 0 ∧ Fr w1 (w.heap.size + 1 + 1)) := ⟨bl_via (bl_alloc (bl_alloc (bl_alloc (bl_refl _)))) hb1, ⟨cl_kept hb1 (by simp [go_sem]), cl_kept hb1 (by simp [go_sem]), cl_kept hb1 (by simp [go_sem])⟩, Fr.kept (by simp [Fr, go_sem]) (by simp) hb1⟩; clear hb1 hg ht)
  go_cut [6, 7, 8] (fun s6 s7 s8 wx => ∃ g6 g7 g8 : Nat, s6 = .pointer (some ⟨g6, 0, none⟩) ∧ s7 = .pointer (some ⟨g7, 0, none⟩) ∧ s8 = .pointer (some ⟨g8, 0, none⟩) ∧ Pt wx g6 (2 * X + 1) (2 * Y + 1) ∧ Pt wx g7 q1 q2 ∧ Pt wx g8 r1 r2 ∧ Below w.heap.size w wx ∧ Tr wx (w.heap.size + 1 + 1) 0 0 0 ∧ Fr wx (w.heap.size + 1 + 1))
  case first =>
    have HM : Hid (∀ w' : World, Below w1.heap.size w1 w' → w'.cell? ⟨w.heap.size, 0, none⟩ = some (.int .i64 a) ∧ w'.cell? ⟨w.heap.size, 1, none⟩ = some (.int .i64 b) ∧ w'.cell? ⟨w.heap.size, 2, none⟩ = some (.int .i64 c) ∧ w'.cell? ⟨w.heap.size, 3, none⟩ = some (.int .i64 d) ∧ w'.cell? ⟨w.heap.size, 4, none⟩ = some (.int .i64 e) ∧ w'.cell? ⟨w.heap.size, 5, none⟩ = some (.int .i64 f) ∧ w'.cell? ⟨g, 0, none⟩ = some (.int .i64 (2 * x + 1)) ∧ w'.cell? ⟨g, 1, none⟩ = some (.int .i64 (2 * y + 1)) ∧ w'.cell? ⟨g, 2, none⟩ = some (.int .i64 (c1x x k)) ∧ w'.cell? ⟨g, 3, none⟩ = some (.int .i64 (c1y y k)) ∧ w'.cell? ⟨g, 4, none⟩ = some (.int .i64 (c2x x k)) ∧ w'.cell? ⟨g, 5, none⟩ = some (.int .i64 (c2y y k))) := fun w' hb => ⟨cl_kept hb m0, cl_kept hb m1, cl_kept hb m2, cl_kept hb m3, cl_kept hb m4, cl_kept hb m5, cl_kept hb g0, cl_kept hb g1, cl_kept hb g2, cl_kept hb g3, cl_kept hb g4, cl_kept hb g5⟩
    refine wp_region_noPanic ?_
    refine wp_region_held_drew (S := fun w' => w'.cell? ⟨w.heap.size, 0, none⟩ = some (.int .i64 a) ∧ w'.cell? ⟨w.heap.size, 1, none⟩ = some (.int .i64 b) ∧ w'.cell? ⟨w.heap.size, 2, none⟩ = some (.int .i64 c) ∧ w'.cell? ⟨w.heap.size, 3, none⟩ = some (.int .i64 d) ∧ w'.cell? ⟨w.heap.size, 4, none⟩ = some (.int .i64 e) ∧ w'.cell? ⟨w.heap.size, 5, none⟩ = some (.int .i64 f) ∧ w'.cell? ⟨g, 0, none⟩ = some (.int .i64 (2 * x + 1)) ∧ w'.cell? ⟨g, 1, none⟩ = some (.int .i64 (2 * y + 1)) ∧ w'.cell? ⟨g, 2, none⟩ = some (.int .i64 (c1x x k)) ∧ w'.cell? ⟨g, 3, none⟩ = some (.int .i64 (c1y y k)) ∧ w'.cell? ⟨g, 4, none⟩ = some (.int .i64 (c2x x k)) ∧ w'.cell? ⟨g, 5, none⟩ = some (.int .i64 (c2y y k))) (by kernel_rfl) ?_ (fun hHeld => ?_)
    · exact ⟨m0, m1, m2, m3, m4, m5, g0, g1, g2, g3, g4, g5⟩
    refine wpAnyH_take (i := 0) (v := ?_) rfl (by kernel_rfl) (by kernel_rfl) (by kernel_rfl) (fun _ _ _ h => h) (Or.inl ⟨by rfl, ?_⟩) (by assumption) ?_
    rotate_left
    · intro w hSw; (try dsimp only at hSw); go_simp; (try with_reducible rfl)
    simp only [Act.put, List.setIfInBounds_toArray]
    refine wpAnyH_take (i := 1) (v := ?_) rfl (by kernel_rfl) (by kernel_rfl) (by kernel_rfl) (fun _ _ _ h => h) (Or.inl ⟨by rfl, ?_⟩) (by assumption) ?_
    rotate_left
    · intro w hSw; (try dsimp only at hSw); go_simp; (try with_reducible rfl)
    simp only [Act.put]
    refine wpAnyH_take (i := 2) (v := ?_) rfl (by kernel_rfl) (by kernel_rfl) (by kernel_rfl) (fun _ _ _ h => h) (Or.inl ⟨by rfl, ?_⟩) (by assumption) ?_
    rotate_left
    · intro w hSw; (try dsimp only at hSw); go_simp; (try with_reducible rfl)
    simp only [Act.put]
    refine wpAnyH_take (i := 3) (v := ?_) rfl (by kernel_rfl) (by kernel_rfl) (by kernel_rfl) (fun _ _ _ h => h) (Or.inl ⟨by rfl, ?_⟩) (by assumption) ?_
    rotate_left
    · intro w hSw; (try dsimp only at hSw); go_simp; (try with_reducible rfl)
    simp only [Act.put]
    refine wpAnyH_take (i := 5) (v := ?_) rfl (by kernel_rfl) (by kernel_rfl) (by kernel_rfl) (fun _ _ _ h => h) (Or.inl ⟨by rfl, ?_⟩) (by assumption) ?_
    rotate_left
    · intro w hSw; (try dsimp only at hSw); go_simp; (try with_reducible rfl)
    simp only [Act.put]
    refine wpAnyH_take (i := 6) (v := ?_) rfl (by kernel_rfl) (by kernel_rfl) (by kernel_rfl) (fun _ _ _ h => h) (Or.inl ⟨by rfl, ?_⟩) (by assumption) ?_
    rotate_left
    · intro w hSw; (try dsimp only at hSw); go_simp; (try with_reducible rfl)
    simp only [Act.put]
    refine wpAnyH_take (i := 7) (v := ?_) rfl (by kernel_rfl) (by kernel_rfl) (by kernel_rfl) (fun _ _ _ h => h) (Or.inl ⟨by rfl, ?_⟩) (by assumption) ?_
    rotate_left
    · intro w hSw; (try dsimp only at hSw); go_simp; (try with_reducible rfl)
    simp only [Act.put]
    refine wpAnyH_take (i := 8) (v := ?_) rfl (by kernel_rfl) (by kernel_rfl) (by kernel_rfl) (fun _ _ _ h => h) (Or.inl ⟨by rfl, ?_⟩) (by assumption) ?_
    rotate_left
    · intro w hSw; (try dsimp only at hSw); go_simp; (try with_reducible rfl)
    simp only [Act.put]
    refine wpAnyH_take (i := 10) (v := ?_) rfl (by kernel_rfl) (by kernel_rfl) (by kernel_rfl) (fun _ _ _ h => h) (Or.inl ⟨by rfl, ?_⟩) (by assumption) ?_
    rotate_left
    · intro w hSw; (try dsimp only at hSw); go_simp; (try with_reducible rfl)
    simp only [Act.put]
    refine wpAnyH_take (i := 11) (v := ?_) rfl (by kernel_rfl) (by kernel_rfl) (by kernel_rfl) (fun _ _ _ h => h) (Or.inl ⟨by rfl, ?_⟩) (by assumption) ?_
    rotate_left
    · intro w hSw; (try dsimp only at hSw); go_simp; (try with_reducible rfl)
    simp only [Act.put]
    refine wpAnyH_take (i := 12) (v := ?_) rfl (by kernel_rfl) (by kernel_rfl) (by kernel_rfl) (fun _ _ _ h => h) (Or.inl ⟨by rfl, ?_⟩) (by assumption) ?_
    rotate_left
    · intro w hSw; (try dsimp only at hSw); go_simp; (try with_reducible rfl)
    simp only [Act.put]
    refine wpAnyH_take (i := 13) (v := ?_) rfl (by kernel_rfl) (by kernel_rfl) (by kernel_rfl) (fun _ _ _ h => h) (Or.inl ⟨by rfl, ?_⟩) (by assumption) ?_
    rotate_left
    · intro w hSw; (try dsimp only at hSw); go_simp; (try with_reducible rfl)
    simp only [Act.put]
    clear hHeld
    have hB0 : Below w1.heap.size w1 w1.drew := bl_drew (bl_refl w1)
    refine st_have 3 (fun l => ((((((l.setIfInBounds 4 true).setIfInBounds 9 true).setIfInBounds 14 true).setIfInBounds 15 true).setIfInBounds 16 true).setIfInBounds 17 true)) (fun h6 h7 h8 s => ((((((s.put (some 20) (.agg #[.int .i64 (2 * X + 1), .int .i64 (2 * Y + 1)])).put (some 25) (.agg #[.int .i64 q1, .int .i64 q2])).put (some 30) (.agg #[.int .i64 r1, .int .i64 r2])).put (some 6) (.pointer (some ⟨h6, 0, none⟩))).put (some 7) (.pointer (some ⟨h7, 0, none⟩))).put (some 8) (.pointer (some ⟨h8, 0, none⟩)))) (fun h6 h7 h8 W => Below w1.heap.size w1 W ∧ Zr W w1.heap.size h6 ∧ Zr W w1.heap.size h7 ∧ Zr W w1.heap.size h8 ∧ h6 ≠ h7 ∧ h6 ≠ h8 ∧ h7 ≠ h8) ?_ (fun H3111 => ?_)
    · rintro h6 h7 h8 W ⟨hB, z0, z1, z2, n01, n02, n12⟩
      simp only [Act.put]
      obtain ⟨⟨zc00, zc01⟩, ⟨zf00, zf01⟩, zl0⟩ := z0
      obtain ⟨⟨zc10, zc11⟩, ⟨zf10, zf11⟩, zl1⟩ := z1
      obtain ⟨⟨zc20, zc21⟩, ⟨zf20, zf21⟩, zl2⟩ := z2
      have n10 := Ne.symm n01
      have n20 := Ne.symm n02
      have n21 := Ne.symm n12
      refine wpAnyH_ready (rs := [18]) (by kernel_rfl) (by simp) ?_
      refine AllReadyH.cons rfl (fun KK hKK => ?_) AllReadyH.nil
      go_simp
      refine hKK.out _ _ (HM.out _ (bw_set (bw_set hB zl0) zl0)) (fun _ => ?_)
      clear hKK KK
      (try simp only [Act.put, List.setIfInBounds_toArray, List.set_cons_zero, List.set_cons_succ])
      refine wpAnyH_ready (rs := [19]) (by kernel_rfl) (by simp) ?_
      refine AllReadyH.cons rfl (fun KK hKK => ?_) AllReadyH.nil
      go_simp
      refine hKK.out _ _ (HM.out _ (bw_set (bw_set (bw_set (bw_set hB zl0) zl0) zl1) zl1)) (fun _ => ?_)
      clear hKK KK
      (try simp only [Act.put, List.setIfInBounds_toArray, List.set_cons_zero, List.set_cons_succ])
      refine wpAnyH_ready (rs := [20]) (by kernel_rfl) (by simp) ?_
      refine AllReadyH.cons rfl (fun KK hKK => ?_) AllReadyH.nil
      go_simp
      refine hKK.out _ _ (HM.out _ (bw_set (bw_set (bw_set (bw_set (bw_set (bw_set hB zl0) zl0) zl1) zl1) zl2) zl2)) (fun _ => ?_)
      clear hKK KK
      (try simp only [Act.put, List.setIfInBounds_toArray, List.set_cons_zero, List.set_cons_succ])
      refine wpAnyH_done (by kernel_rfl) ?_ _
      refine NoPanic.normal ?_
      go_wp2
      go_meet
      case rel =>
        refine ⟨_, _, _, rfl, rfl, rfl, ?_, ?_, ?_, bl_via HB1.out.1 (bw_set (bw_set (bw_set (bw_set (bw_set (bw_set hB zl0) zl0) zl1) zl1) zl2) zl2), HB1.out.2.1.kept (bw_set (bw_set (bw_set (bw_set (bw_set (bw_set hB zl0) zl0) zl1) zl1) zl2) zl2), HB1.out.2.2.kept HB1.out.2.1.lt (bw_set (bw_set (bw_set (bw_set (bw_set (bw_set hB zl0) zl0) zl1) zl1) zl2) zl2)⟩
        · simp [Pt, go_sem, zc00, zc01]
        · simp [Pt, go_sem, zc10, zc11]
        · simp [Pt, go_sem, zc20, zc21]
    refine st_have 4 (fun l => (((((l.setIfInBounds 4 true).setIfInBounds 9 true).setIfInBounds 14 true).setIfInBounds 15 true).setIfInBounds 16 true)) (fun h6 h7 h8 s => (((((s.put (some 20) (.agg #[.int .i64 (2 * X + 1), .int .i64 (2 * Y + 1)])).put (some 25) (.agg #[.int .i64 q1, .int .i64 q2])).put (some 30) (.agg #[.int .i64 r1, .int .i64 r2])).put (some 6) (.pointer (some ⟨h6, 0, none⟩))).put (some 7) (.pointer (some ⟨h7, 0, none⟩)))) (fun h6 h7 h8 W => Below w1.heap.size w1 W ∧ Zr W w1.heap.size h6 ∧ Zr W w1.heap.size h7 ∧ h6 ≠ h7) ?_ (fun H3110 => ?_)
    · rintro h6 h7 h8 W ⟨hB, z0, z1, n01⟩
      simp only [Act.put]
      refine wpAnyH_ready (rs := [17]) (by kernel_rfl) (by simp) ?_
      refine AllReadyH.cons rfl (fun KK hKK => ?_) ?_
      · go_simp
        refine hKK.out _ _ (HM.out _ (bl_alloc hB)) (fun _ => ?_)
        exact st_use (H3111 _ _ _ _ ⟨(bl_alloc hB), (z0.kept (bl_alloc (bl_refl _))), (z1.kept (bl_alloc (bl_refl _))), (Zr.new hB.size), n01, z0.ne, z1.ne⟩) rfl (by kernel_rfl) (by kernel_rfl)
      exact AllReadyH.nil
    refine st_have 4 (fun l => (((((l.setIfInBounds 4 true).setIfInBounds 9 true).setIfInBounds 14 true).setIfInBounds 15 true).setIfInBounds 17 true)) (fun h6 h7 h8 s => (((((s.put (some 20) (.agg #[.int .i64 (2 * X + 1), .int .i64 (2 * Y + 1)])).put (some 25) (.agg #[.int .i64 q1, .int .i64 q2])).put (some 30) (.agg #[.int .i64 r1, .int .i64 r2])).put (some 6) (.pointer (some ⟨h6, 0, none⟩))).put (some 8) (.pointer (some ⟨h8, 0, none⟩)))) (fun h6 h7 h8 W => Below w1.heap.size w1 W ∧ Zr W w1.heap.size h6 ∧ Zr W w1.heap.size h8 ∧ h6 ≠ h8) ?_ (fun H3101 => ?_)
    · rintro h6 h7 h8 W ⟨hB, z0, z2, n02⟩
      simp only [Act.put]
      refine wpAnyH_ready (rs := [16]) (by kernel_rfl) (by simp) ?_
      refine AllReadyH.cons rfl (fun KK hKK => ?_) ?_
      · go_simp
        refine hKK.out _ _ (HM.out _ (bl_alloc hB)) (fun _ => ?_)
        exact st_use (H3111 _ _ _ _ ⟨(bl_alloc hB), (z0.kept (bl_alloc (bl_refl _))), (Zr.new hB.size), (z2.kept (bl_alloc (bl_refl _))), z0.ne, n02, (Ne.symm z2.ne)⟩) rfl (by kernel_rfl) (by kernel_rfl)
      exact AllReadyH.nil
    refine st_have 4 (fun l => (((((l.setIfInBounds 4 true).setIfInBounds 9 true).setIfInBounds 14 true).setIfInBounds 16 true).setIfInBounds 17 true)) (fun h6 h7 h8 s => (((((s.put (some 20) (.agg #[.int .i64 (2 * X + 1), .int .i64 (2 * Y + 1)])).put (some 25) (.agg #[.int .i64 q1, .int .i64 q2])).put (some 30) (.agg #[.int .i64 r1, .int .i64 r2])).put (some 7) (.pointer (some ⟨h7, 0, none⟩))).put (some 8) (.pointer (some ⟨h8, 0, none⟩)))) (fun h6 h7 h8 W => Below w1.heap.size w1 W ∧ Zr W w1.heap.size h7 ∧ Zr W w1.heap.size h8 ∧ h7 ≠ h8) ?_ (fun H3011 => ?_)
    · rintro h6 h7 h8 W ⟨hB, z1, z2, n12⟩
      simp only [Act.put]
      refine wpAnyH_ready (rs := [15]) (by kernel_rfl) (by simp) ?_
      refine AllReadyH.cons rfl (fun KK hKK => ?_) ?_
      · go_simp
        refine hKK.out _ _ (HM.out _ (bl_alloc hB)) (fun _ => ?_)
        exact st_use (H3111 _ _ _ _ ⟨(bl_alloc hB), (Zr.new hB.size), (z1.kept (bl_alloc (bl_refl _))), (z2.kept (bl_alloc (bl_refl _))), (Ne.symm z1.ne), (Ne.symm z2.ne), n12⟩) rfl (by kernel_rfl) (by kernel_rfl)
      exact AllReadyH.nil
    refine st_have 5 (fun l => ((((l.setIfInBounds 4 true).setIfInBounds 9 true).setIfInBounds 14 true).setIfInBounds 15 true)) (fun h6 h7 h8 s => ((((s.put (some 20) (.agg #[.int .i64 (2 * X + 1), .int .i64 (2 * Y + 1)])).put (some 25) (.agg #[.int .i64 q1, .int .i64 q2])).put (some 30) (.agg #[.int .i64 r1, .int .i64 r2])).put (some 6) (.pointer (some ⟨h6, 0, none⟩)))) (fun h6 h7 h8 W => Below w1.heap.size w1 W ∧ Zr W w1.heap.size h6) ?_ (fun H3100 => ?_)
    · rintro h6 h7 h8 W ⟨hB, z0⟩
      simp only [Act.put]
      refine wpAnyH_ready (rs := [16, 17]) (by kernel_rfl) (by simp) ?_
      refine AllReadyH.cons rfl (fun KK hKK => ?_) ?_
      · go_simp
        refine hKK.out _ _ (HM.out _ (bl_alloc hB)) (fun _ => ?_)
        exact st_use (H3110 _ _ 0 _ ⟨(bl_alloc hB), (z0.kept (bl_alloc (bl_refl _))), (Zr.new hB.size), z0.ne⟩) rfl (by kernel_rfl) (by kernel_rfl)
      refine AllReadyH.cons rfl (fun KK hKK => ?_) ?_
      · go_simp
        refine hKK.out _ _ (HM.out _ (bl_alloc hB)) (fun _ => ?_)
        exact st_use (H3101 _ 0 _ _ ⟨(bl_alloc hB), (z0.kept (bl_alloc (bl_refl _))), (Zr.new hB.size), z0.ne⟩) rfl (by kernel_rfl) (by kernel_rfl)
      exact AllReadyH.nil
    refine st_have 5 (fun l => ((((l.setIfInBounds 4 true).setIfInBounds 9 true).setIfInBounds 14 true).setIfInBounds 16 true)) (fun h6 h7 h8 s => ((((s.put (some 20) (.agg #[.int .i64 (2 * X + 1), .int .i64 (2 * Y + 1)])).put (some 25) (.agg #[.int .i64 q1, .int .i64 q2])).put (some 30) (.agg #[.int .i64 r1, .int .i64 r2])).put (some 7) (.pointer (some ⟨h7, 0, none⟩)))) (fun h6 h7 h8 W => Below w1.heap.size w1 W ∧ Zr W w1.heap.size h7) ?_ (fun H3010 => ?_)
    · rintro h6 h7 h8 W ⟨hB, z1⟩
      simp only [Act.put]
      refine wpAnyH_ready (rs := [15, 17]) (by kernel_rfl) (by simp) ?_
      refine AllReadyH.cons rfl (fun KK hKK => ?_) ?_
      · go_simp
        refine hKK.out _ _ (HM.out _ (bl_alloc hB)) (fun _ => ?_)
        exact st_use (H3110 _ _ 0 _ ⟨(bl_alloc hB), (Zr.new hB.size), (z1.kept (bl_alloc (bl_refl _))), (Ne.symm z1.ne)⟩) rfl (by kernel_rfl) (by kernel_rfl)
      refine AllReadyH.cons rfl (fun KK hKK => ?_) ?_
      · go_simp
        refine hKK.out _ _ (HM.out _ (bl_alloc hB)) (fun _ => ?_)
        exact st_use (H3011 0 _ _ _ ⟨(bl_alloc hB), (z1.kept (bl_alloc (bl_refl _))), (Zr.new hB.size), z1.ne⟩) rfl (by kernel_rfl) (by kernel_rfl)
      exact AllReadyH.nil
    refine st_have 5 (fun l => ((((l.setIfInBounds 4 true).setIfInBounds 9 true).setIfInBounds 14 true).setIfInBounds 17 true)) (fun h6 h7 h8 s => ((((s.put (some 20) (.agg #[.int .i64 (2 * X + 1), .int .i64 (2 * Y + 1)])).put (some 25) (.agg #[.int .i64 q1, .int .i64 q2])).put (some 30) (.agg #[.int .i64 r1, .int .i64 r2])).put (some 8) (.pointer (some ⟨h8, 0, none⟩)))) (fun h6 h7 h8 W => Below w1.heap.size w1 W ∧ Zr W w1.heap.size h8) ?_ (fun H3001 => ?_)
    · rintro h6 h7 h8 W ⟨hB, z2⟩
      simp only [Act.put]
      refine wpAnyH_ready (rs := [15, 16]) (by kernel_rfl) (by simp) ?_
      refine AllReadyH.cons rfl (fun KK hKK => ?_) ?_
      · go_simp
        refine hKK.out _ _ (HM.out _ (bl_alloc hB)) (fun _ => ?_)
        exact st_use (H3101 _ 0 _ _ ⟨(bl_alloc hB), (Zr.new hB.size), (z2.kept (bl_alloc (bl_refl _))), (Ne.symm z2.ne)⟩) rfl (by kernel_rfl) (by kernel_rfl)
      refine AllReadyH.cons rfl (fun KK hKK => ?_) ?_
      · go_simp
        refine hKK.out _ _ (HM.out _ (bl_alloc hB)) (fun _ => ?_)
        exact st_use (H3011 0 _ _ _ ⟨(bl_alloc hB), (Zr.new hB.size), (z2.kept (bl_alloc (bl_refl _))), (Ne.symm z2.ne)⟩) rfl (by kernel_rfl) (by kernel_rfl)
      exact AllReadyH.nil
    refine st_have 6 (fun l => (((l.setIfInBounds 4 true).setIfInBounds 9 true).setIfInBounds 14 true)) (fun h6 h7 h8 s => (((s.put (some 20) (.agg #[.int .i64 (2 * X + 1), .int .i64 (2 * Y + 1)])).put (some 25) (.agg #[.int .i64 q1, .int .i64 q2])).put (some 30) (.agg #[.int .i64 r1, .int .i64 r2]))) (fun h6 h7 h8 W => Below w1.heap.size w1 W) ?_ (fun H3000 => ?_)
    · rintro h6 h7 h8 W hB
      simp only [Act.put]
      refine wpAnyH_ready (rs := [15, 16, 17]) (by kernel_rfl) (by simp) ?_
      refine AllReadyH.cons rfl (fun KK hKK => ?_) ?_
      · go_simp
        refine hKK.out _ _ (HM.out _ (bl_alloc hB)) (fun _ => ?_)
        exact st_use (H3100 _ 0 0 _ ⟨(bl_alloc hB), (Zr.new hB.size)⟩) rfl (by kernel_rfl) (by kernel_rfl)
      refine AllReadyH.cons rfl (fun KK hKK => ?_) ?_
      · go_simp
        refine hKK.out _ _ (HM.out _ (bl_alloc hB)) (fun _ => ?_)
        exact st_use (H3010 0 _ 0 _ ⟨(bl_alloc hB), (Zr.new hB.size)⟩) rfl (by kernel_rfl) (by kernel_rfl)
      refine AllReadyH.cons rfl (fun KK hKK => ?_) ?_
      · go_simp
        refine hKK.out _ _ (HM.out _ (bl_alloc hB)) (fun _ => ?_)
        exact st_use (H3001 0 0 _ _ ⟨(bl_alloc hB), (Zr.new hB.size)⟩) rfl (by kernel_rfl) (by kernel_rfl)
      exact AllReadyH.nil
    refine st_have 4 (fun l => (((((l.setIfInBounds 4 true).setIfInBounds 9 true).setIfInBounds 15 true).setIfInBounds 16 true).setIfInBounds 17 true)) (fun h6 h7 h8 s => (((((s.put (some 20) (.agg #[.int .i64 (2 * X + 1), .int .i64 (2 * Y + 1)])).put (some 25) (.agg #[.int .i64 q1, .int .i64 q2])).put (some 6) (.pointer (some ⟨h6, 0, none⟩))).put (some 7) (.pointer (some ⟨h7, 0, none⟩))).put (some 8) (.pointer (some ⟨h8, 0, none⟩)))) (fun h6 h7 h8 W => Below w1.heap.size w1 W ∧ Zr W w1.heap.size h6 ∧ Zr W w1.heap.size h7 ∧ Zr W w1.heap.size h8 ∧ h6 ≠ h7 ∧ h6 ≠ h8 ∧ h7 ≠ h8) ?_ (fun H2111 => ?_)
    · rintro h6 h7 h8 W ⟨hB, z0, z1, z2, n01, n02, n12⟩
      simp only [Act.put]
      refine wpAnyH_ready (rs := [14]) (by kernel_rfl) (by simp) ?_
      refine AllReadyH.cons rfl (fun KK hKK => ?_) ?_
      · go_simp
        refine (pointOf_good _ _ _ _ _ _ _ _ _ _ _ HS.out HE.out (by with_reducible assumption)).mono ?_
        rintro r w2 ⟨rfl, o3, o4, o5, rfl⟩
        (try go_wp2_with fail)
        refine hKK.out _ _ (HM.out _ (bl_alloc (bl_alloc (bl_alloc hB)))) (fun _ => ?_)
        exact st_use (H3111 _ _ _ _ ⟨(bl_alloc (bl_alloc (bl_alloc hB))), (z0.kept (bl_alloc (bl_alloc (bl_alloc (bl_refl _))))), (z1.kept (bl_alloc (bl_alloc (bl_alloc (bl_refl _))))), (z2.kept (bl_alloc (bl_alloc (bl_alloc (bl_refl _))))), n01, n02, n12⟩) rfl (by kernel_rfl) (by kernel_rfl)
      exact AllReadyH.nil
    refine st_have 5 (fun l => ((((l.setIfInBounds 4 true).setIfInBounds 9 true).setIfInBounds 15 true).setIfInBounds 16 true)) (fun h6 h7 h8 s => ((((s.put (some 20) (.agg #[.int .i64 (2 * X + 1), .int .i64 (2 * Y + 1)])).put (some 25) (.agg #[.int .i64 q1, .int .i64 q2])).put (some 6) (.pointer (some ⟨h6, 0, none⟩))).put (some 7) (.pointer (some ⟨h7, 0, none⟩)))) (fun h6 h7 h8 W => Below w1.heap.size w1 W ∧ Zr W w1.heap.size h6 ∧ Zr W w1.heap.size h7 ∧ h6 ≠ h7) ?_ (fun H2110 => ?_)
    · rintro h6 h7 h8 W ⟨hB, z0, z1, n01⟩
      simp only [Act.put]
      refine wpAnyH_ready (rs := [14, 17]) (by kernel_rfl) (by simp) ?_
      refine AllReadyH.cons rfl (fun KK hKK => ?_) ?_
      · go_simp
        refine (pointOf_good _ _ _ _ _ _ _ _ _ _ _ HS.out HE.out (by with_reducible assumption)).mono ?_
        rintro r w2 ⟨rfl, o3, o4, o5, rfl⟩
        (try go_wp2_with fail)
        refine hKK.out _ _ (HM.out _ (bl_alloc (bl_alloc (bl_alloc hB)))) (fun _ => ?_)
        exact st_use (H3110 _ _ 0 _ ⟨(bl_alloc (bl_alloc (bl_alloc hB))), (z0.kept (bl_alloc (bl_alloc (bl_alloc (bl_refl _))))), (z1.kept (bl_alloc (bl_alloc (bl_alloc (bl_refl _))))), n01⟩) rfl (by kernel_rfl) (by kernel_rfl)
      refine AllReadyH.cons rfl (fun KK hKK => ?_) ?_
      · go_simp
        refine hKK.out _ _ (HM.out _ (bl_alloc hB)) (fun _ => ?_)
        exact st_use (H2111 _ _ _ _ ⟨(bl_alloc hB), (z0.kept (bl_alloc (bl_refl _))), (z1.kept (bl_alloc (bl_refl _))), (Zr.new hB.size), n01, z0.ne, z1.ne⟩) rfl (by kernel_rfl) (by kernel_rfl)
      exact AllReadyH.nil
    refine st_have 5 (fun l => ((((l.setIfInBounds 4 true).setIfInBounds 9 true).setIfInBounds 15 true).setIfInBounds 17 true)) (fun h6 h7 h8 s => ((((s.put (some 20) (.agg #[.int .i64 (2 * X + 1), .int .i64 (2 * Y + 1)])).put (some 25) (.agg #[.int .i64 q1, .int .i64 q2])).put (some 6) (.pointer (some ⟨h6, 0, none⟩))).put (some 8) (.pointer (some ⟨h8, 0, none⟩)))) (fun h6 h7 h8 W => Below w1.heap.size w1 W ∧ Zr W w1.heap.size h6 ∧ Zr W w1.heap.size h8 ∧ h6 ≠ h8) ?_ (fun H2101 => ?_)
    · rintro h6 h7 h8 W ⟨hB, z0, z2, n02⟩
      simp only [Act.put]
      refine wpAnyH_ready (rs := [14, 16]) (by kernel_rfl) (by simp) ?_
      refine AllReadyH.cons rfl (fun KK hKK => ?_) ?_
      · go_simp
        refine (pointOf_good _ _ _ _ _ _ _ _ _ _ _ HS.out HE.out (by with_reducible assumption)).mono ?_
        rintro r w2 ⟨rfl, o3, o4, o5, rfl⟩
        (try go_wp2_with fail)
        refine hKK.out _ _ (HM.out _ (bl_alloc (bl_alloc (bl_alloc hB)))) (fun _ => ?_)
        exact st_use (H3101 _ 0 _ _ ⟨(bl_alloc (bl_alloc (bl_alloc hB))), (z0.kept (bl_alloc (bl_alloc (bl_alloc (bl_refl _))))), (z2.kept (bl_alloc (bl_alloc (bl_alloc (bl_refl _))))), n02⟩) rfl (by kernel_rfl) (by kernel_rfl)
      refine AllReadyH.cons rfl (fun KK hKK => ?_) ?_
      · go_simp
        refine hKK.out _ _ (HM.out _ (bl_alloc hB)) (fun _ => ?_)
        exact st_use (H2111 _ _ _ _ ⟨(bl_alloc hB), (z0.kept (bl_alloc (bl_refl _))), (Zr.new hB.size), (z2.kept (bl_alloc (bl_refl _))), z0.ne, n02, (Ne.symm z2.ne)⟩) rfl (by kernel_rfl) (by kernel_rfl)
      exact AllReadyH.nil
    refine st_have 5 (fun l => ((((l.setIfInBounds 4 true).setIfInBounds 9 true).setIfInBounds 16 true).setIfInBounds 17 true)) (fun h6 h7 h8 s => ((((s.put (some 20) (.agg #[.int .i64 (2 * X + 1), .int .i64 (2 * Y + 1)])).put (some 25) (.agg #[.int .i64 q1, .int .i64 q2])).put (some 7) (.pointer (some ⟨h7, 0, none⟩))).put (some 8) (.pointer (some ⟨h8, 0, none⟩)))) (fun h6 h7 h8 W => Below w1.heap.size w1 W ∧ Zr W w1.heap.size h7 ∧ Zr W w1.heap.size h8 ∧ h7 ≠ h8) ?_ (fun H2011 => ?_)
    · rintro h6 h7 h8 W ⟨hB, z1, z2, n12⟩
      simp only [Act.put]
      refine wpAnyH_ready (rs := [14, 15]) (by kernel_rfl) (by simp) ?_
      refine AllReadyH.cons rfl (fun KK hKK => ?_) ?_
      · go_simp
        refine (pointOf_good _ _ _ _ _ _ _ _ _ _ _ HS.out HE.out (by with_reducible assumption)).mono ?_
        rintro r w2 ⟨rfl, o3, o4, o5, rfl⟩
        (try go_wp2_with fail)
        refine hKK.out _ _ (HM.out _ (bl_alloc (bl_alloc (bl_alloc hB)))) (fun _ => ?_)
        exact st_use (H3011 0 _ _ _ ⟨(bl_alloc (bl_alloc (bl_alloc hB))), (z1.kept (bl_alloc (bl_alloc (bl_alloc (bl_refl _))))), (z2.kept (bl_alloc (bl_alloc (bl_alloc (bl_refl _))))), n12⟩) rfl (by kernel_rfl) (by kernel_rfl)
      refine AllReadyH.cons rfl (fun KK hKK => ?_) ?_
      · go_simp
        refine hKK.out _ _ (HM.out _ (bl_alloc hB)) (fun _ => ?_)
        exact st_use (H2111 _ _ _ _ ⟨(bl_alloc hB), (Zr.new hB.size), (z1.kept (bl_alloc (bl_refl _))), (z2.kept (bl_alloc (bl_refl _))), (Ne.symm z1.ne), (Ne.symm z2.ne), n12⟩) rfl (by kernel_rfl) (by kernel_rfl)
      exact AllReadyH.nil
    refine st_have 6 (fun l => (((l.setIfInBounds 4 true).setIfInBounds 9 true).setIfInBounds 15 true)) (fun h6 h7 h8 s => (((s.put (some 20) (.agg #[.int .i64 (2 * X + 1), .int .i64 (2 * Y + 1)])).put (some 25) (.agg #[.int .i64 q1, .int .i64 q2])).put (some 6) (.pointer (some ⟨h6, 0, none⟩)))) (fun h6 h7 h8 W => Below w1.heap.size w1 W ∧ Zr W w1.heap.size h6) ?_ (fun H2100 => ?_)
    · rintro h6 h7 h8 W ⟨hB, z0⟩
      simp only [Act.put]
      refine wpAnyH_ready (rs := [14, 16, 17]) (by kernel_rfl) (by simp) ?_
      refine AllReadyH.cons rfl (fun KK hKK => ?_) ?_
      · go_simp
        refine (pointOf_good _ _ _ _ _ _ _ _ _ _ _ HS.out HE.out (by with_reducible assumption)).mono ?_
        rintro r w2 ⟨rfl, o3, o4, o5, rfl⟩
        (try go_wp2_with fail)
        refine hKK.out _ _ (HM.out _ (bl_alloc (bl_alloc (bl_alloc hB)))) (fun _ => ?_)
        exact st_use (H3100 _ 0 0 _ ⟨(bl_alloc (bl_alloc (bl_alloc hB))), (z0.kept (bl_alloc (bl_alloc (bl_alloc (bl_refl _)))))⟩) rfl (by kernel_rfl) (by kernel_rfl)
      refine AllReadyH.cons rfl (fun KK hKK => ?_) ?_
      · go_simp
        refine hKK.out _ _ (HM.out _ (bl_alloc hB)) (fun _ => ?_)
        exact st_use (H2110 _ _ 0 _ ⟨(bl_alloc hB), (z0.kept (bl_alloc (bl_refl _))), (Zr.new hB.size), z0.ne⟩) rfl (by kernel_rfl) (by kernel_rfl)
      refine AllReadyH.cons rfl (fun KK hKK => ?_) ?_
      · go_simp
        refine hKK.out _ _ (HM.out _ (bl_alloc hB)) (fun _ => ?_)
        exact st_use (H2101 _ 0 _ _ ⟨(bl_alloc hB), (z0.kept (bl_alloc (bl_refl _))), (Zr.new hB.size), z0.ne⟩) rfl (by kernel_rfl) (by kernel_rfl)
      exact AllReadyH.nil
    refine st_have 6 (fun l => (((l.setIfInBounds 4 true).setIfInBounds 9 true).setIfInBounds 16 true)) (fun h6 h7 h8 s => (((s.put (some 20) (.agg #[.int .i64 (2 * X + 1), .int .i64 (2 * Y + 1)])).put (some 25) (.agg #[.int .i64 q1, .int .i64 q2])).put (some 7) (.pointer (some ⟨h7, 0, none⟩)))) (fun h6 h7 h8 W => Below w1.heap.size w1 W ∧ Zr W w1.heap.size h7) ?_ (fun H2010 => ?_)
    · rintro h6 h7 h8 W ⟨hB, z1⟩
      simp only [Act.put]
      refine wpAnyH_ready (rs := [14, 15, 17]) (by kernel_rfl) (by simp) ?_
      refine AllReadyH.cons rfl (fun KK hKK => ?_) ?_
      · go_simp
        refine (pointOf_good _ _ _ _ _ _ _ _ _ _ _ HS.out HE.out (by with_reducible assumption)).mono ?_
        rintro r w2 ⟨rfl, o3, o4, o5, rfl⟩
        (try go_wp2_with fail)
        refine hKK.out _ _ (HM.out _ (bl_alloc (bl_alloc (bl_alloc hB)))) (fun _ => ?_)
        exact st_use (H3010 0 _ 0 _ ⟨(bl_alloc (bl_alloc (bl_alloc hB))), (z1.kept (bl_alloc (bl_alloc (bl_alloc (bl_refl _)))))⟩) rfl (by kernel_rfl) (by kernel_rfl)
      refine AllReadyH.cons rfl (fun KK hKK => ?_) ?_
      · go_simp
        refine hKK.out _ _ (HM.out _ (bl_alloc hB)) (fun _ => ?_)
        exact st_use (H2110 _ _ 0 _ ⟨(bl_alloc hB), (Zr.new hB.size), (z1.kept (bl_alloc (bl_refl _))), (Ne.symm z1.ne)⟩) rfl (by kernel_rfl) (by kernel_rfl)
      refine AllReadyH.cons rfl (fun KK hKK => ?_) ?_
      · go_simp
        refine hKK.out _ _ (HM.out _ (bl_alloc hB)) (fun _ => ?_)
        exact st_use (H2011 0 _ _ _ ⟨(bl_alloc hB), (z1.kept (bl_alloc (bl_refl _))), (Zr.new hB.size), z1.ne⟩) rfl (by kernel_rfl) (by kernel_rfl)
      exact AllReadyH.nil
    refine st_have 6 (fun l => (((l.setIfInBounds 4 true).setIfInBounds 9 true).setIfInBounds 17 true)) (fun h6 h7 h8 s => (((s.put (some 20) (.agg #[.int .i64 (2 * X + 1), .int .i64 (2 * Y + 1)])).put (some 25) (.agg #[.int .i64 q1, .int .i64 q2])).put (some 8) (.pointer (some ⟨h8, 0, none⟩)))) (fun h6 h7 h8 W => Below w1.heap.size w1 W ∧ Zr W w1.heap.size h8) ?_ (fun H2001 => ?_)
    · rintro h6 h7 h8 W ⟨hB, z2⟩
      simp only [Act.put]
      refine wpAnyH_ready (rs := [14, 15, 16]) (by kernel_rfl) (by simp) ?_
      refine AllReadyH.cons rfl (fun KK hKK => ?_) ?_
      · go_simp
        refine (pointOf_good _ _ _ _ _ _ _ _ _ _ _ HS.out HE.out (by with_reducible assumption)).mono ?_
        rintro r w2 ⟨rfl, o3, o4, o5, rfl⟩
        (try go_wp2_with fail)
        refine hKK.out _ _ (HM.out _ (bl_alloc (bl_alloc (bl_alloc hB)))) (fun _ => ?_)
        exact st_use (H3001 0 0 _ _ ⟨(bl_alloc (bl_alloc (bl_alloc hB))), (z2.kept (bl_alloc (bl_alloc (bl_alloc (bl_refl _)))))⟩) rfl (by kernel_rfl) (by kernel_rfl)
      refine AllReadyH.cons rfl (fun KK hKK => ?_) ?_
      · go_simp
        refine hKK.out _ _ (HM.out _ (bl_alloc hB)) (fun _ => ?_)
        exact st_use (H2101 _ 0 _ _ ⟨(bl_alloc hB), (Zr.new hB.size), (z2.kept (bl_alloc (bl_refl _))), (Ne.symm z2.ne)⟩) rfl (by kernel_rfl) (by kernel_rfl)
      refine AllReadyH.cons rfl (fun KK hKK => ?_) ?_
      · go_simp
        refine hKK.out _ _ (HM.out _ (bl_alloc hB)) (fun _ => ?_)
        exact st_use (H2011 0 _ _ _ ⟨(bl_alloc hB), (Zr.new hB.size), (z2.kept (bl_alloc (bl_refl _))), (Ne.symm z2.ne)⟩) rfl (by kernel_rfl) (by kernel_rfl)
      exact AllReadyH.nil
    refine st_have 7 (fun l => ((l.setIfInBounds 4 true).setIfInBounds 9 true)) (fun h6 h7 h8 s => ((s.put (some 20) (.agg #[.int .i64 (2 * X + 1), .int .i64 (2 * Y + 1)])).put (some 25) (.agg #[.int .i64 q1, .int .i64 q2]))) (fun h6 h7 h8 W => Below w1.heap.size w1 W) ?_ (fun H2000 => ?_)
    · rintro h6 h7 h8 W hB
      simp only [Act.put]
      refine wpAnyH_ready (rs := [14, 15, 16, 17]) (by kernel_rfl) (by simp) ?_
      refine AllReadyH.cons rfl (fun KK hKK => ?_) ?_
      · go_simp
        refine (pointOf_good _ _ _ _ _ _ _ _ _ _ _ HS.out HE.out (by with_reducible assumption)).mono ?_
        rintro r w2 ⟨rfl, o3, o4, o5, rfl⟩
        (try go_wp2_with fail)
        refine hKK.out _ _ (HM.out _ (bl_alloc (bl_alloc (bl_alloc hB)))) (fun _ => ?_)
        exact st_use (H3000 0 0 0 _ (bl_alloc (bl_alloc (bl_alloc hB)))) rfl (by kernel_rfl) (by kernel_rfl)
      refine AllReadyH.cons rfl (fun KK hKK => ?_) ?_
      · go_simp
        refine hKK.out _ _ (HM.out _ (bl_alloc hB)) (fun _ => ?_)
        exact st_use (H2100 _ 0 0 _ ⟨(bl_alloc hB), (Zr.new hB.size)⟩) rfl (by kernel_rfl) (by kernel_rfl)
      refine AllReadyH.cons rfl (fun KK hKK => ?_) ?_
      · go_simp
        refine hKK.out _ _ (HM.out _ (bl_alloc hB)) (fun _ => ?_)
        exact st_use (H2010 0 _ 0 _ ⟨(bl_alloc hB), (Zr.new hB.size)⟩) rfl (by kernel_rfl) (by kernel_rfl)
      refine AllReadyH.cons rfl (fun KK hKK => ?_) ?_
      · go_simp
        refine hKK.out _ _ (HM.out _ (bl_alloc hB)) (fun _ => ?_)
        exact st_use (H2001 0 0 _ _ ⟨(bl_alloc hB), (Zr.new hB.size)⟩) rfl (by kernel_rfl) (by kernel_rfl)
      exact AllReadyH.nil
    refine st_have 5 (fun l => ((((l.setIfInBounds 4 true).setIfInBounds 15 true).setIfInBounds 16 true).setIfInBounds 17 true)) (fun h6 h7 h8 s => ((((s.put (some 20) (.agg #[.int .i64 (2 * X + 1), .int .i64 (2 * Y + 1)])).put (some 6) (.pointer (some ⟨h6, 0, none⟩))).put (some 7) (.pointer (some ⟨h7, 0, none⟩))).put (some 8) (.pointer (some ⟨h8, 0, none⟩)))) (fun h6 h7 h8 W => Below w1.heap.size w1 W ∧ Zr W w1.heap.size h6 ∧ Zr W w1.heap.size h7 ∧ Zr W w1.heap.size h8 ∧ h6 ≠ h7 ∧ h6 ≠ h8 ∧ h7 ≠ h8) ?_ (fun H1111 => ?_)
    · rintro h6 h7 h8 W ⟨hB, z0, z1, z2, n01, n02, n12⟩
      simp only [Act.put]
      refine wpAnyH_ready (rs := [9]) (by kernel_rfl) (by simp) ?_
      refine AllReadyH.cons rfl (fun KK hKK => ?_) ?_
      · go_simp
        refine (pointOf_good _ _ _ _ _ _ _ _ _ _ _ HS.out HE.out (by with_reducible assumption)).mono ?_
        rintro r w2 ⟨rfl, o3, o4, o5, rfl⟩
        (try go_wp2_with fail)
        refine hKK.out _ _ (HM.out _ (bl_alloc (bl_alloc (bl_alloc hB)))) (fun _ => ?_)
        exact st_use (H2111 _ _ _ _ ⟨(bl_alloc (bl_alloc (bl_alloc hB))), (z0.kept (bl_alloc (bl_alloc (bl_alloc (bl_refl _))))), (z1.kept (bl_alloc (bl_alloc (bl_alloc (bl_refl _))))), (z2.kept (bl_alloc (bl_alloc (bl_alloc (bl_refl _))))), n01, n02, n12⟩) rfl (by kernel_rfl) (by kernel_rfl)
      exact AllReadyH.nil
    refine st_have 6 (fun l => (((l.setIfInBounds 4 true).setIfInBounds 15 true).setIfInBounds 16 true)) (fun h6 h7 h8 s => (((s.put (some 20) (.agg #[.int .i64 (2 * X + 1), .int .i64 (2 * Y + 1)])).put (some 6) (.pointer (some ⟨h6, 0, none⟩))).put (some 7) (.pointer (some ⟨h7, 0, none⟩)))) (fun h6 h7 h8 W => Below w1.heap.size w1 W ∧ Zr W w1.heap.size h6 ∧ Zr W w1.heap.size h7 ∧ h6 ≠ h7) ?_ (fun H1110 => ?_)
    · rintro h6 h7 h8 W ⟨hB, z0, z1, n01⟩
      simp only [Act.put]
      refine wpAnyH_ready (rs := [9, 17]) (by kernel_rfl) (by simp) ?_
      refine AllReadyH.cons rfl (fun KK hKK => ?_) ?_
      · go_simp
        refine (pointOf_good _ _ _ _ _ _ _ _ _ _ _ HS.out HE.out (by with_reducible assumption)).mono ?_
        rintro r w2 ⟨rfl, o3, o4, o5, rfl⟩
        (try go_wp2_with fail)
        refine hKK.out _ _ (HM.out _ (bl_alloc (bl_alloc (bl_alloc hB)))) (fun _ => ?_)
        exact st_use (H2110 _ _ 0 _ ⟨(bl_alloc (bl_alloc (bl_alloc hB))), (z0.kept (bl_alloc (bl_alloc (bl_alloc (bl_refl _))))), (z1.kept (bl_alloc (bl_alloc (bl_alloc (bl_refl _))))), n01⟩) rfl (by kernel_rfl) (by kernel_rfl)
      refine AllReadyH.cons rfl (fun KK hKK => ?_) ?_
      · go_simp
        refine hKK.out _ _ (HM.out _ (bl_alloc hB)) (fun _ => ?_)
        exact st_use (H1111 _ _ _ _ ⟨(bl_alloc hB), (z0.kept (bl_alloc (bl_refl _))), (z1.kept (bl_alloc (bl_refl _))), (Zr.new hB.size), n01, z0.ne, z1.ne⟩) rfl (by kernel_rfl) (by kernel_rfl)
      exact AllReadyH.nil
    refine st_have 6 (fun l => (((l.setIfInBounds 4 true).setIfInBounds 15 true).setIfInBounds 17 true)) (fun h6 h7 h8 s => (((s.put (some 20) (.agg #[.int .i64 (2 * X + 1), .int .i64 (2 * Y + 1)])).put (some 6) (.pointer (some ⟨h6, 0, none⟩))).put (some 8) (.pointer (some ⟨h8, 0, none⟩)))) (fun h6 h7 h8 W => Below w1.heap.size w1 W ∧ Zr W w1.heap.size h6 ∧ Zr W w1.heap.size h8 ∧ h6 ≠ h8) ?_ (fun H1101 => ?_)
    · rintro h6 h7 h8 W ⟨hB, z0, z2, n02⟩
      simp only [Act.put]
      refine wpAnyH_ready (rs := [9, 16]) (by kernel_rfl) (by simp) ?_
      refine AllReadyH.cons rfl (fun KK hKK => ?_) ?_
      · go_simp
        refine (pointOf_good _ _ _ _ _ _ _ _ _ _ _ HS.out HE.out (by with_reducible assumption)).mono ?_
        rintro r w2 ⟨rfl, o3, o4, o5, rfl⟩
        (try go_wp2_with fail)
        refine hKK.out _ _ (HM.out _ (bl_alloc (bl_alloc (bl_alloc hB)))) (fun _ => ?_)
        exact st_use (H2101 _ 0 _ _ ⟨(bl_alloc (bl_alloc (bl_alloc hB))), (z0.kept (bl_alloc (bl_alloc (bl_alloc (bl_refl _))))), (z2.kept (bl_alloc (bl_alloc (bl_alloc (bl_refl _))))), n02⟩) rfl (by kernel_rfl) (by kernel_rfl)
      refine AllReadyH.cons rfl (fun KK hKK => ?_) ?_
      · go_simp
        refine hKK.out _ _ (HM.out _ (bl_alloc hB)) (fun _ => ?_)
        exact st_use (H1111 _ _ _ _ ⟨(bl_alloc hB), (z0.kept (bl_alloc (bl_refl _))), (Zr.new hB.size), (z2.kept (bl_alloc (bl_refl _))), z0.ne, n02, (Ne.symm z2.ne)⟩) rfl (by kernel_rfl) (by kernel_rfl)
      exact AllReadyH.nil
    refine st_have 6 (fun l => (((l.setIfInBounds 4 true).setIfInBounds 16 true).setIfInBounds 17 true)) (fun h6 h7 h8 s => (((s.put (some 20) (.agg #[.int .i64 (2 * X + 1), .int .i64 (2 * Y + 1)])).put (some 7) (.pointer (some ⟨h7, 0, none⟩))).put (some 8) (.pointer (some ⟨h8, 0, none⟩)))) (fun h6 h7 h8 W => Below w1.heap.size w1 W ∧ Zr W w1.heap.size h7 ∧ Zr W w1.heap.size h8 ∧ h7 ≠ h8) ?_ (fun H1011 => ?_)
    · rintro h6 h7 h8 W ⟨hB, z1, z2, n12⟩
      simp only [Act.put]
      refine wpAnyH_ready (rs := [9, 15]) (by kernel_rfl) (by simp) ?_
      refine AllReadyH.cons rfl (fun KK hKK => ?_) ?_
      · go_simp
        refine (pointOf_good _ _ _ _ _ _ _ _ _ _ _ HS.out HE.out (by with_reducible assumption)).mono ?_
        rintro r w2 ⟨rfl, o3, o4, o5, rfl⟩
        (try go_wp2_with fail)
        refine hKK.out _ _ (HM.out _ (bl_alloc (bl_alloc (bl_alloc hB)))) (fun _ => ?_)
        exact st_use (H2011 0 _ _ _ ⟨(bl_alloc (bl_alloc (bl_alloc hB))), (z1.kept (bl_alloc (bl_alloc (bl_alloc (bl_refl _))))), (z2.kept (bl_alloc (bl_alloc (bl_alloc (bl_refl _))))), n12⟩) rfl (by kernel_rfl) (by kernel_rfl)
      refine AllReadyH.cons rfl (fun KK hKK => ?_) ?_
      · go_simp
        refine hKK.out _ _ (HM.out _ (bl_alloc hB)) (fun _ => ?_)
        exact st_use (H1111 _ _ _ _ ⟨(bl_alloc hB), (Zr.new hB.size), (z1.kept (bl_alloc (bl_refl _))), (z2.kept (bl_alloc (bl_refl _))), (Ne.symm z1.ne), (Ne.symm z2.ne), n12⟩) rfl (by kernel_rfl) (by kernel_rfl)
      exact AllReadyH.nil
    refine st_have 7 (fun l => ((l.setIfInBounds 4 true).setIfInBounds 15 true)) (fun h6 h7 h8 s => ((s.put (some 20) (.agg #[.int .i64 (2 * X + 1), .int .i64 (2 * Y + 1)])).put (some 6) (.pointer (some ⟨h6, 0, none⟩)))) (fun h6 h7 h8 W => Below w1.heap.size w1 W ∧ Zr W w1.heap.size h6) ?_ (fun H1100 => ?_)
    · rintro h6 h7 h8 W ⟨hB, z0⟩
      simp only [Act.put]
      refine wpAnyH_ready (rs := [9, 16, 17]) (by kernel_rfl) (by simp) ?_
      refine AllReadyH.cons rfl (fun KK hKK => ?_) ?_
      · go_simp
        refine (pointOf_good _ _ _ _ _ _ _ _ _ _ _ HS.out HE.out (by with_reducible assumption)).mono ?_
        rintro r w2 ⟨rfl, o3, o4, o5, rfl⟩
        (try go_wp2_with fail)
        refine hKK.out _ _ (HM.out _ (bl_alloc (bl_alloc (bl_alloc hB)))) (fun _ => ?_)
        exact st_use (H2100 _ 0 0 _ ⟨(bl_alloc (bl_alloc (bl_alloc hB))), (z0.kept (bl_alloc (bl_alloc (bl_alloc (bl_refl _)))))⟩) rfl (by kernel_rfl) (by kernel_rfl)
      refine AllReadyH.cons rfl (fun KK hKK => ?_) ?_
      · go_simp
        refine hKK.out _ _ (HM.out _ (bl_alloc hB)) (fun _ => ?_)
        exact st_use (H1110 _ _ 0 _ ⟨(bl_alloc hB), (z0.kept (bl_alloc (bl_refl _))), (Zr.new hB.size), z0.ne⟩) rfl (by kernel_rfl) (by kernel_rfl)
      refine AllReadyH.cons rfl (fun KK hKK => ?_) ?_
      · go_simp
        refine hKK.out _ _ (HM.out _ (bl_alloc hB)) (fun _ => ?_)
        exact st_use (H1101 _ 0 _ _ ⟨(bl_alloc hB), (z0.kept (bl_alloc (bl_refl _))), (Zr.new hB.size), z0.ne⟩) rfl (by kernel_rfl) (by kernel_rfl)
      exact AllReadyH.nil
    refine st_have 7 (fun l => ((l.setIfInBounds 4 true).setIfInBounds 16 true)) (fun h6 h7 h8 s => ((s.put (some 20) (.agg #[.int .i64 (2 * X + 1), .int .i64 (2 * Y + 1)])).put (some 7) (.pointer (some ⟨h7, 0, none⟩)))) (fun h6 h7 h8 W => Below w1.heap.size w1 W ∧ Zr W w1.heap.size h7) ?_ (fun H1010 => ?_)
    · rintro h6 h7 h8 W ⟨hB, z1⟩
      simp only [Act.put]
      refine wpAnyH_ready (rs := [9, 15, 17]) (by kernel_rfl) (by simp) ?_
      refine AllReadyH.cons rfl (fun KK hKK => ?_) ?_
      · go_simp
        refine (pointOf_good _ _ _ _ _ _ _ _ _ _ _ HS.out HE.out (by with_reducible assumption)).mono ?_
        rintro r w2 ⟨rfl, o3, o4, o5, rfl⟩
        (try go_wp2_with fail)
        refine hKK.out _ _ (HM.out _ (bl_alloc (bl_alloc (bl_alloc hB)))) (fun _ => ?_)
        exact st_use (H2010 0 _ 0 _ ⟨(bl_alloc (bl_alloc (bl_alloc hB))), (z1.kept (bl_alloc (bl_alloc (bl_alloc (bl_refl _)))))⟩) rfl (by kernel_rfl) (by kernel_rfl)
      refine AllReadyH.cons rfl (fun KK hKK => ?_) ?_
      · go_simp
        refine hKK.out _ _ (HM.out _ (bl_alloc hB)) (fun _ => ?_)
        exact st_use (H1110 _ _ 0 _ ⟨(bl_alloc hB), (Zr.new hB.size), (z1.kept (bl_alloc (bl_refl _))), (Ne.symm z1.ne)⟩) rfl (by kernel_rfl) (by kernel_rfl)
      refine AllReadyH.cons rfl (fun KK hKK => ?_) ?_
      · go_simp
        refine hKK.out _ _ (HM.out _ (bl_alloc hB)) (fun _ => ?_)
        exact st_use (H1011 0 _ _ _ ⟨(bl_alloc hB), (z1.kept (bl_alloc (bl_refl _))), (Zr.new hB.size), z1.ne⟩) rfl (by kernel_rfl) (by kernel_rfl)
      exact AllReadyH.nil
    refine st_have 7 (fun l => ((l.setIfInBounds 4 true).setIfInBounds 17 true)) (fun h6 h7 h8 s => ((s.put (some 20) (.agg #[.int .i64 (2 * X + 1), .int .i64 (2 * Y + 1)])).put (some 8) (.pointer (some ⟨h8, 0, none⟩)))) (fun h6 h7 h8 W => Below w1.heap.size w1 W ∧ Zr W w1.heap.size h8) ?_ (fun H1001 => ?_)
    · rintro h6 h7 h8 W ⟨hB, z2⟩
      simp only [Act.put]
      refine wpAnyH_ready (rs := [9, 15, 16]) (by kernel_rfl) (by simp) ?_
      refine AllReadyH.cons rfl (fun KK hKK => ?_) ?_
      · go_simp
        refine (pointOf_good _ _ _ _ _ _ _ _ _ _ _ HS.out HE.out (by with_reducible assumption)).mono ?_
        rintro r w2 ⟨rfl, o3, o4, o5, rfl⟩
        (try go_wp2_with fail)
        refine hKK.out _ _ (HM.out _ (bl_alloc (bl_alloc (bl_alloc hB)))) (fun _ => ?_)
        exact st_use (H2001 0 0 _ _ ⟨(bl_alloc (bl_alloc (bl_alloc hB))), (z2.kept (bl_alloc (bl_alloc (bl_alloc (bl_refl _)))))⟩) rfl (by kernel_rfl) (by kernel_rfl)
      refine AllReadyH.cons rfl (fun KK hKK => ?_) ?_
      · go_simp
        refine hKK.out _ _ (HM.out _ (bl_alloc hB)) (fun _ => ?_)
        exact st_use (H1101 _ 0 _ _ ⟨(bl_alloc hB), (Zr.new hB.size), (z2.kept (bl_alloc (bl_refl _))), (Ne.symm z2.ne)⟩) rfl (by kernel_rfl) (by kernel_rfl)
      refine AllReadyH.cons rfl (fun KK hKK => ?_) ?_
      · go_simp
        refine hKK.out _ _ (HM.out _ (bl_alloc hB)) (fun _ => ?_)
        exact st_use (H1011 0 _ _ _ ⟨(bl_alloc hB), (Zr.new hB.size), (z2.kept (bl_alloc (bl_refl _))), (Ne.symm z2.ne)⟩) rfl (by kernel_rfl) (by kernel_rfl)
      exact AllReadyH.nil
    refine st_have 8 (fun l => (l.setIfInBounds 4 true)) (fun h6 h7 h8 s => (s.put (some 20) (.agg #[.int .i64 (2 * X + 1), .int .i64 (2 * Y + 1)]))) (fun h6 h7 h8 W => Below w1.heap.size w1 W) ?_ (fun H1000 => ?_)
    · rintro h6 h7 h8 W hB
      simp only [Act.put]
      refine wpAnyH_ready (rs := [9, 15, 16, 17]) (by kernel_rfl) (by simp) ?_
      refine AllReadyH.cons rfl (fun KK hKK => ?_) ?_
      · go_simp
        refine (pointOf_good _ _ _ _ _ _ _ _ _ _ _ HS.out HE.out (by with_reducible assumption)).mono ?_
        rintro r w2 ⟨rfl, o3, o4, o5, rfl⟩
        (try go_wp2_with fail)
        refine hKK.out _ _ (HM.out _ (bl_alloc (bl_alloc (bl_alloc hB)))) (fun _ => ?_)
        exact st_use (H2000 0 0 0 _ (bl_alloc (bl_alloc (bl_alloc hB)))) rfl (by kernel_rfl) (by kernel_rfl)
      refine AllReadyH.cons rfl (fun KK hKK => ?_) ?_
      · go_simp
        refine hKK.out _ _ (HM.out _ (bl_alloc hB)) (fun _ => ?_)
        exact st_use (H1100 _ 0 0 _ ⟨(bl_alloc hB), (Zr.new hB.size)⟩) rfl (by kernel_rfl) (by kernel_rfl)
      refine AllReadyH.cons rfl (fun KK hKK => ?_) ?_
      · go_simp
        refine hKK.out _ _ (HM.out _ (bl_alloc hB)) (fun _ => ?_)
        exact st_use (H1010 0 _ 0 _ ⟨(bl_alloc hB), (Zr.new hB.size)⟩) rfl (by kernel_rfl) (by kernel_rfl)
      refine AllReadyH.cons rfl (fun KK hKK => ?_) ?_
      · go_simp
        refine hKK.out _ _ (HM.out _ (bl_alloc hB)) (fun _ => ?_)
        exact st_use (H1001 0 0 _ _ ⟨(bl_alloc hB), (Zr.new hB.size)⟩) rfl (by kernel_rfl) (by kernel_rfl)
      exact AllReadyH.nil
    refine st_have 6 (fun l => (((l.setIfInBounds 15 true).setIfInBounds 16 true).setIfInBounds 17 true)) (fun h6 h7 h8 s => (((s.put (some 6) (.pointer (some ⟨h6, 0, none⟩))).put (some 7) (.pointer (some ⟨h7, 0, none⟩))).put (some 8) (.pointer (some ⟨h8, 0, none⟩)))) (fun h6 h7 h8 W => Below w1.heap.size w1 W ∧ Zr W w1.heap.size h6 ∧ Zr W w1.heap.size h7 ∧ Zr W w1.heap.size h8 ∧ h6 ≠ h7 ∧ h6 ≠ h8 ∧ h7 ≠ h8) ?_ (fun H0111 => ?_)
    · rintro h6 h7 h8 W ⟨hB, z0, z1, z2, n01, n02, n12⟩
      simp only [Act.put]
      refine wpAnyH_ready (rs := [4]) (by kernel_rfl) (by simp) ?_
      refine AllReadyH.cons rfl (fun KK hKK => ?_) ?_
      · go_simp
        refine (pointOf_good _ _ _ _ _ _ _ _ _ _ _ HS.out HE.out (by with_reducible assumption)).mono ?_
        rintro r w2 ⟨rfl, o3, o4, o5, rfl⟩
        (try go_wp2_with fail)
        refine hKK.out _ _ (HM.out _ (bl_alloc (bl_alloc (bl_alloc hB)))) (fun _ => ?_)
        exact st_use (H1111 _ _ _ _ ⟨(bl_alloc (bl_alloc (bl_alloc hB))), (z0.kept (bl_alloc (bl_alloc (bl_alloc (bl_refl _))))), (z1.kept (bl_alloc (bl_alloc (bl_alloc (bl_refl _))))), (z2.kept (bl_alloc (bl_alloc (bl_alloc (bl_refl _))))), n01, n02, n12⟩) rfl (by kernel_rfl) (by kernel_rfl)
      exact AllReadyH.nil
    refine st_have 7 (fun l => ((l.setIfInBounds 15 true).setIfInBounds 16 true)) (fun h6 h7 h8 s => ((s.put (some 6) (.pointer (some ⟨h6, 0, none⟩))).put (some 7) (.pointer (some ⟨h7, 0, none⟩)))) (fun h6 h7 h8 W => Below w1.heap.size w1 W ∧ Zr W w1.heap.size h6 ∧ Zr W w1.heap.size h7 ∧ h6 ≠ h7) ?_ (fun H0110 => ?_)
    · rintro h6 h7 h8 W ⟨hB, z0, z1, n01⟩
      simp only [Act.put]
      refine wpAnyH_ready (rs := [4, 17]) (by kernel_rfl) (by simp) ?_
      refine AllReadyH.cons rfl (fun KK hKK => ?_) ?_
      · go_simp
        refine (pointOf_good _ _ _ _ _ _ _ _ _ _ _ HS.out HE.out (by with_reducible assumption)).mono ?_
        rintro r w2 ⟨rfl, o3, o4, o5, rfl⟩
        (try go_wp2_with fail)
        refine hKK.out _ _ (HM.out _ (bl_alloc (bl_alloc (bl_alloc hB)))) (fun _ => ?_)
        exact st_use (H1110 _ _ 0 _ ⟨(bl_alloc (bl_alloc (bl_alloc hB))), (z0.kept (bl_alloc (bl_alloc (bl_alloc (bl_refl _))))), (z1.kept (bl_alloc (bl_alloc (bl_alloc (bl_refl _))))), n01⟩) rfl (by kernel_rfl) (by kernel_rfl)
      refine AllReadyH.cons rfl (fun KK hKK => ?_) ?_
      · go_simp
        refine hKK.out _ _ (HM.out _ (bl_alloc hB)) (fun _ => ?_)
        exact st_use (H0111 _ _ _ _ ⟨(bl_alloc hB), (z0.kept (bl_alloc (bl_refl _))), (z1.kept (bl_alloc (bl_refl _))), (Zr.new hB.size), n01, z0.ne, z1.ne⟩) rfl (by kernel_rfl) (by kernel_rfl)
      exact AllReadyH.nil
    refine st_have 7 (fun l => ((l.setIfInBounds 15 true).setIfInBounds 17 true)) (fun h6 h7 h8 s => ((s.put (some 6) (.pointer (some ⟨h6, 0, none⟩))).put (some 8) (.pointer (some ⟨h8, 0, none⟩)))) (fun h6 h7 h8 W => Below w1.heap.size w1 W ∧ Zr W w1.heap.size h6 ∧ Zr W w1.heap.size h8 ∧ h6 ≠ h8) ?_ (fun H0101 => ?_)
    · rintro h6 h7 h8 W ⟨hB, z0, z2, n02⟩
      simp only [Act.put]
      refine wpAnyH_ready (rs := [4, 16]) (by kernel_rfl) (by simp) ?_
      refine AllReadyH.cons rfl (fun KK hKK => ?_) ?_
      · go_simp
        refine (pointOf_good _ _ _ _ _ _ _ _ _ _ _ HS.out HE.out (by with_reducible assumption)).mono ?_
        rintro r w2 ⟨rfl, o3, o4, o5, rfl⟩
        (try go_wp2_with fail)
        refine hKK.out _ _ (HM.out _ (bl_alloc (bl_alloc (bl_alloc hB)))) (fun _ => ?_)
        exact st_use (H1101 _ 0 _ _ ⟨(bl_alloc (bl_alloc (bl_alloc hB))), (z0.kept (bl_alloc (bl_alloc (bl_alloc (bl_refl _))))), (z2.kept (bl_alloc (bl_alloc (bl_alloc (bl_refl _))))), n02⟩) rfl (by kernel_rfl) (by kernel_rfl)
      refine AllReadyH.cons rfl (fun KK hKK => ?_) ?_
      · go_simp
        refine hKK.out _ _ (HM.out _ (bl_alloc hB)) (fun _ => ?_)
        exact st_use (H0111 _ _ _ _ ⟨(bl_alloc hB), (z0.kept (bl_alloc (bl_refl _))), (Zr.new hB.size), (z2.kept (bl_alloc (bl_refl _))), z0.ne, n02, (Ne.symm z2.ne)⟩) rfl (by kernel_rfl) (by kernel_rfl)
      exact AllReadyH.nil
    refine st_have 7 (fun l => ((l.setIfInBounds 16 true).setIfInBounds 17 true)) (fun h6 h7 h8 s => ((s.put (some 7) (.pointer (some ⟨h7, 0, none⟩))).put (some 8) (.pointer (some ⟨h8, 0, none⟩)))) (fun h6 h7 h8 W => Below w1.heap.size w1 W ∧ Zr W w1.heap.size h7 ∧ Zr W w1.heap.size h8 ∧ h7 ≠ h8) ?_ (fun H0011 => ?_)
    · rintro h6 h7 h8 W ⟨hB, z1, z2, n12⟩
      simp only [Act.put]
      refine wpAnyH_ready (rs := [4, 15]) (by kernel_rfl) (by simp) ?_
      refine AllReadyH.cons rfl (fun KK hKK => ?_) ?_
      · go_simp
        refine (pointOf_good _ _ _ _ _ _ _ _ _ _ _ HS.out HE.out (by with_reducible assumption)).mono ?_
        rintro r w2 ⟨rfl, o3, o4, o5, rfl⟩
        (try go_wp2_with fail)
        refine hKK.out _ _ (HM.out _ (bl_alloc (bl_alloc (bl_alloc hB)))) (fun _ => ?_)
        exact st_use (H1011 0 _ _ _ ⟨(bl_alloc (bl_alloc (bl_alloc hB))), (z1.kept (bl_alloc (bl_alloc (bl_alloc (bl_refl _))))), (z2.kept (bl_alloc (bl_alloc (bl_alloc (bl_refl _))))), n12⟩) rfl (by kernel_rfl) (by kernel_rfl)
      refine AllReadyH.cons rfl (fun KK hKK => ?_) ?_
      · go_simp
        refine hKK.out _ _ (HM.out _ (bl_alloc hB)) (fun _ => ?_)
        exact st_use (H0111 _ _ _ _ ⟨(bl_alloc hB), (Zr.new hB.size), (z1.kept (bl_alloc (bl_refl _))), (z2.kept (bl_alloc (bl_refl _))), (Ne.symm z1.ne), (Ne.symm z2.ne), n12⟩) rfl (by kernel_rfl) (by kernel_rfl)
      exact AllReadyH.nil
    refine st_have 8 (fun l => (l.setIfInBounds 15 true)) (fun h6 h7 h8 s => (s.put (some 6) (.pointer (some ⟨h6, 0, none⟩)))) (fun h6 h7 h8 W => Below w1.heap.size w1 W ∧ Zr W w1.heap.size h6) ?_ (fun H0100 => ?_)
    · rintro h6 h7 h8 W ⟨hB, z0⟩
      simp only [Act.put]
      refine wpAnyH_ready (rs := [4, 16, 17]) (by kernel_rfl) (by simp) ?_
      refine AllReadyH.cons rfl (fun KK hKK => ?_) ?_
      · go_simp
        refine (pointOf_good _ _ _ _ _ _ _ _ _ _ _ HS.out HE.out (by with_reducible assumption)).mono ?_
        rintro r w2 ⟨rfl, o3, o4, o5, rfl⟩
        (try go_wp2_with fail)
        refine hKK.out _ _ (HM.out _ (bl_alloc (bl_alloc (bl_alloc hB)))) (fun _ => ?_)
        exact st_use (H1100 _ 0 0 _ ⟨(bl_alloc (bl_alloc (bl_alloc hB))), (z0.kept (bl_alloc (bl_alloc (bl_alloc (bl_refl _)))))⟩) rfl (by kernel_rfl) (by kernel_rfl)
      refine AllReadyH.cons rfl (fun KK hKK => ?_) ?_
      · go_simp
        refine hKK.out _ _ (HM.out _ (bl_alloc hB)) (fun _ => ?_)
        exact st_use (H0110 _ _ 0 _ ⟨(bl_alloc hB), (z0.kept (bl_alloc (bl_refl _))), (Zr.new hB.size), z0.ne⟩) rfl (by kernel_rfl) (by kernel_rfl)
      refine AllReadyH.cons rfl (fun KK hKK => ?_) ?_
      · go_simp
        refine hKK.out _ _ (HM.out _ (bl_alloc hB)) (fun _ => ?_)
        exact st_use (H0101 _ 0 _ _ ⟨(bl_alloc hB), (z0.kept (bl_alloc (bl_refl _))), (Zr.new hB.size), z0.ne⟩) rfl (by kernel_rfl) (by kernel_rfl)
      exact AllReadyH.nil
    refine st_have 8 (fun l => (l.setIfInBounds 16 true)) (fun h6 h7 h8 s => (s.put (some 7) (.pointer (some ⟨h7, 0, none⟩)))) (fun h6 h7 h8 W => Below w1.heap.size w1 W ∧ Zr W w1.heap.size h7) ?_ (fun H0010 => ?_)
    · rintro h6 h7 h8 W ⟨hB, z1⟩
      simp only [Act.put]
      refine wpAnyH_ready (rs := [4, 15, 17]) (by kernel_rfl) (by simp) ?_
      refine AllReadyH.cons rfl (fun KK hKK => ?_) ?_
      · go_simp
        refine (pointOf_good _ _ _ _ _ _ _ _ _ _ _ HS.out HE.out (by with_reducible assumption)).mono ?_
        rintro r w2 ⟨rfl, o3, o4, o5, rfl⟩
        (try go_wp2_with fail)
        refine hKK.out _ _ (HM.out _ (bl_alloc (bl_alloc (bl_alloc hB)))) (fun _ => ?_)
        exact st_use (H1010 0 _ 0 _ ⟨(bl_alloc (bl_alloc (bl_alloc hB))), (z1.kept (bl_alloc (bl_alloc (bl_alloc (bl_refl _)))))⟩) rfl (by kernel_rfl) (by kernel_rfl)
      refine AllReadyH.cons rfl (fun KK hKK => ?_) ?_
      · go_simp
        refine hKK.out _ _ (HM.out _ (bl_alloc hB)) (fun _ => ?_)
        exact st_use (H0110 _ _ 0 _ ⟨(bl_alloc hB), (Zr.new hB.size), (z1.kept (bl_alloc (bl_refl _))), (Ne.symm z1.ne)⟩) rfl (by kernel_rfl) (by kernel_rfl)
      refine AllReadyH.cons rfl (fun KK hKK => ?_) ?_
      · go_simp
        refine hKK.out _ _ (HM.out _ (bl_alloc hB)) (fun _ => ?_)
        exact st_use (H0011 0 _ _ _ ⟨(bl_alloc hB), (z1.kept (bl_alloc (bl_refl _))), (Zr.new hB.size), z1.ne⟩) rfl (by kernel_rfl) (by kernel_rfl)
      exact AllReadyH.nil
    refine st_have 8 (fun l => (l.setIfInBounds 17 true)) (fun h6 h7 h8 s => (s.put (some 8) (.pointer (some ⟨h8, 0, none⟩)))) (fun h6 h7 h8 W => Below w1.heap.size w1 W ∧ Zr W w1.heap.size h8) ?_ (fun H0001 => ?_)
    · rintro h6 h7 h8 W ⟨hB, z2⟩
      simp only [Act.put]
      refine wpAnyH_ready (rs := [4, 15, 16]) (by kernel_rfl) (by simp) ?_
      refine AllReadyH.cons rfl (fun KK hKK => ?_) ?_
      · go_simp
        refine (pointOf_good _ _ _ _ _ _ _ _ _ _ _ HS.out HE.out (by with_reducible assumption)).mono ?_
        rintro r w2 ⟨rfl, o3, o4, o5, rfl⟩
        (try go_wp2_with fail)
        refine hKK.out _ _ (HM.out _ (bl_alloc (bl_alloc (bl_alloc hB)))) (fun _ => ?_)
        exact st_use (H1001 0 0 _ _ ⟨(bl_alloc (bl_alloc (bl_alloc hB))), (z2.kept (bl_alloc (bl_alloc (bl_alloc (bl_refl _)))))⟩) rfl (by kernel_rfl) (by kernel_rfl)
      refine AllReadyH.cons rfl (fun KK hKK => ?_) ?_
      · go_simp
        refine hKK.out _ _ (HM.out _ (bl_alloc hB)) (fun _ => ?_)
        exact st_use (H0101 _ 0 _ _ ⟨(bl_alloc hB), (Zr.new hB.size), (z2.kept (bl_alloc (bl_refl _))), (Ne.symm z2.ne)⟩) rfl (by kernel_rfl) (by kernel_rfl)
      refine AllReadyH.cons rfl (fun KK hKK => ?_) ?_
      · go_simp
        refine hKK.out _ _ (HM.out _ (bl_alloc hB)) (fun _ => ?_)
        exact st_use (H0011 0 _ _ _ ⟨(bl_alloc hB), (Zr.new hB.size), (z2.kept (bl_alloc (bl_refl _))), (Ne.symm z2.ne)⟩) rfl (by kernel_rfl) (by kernel_rfl)
      exact AllReadyH.nil
    have hB := hB0
    refine wpAnyH_ready (rs := [4, 15, 16, 17]) (by kernel_rfl) (by simp) ?_
    refine AllReadyH.cons rfl (fun KK hKK => ?_) ?_
    · go_simp
      refine (pointOf_good _ _ _ _ _ _ _ _ _ _ _ HS.out HE.out (by with_reducible assumption)).mono ?_
      rintro r w2 ⟨rfl, o3, o4, o5, rfl⟩
      (try go_wp2_with fail)
      refine hKK.out _ _ (HM.out _ (bl_alloc (bl_alloc (bl_alloc hB)))) (fun _ => ?_)
      exact st_use (H1000 0 0 0 _ (bl_alloc (bl_alloc (bl_alloc hB)))) rfl (by kernel_rfl) (by kernel_rfl)
    refine AllReadyH.cons rfl (fun KK hKK => ?_) ?_
    · go_simp
      refine hKK.out _ _ (HM.out _ (bl_alloc hB)) (fun _ => ?_)
      exact st_use (H0100 _ 0 0 _ ⟨(bl_alloc hB), (Zr.new hB.size)⟩) rfl (by kernel_rfl) (by kernel_rfl)
    refine AllReadyH.cons rfl (fun KK hKK => ?_) ?_
    · go_simp
      refine hKK.out _ _ (HM.out _ (bl_alloc hB)) (fun _ => ?_)
      exact st_use (H0010 0 _ 0 _ ⟨(bl_alloc hB), (Zr.new hB.size)⟩) rfl (by kernel_rfl) (by kernel_rfl)
    refine AllReadyH.cons rfl (fun KK hKK => ?_) ?_
    · go_simp
      refine hKK.out _ _ (HM.out _ (bl_alloc hB)) (fun _ => ?_)
      exact st_use (H0001 0 0 _ _ ⟨(bl_alloc hB), (Zr.new hB.size)⟩) rfl (by kernel_rfl) (by kernel_rfl)
    exact AllReadyH.nil
  case rest =>
    obtain ⟨g6, g7, g8, rfl, rfl, rfl, p6, p7, p8, hB, hR, hF⟩ := hcut
    have HR0 : Hid (Tr wc (w.heap.size + 1 + 1) 0 0 0 ∧ Fr wc (w.heap.size + 1 + 1) ∧ Below w.heap.size w wc) := ⟨hR, hF, hB⟩
    obtain ⟨x6, y6⟩ := p6
    obtain ⟨q00, q01⟩ := p7
    obtain ⟨r00, r01⟩ := p8
    have wX : IntKind.i64.wrap (2 * X) = 2 * X := wrap_of (by omega) (by omega)
    have wY : IntKind.i64.wrap (2 * Y) = 2 * Y := wrap_of (by omega) (by omega)
    have wX' : IntKind.i64.wrap X = X := wrap_of (by omega) (by omega)
    have wY' : IntKind.i64.wrap Y = Y := wrap_of (by omega) (by omega)
    have hx := half X
    have hy := half Y
    clear hR hF hB hp hq hr HS HE
    go_wp2
    go_quiet (fail)
    go_wp2
    clear x6 y6 wX wY wX' wY' hx hy
    have n1 : (2 * X == 2 * X + 2) = false := by simp; omega
    have n2 : (2 * X + 2 == 2 * X) = false := by simp; omega
    have n3 : (2 * Y == 2 * Y + 2) = false := by simp; omega
    have n4 : (2 * Y + 2 == 2 * Y) = false := by simp; omega
    generalize hwd : World.drewN wc nq = d0
    have hk0 : Below wc.heap.size wc d0 := hwd ▸ bl_drewN (bl_refl wc)
    have q0_d0 : d0.cell? ⟨g7, 0, none⟩ = some (.int .i64 q1) := cl_kept hk0 q00
    have q1_d0 : d0.cell? ⟨g7, 1, none⟩ = some (.int .i64 q2) := cl_kept hk0 q01
    have r0_d0 : d0.cell? ⟨g8, 0, none⟩ = some (.int .i64 r1) := cl_kept hk0 r00
    have r1_d0 : d0.cell? ⟨g8, 1, none⟩ = some (.int .i64 r2) := cl_kept hk0 r01
    have HR_d0 : Hid (Tr d0 (w.heap.size + 1 + 1) 0 0 0 ∧ Fr d0 (w.heap.size + 1 + 1) ∧ Below w.heap.size w d0) := ⟨HR0.out.1.kept hk0, HR0.out.2.1.kept HR0.out.1.lt hk0, bl_via HR0.out.2.2 hk0⟩
    have za_d0 : g7 < d0.heap.size := World.block_lt_of_cell? (w := d0) (a := ⟨g7, 0, none⟩) q0_d0
    have zb_d0 : g8 < d0.heap.size := World.block_lt_of_cell? (w := d0) (a := ⟨g8, 0, none⟩) r0_d0
    clear hk0 hwd q00 q01 r00 r01 HR0
    rcases hm with ⟨rfl, rfl, rfl, rfl, rfl⟩ | ⟨rfl, rfl, rfl, rfl, rfl⟩ | ⟨rfl, rfl, rfl, rfl, rfl⟩ | ⟨rfl, rfl, rfl, rfl, rfl⟩ | ⟨rfl, rfl, rfl, rfl, rfl⟩ | ⟨rfl, rfl, rfl, rfl, rfl⟩ | ⟨rfl, rfl, rfl, rfl, rfl⟩ | ⟨rfl, rfl, rfl, rfl, rfl⟩
    · refine wp_loop_rounds 5 ?_
      rw [rounds_succ]
      go_wp2_with (go_at_call 129; refine (cornersOfW_0 _ _ _ X1.1 X1.2 Y1.1 Y1.2).mono ?_; rintro e v1 ⟨g, rfl, hg, ⟨c0, c1, c2, c3, c4, c5⟩, hb⟩; have kb := bl_via (bl_alloc (bl_refl d0)) hb; have q0_v1 : v1.cell? ⟨g7, 0, none⟩ = some (.int .i64 (2 * X)) := cl_kept kb q0_d0; have q1_v1 : v1.cell? ⟨g7, 1, none⟩ = some (.int .i64 (2 * Y)) := cl_kept kb q1_d0; have r0_v1 : v1.cell? ⟨g8, 0, none⟩ = some (.int .i64 (2 * X + 2)) := cl_kept kb r0_d0; have r1_v1 : v1.cell? ⟨g8, 1, none⟩ = some (.int .i64 (2 * Y)) := cl_kept kb r1_d0; have HR_v1 : Hid (Tr v1 (w.heap.size + 1 + 1) 0 0 0 ∧ Fr v1 (w.heap.size + 1 + 1) ∧ Below w.heap.size w v1) := ⟨HR_d0.out.1.kept kb, HR_d0.out.2.1.kept HR_d0.out.1.lt kb, bl_via HR_d0.out.2.2 kb⟩; have za_v1 : g7 < v1.heap.size := World.block_lt_of_cell? (w := v1) (a := ⟨g7, 0, none⟩) q0_v1; have zb_v1 : g8 < v1.heap.size := World.block_lt_of_cell? (w := v1) (a := ⟨g8, 0, none⟩) r0_v1; have e0 : v1.cell? ⟨d0.heap.size, 0, none⟩ = some (.int .i64 X) := cl_kept hb (by simp [go_sem]); have e1 : v1.cell? ⟨d0.heap.size, 1, none⟩ = some (.int .i64 Y) := cl_kept hb (by simp [go_sem]); have e2 : v1.cell? ⟨d0.heap.size, 2, none⟩ = some (.int .i64 0) := cl_kept hb (by simp [go_sem]); obtain ⟨⟨t0, t1, t2⟩, ⟨f0, f1, f2, _, _, _⟩, HB⟩ := HR_v1.out; clear hb kb hg; clear HR_d0 q0_d0 q1_d0 r0_d0 r1_d0 za_d0 zb_d0)
      go_quiet (fail)
      go_wp2
      refine bodyPost_ret (v := .agg #[.int .i64 X, .int .i64 Y, .int .i64 0]) ?_ rfl ⟨rfl, ?_⟩
      · simp [results, Tryz.results54, go_sem, t0, t1, t2]
      · with_reducible repeat' (first | exact HB | refine bl_set ?_ ?_ | refine bl_alloc ?_ | refine bl_drewN ?_)
        all_goals (first | (simp; done) | (simp; omega))
    · refine wp_loop_rounds 5 ?_
      rw [rounds_succ]
      go_wp2_with (go_at_call 129; refine (cornersOfW_0 _ _ _ X1.1 X1.2 Y1.1 Y1.2).mono ?_; rintro e v1 ⟨g, rfl, hg, ⟨c0, c1, c2, c3, c4, c5⟩, hb⟩; have kb := bl_via (bl_alloc (bl_refl d0)) hb; have q0_v1 : v1.cell? ⟨g7, 0, none⟩ = some (.int .i64 (2 * X + 2)) := cl_kept kb q0_d0; have q1_v1 : v1.cell? ⟨g7, 1, none⟩ = some (.int .i64 (2 * Y)) := cl_kept kb q1_d0; have r0_v1 : v1.cell? ⟨g8, 0, none⟩ = some (.int .i64 (2 * X)) := cl_kept kb r0_d0; have r1_v1 : v1.cell? ⟨g8, 1, none⟩ = some (.int .i64 (2 * Y)) := cl_kept kb r1_d0; have HR_v1 : Hid (Tr v1 (w.heap.size + 1 + 1) 0 0 0 ∧ Fr v1 (w.heap.size + 1 + 1) ∧ Below w.heap.size w v1) := ⟨HR_d0.out.1.kept kb, HR_d0.out.2.1.kept HR_d0.out.1.lt kb, bl_via HR_d0.out.2.2 kb⟩; have za_v1 : g7 < v1.heap.size := World.block_lt_of_cell? (w := v1) (a := ⟨g7, 0, none⟩) q0_v1; have zb_v1 : g8 < v1.heap.size := World.block_lt_of_cell? (w := v1) (a := ⟨g8, 0, none⟩) r0_v1; have e0 : v1.cell? ⟨d0.heap.size, 0, none⟩ = some (.int .i64 X) := cl_kept hb (by simp [go_sem]); have e1 : v1.cell? ⟨d0.heap.size, 1, none⟩ = some (.int .i64 Y) := cl_kept hb (by simp [go_sem]); have e2 : v1.cell? ⟨d0.heap.size, 2, none⟩ = some (.int .i64 0) := cl_kept hb (by simp [go_sem]); obtain ⟨⟨t0, t1, t2⟩, ⟨f0, f1, f2, _, _, _⟩, HB⟩ := HR_v1.out; clear hb kb hg; clear HR_d0 q0_d0 q1_d0 r0_d0 r1_d0 za_d0 zb_d0)
      go_quiet (fail)
      go_wp2
      refine bodyPost_ret (v := .agg #[.int .i64 X, .int .i64 Y, .int .i64 0]) ?_ rfl ⟨rfl, ?_⟩
      · simp [results, Tryz.results54, go_sem, t0, t1, t2]
      · with_reducible repeat' (first | exact HB | refine bl_set ?_ ?_ | refine bl_alloc ?_ | refine bl_drewN ?_)
        all_goals (first | (simp; done) | (simp; omega))
    · refine wp_loop_rounds 5 ?_
      rw [rounds_succ]
      go_wp2_with (go_at_call 129; refine (cornersOfW_0 _ _ _ X1.1 X1.2 Y1.1 Y1.2).mono ?_; rintro e v1 ⟨g, rfl, hg, ⟨c0, c1, c2, c3, c4, c5⟩, hb⟩; have kb := bl_via (bl_alloc (bl_refl d0)) hb; have q0_v1 : v1.cell? ⟨g7, 0, none⟩ = some (.int .i64 (2 * X + 2)) := cl_kept kb q0_d0; have q1_v1 : v1.cell? ⟨g7, 1, none⟩ = some (.int .i64 (2 * Y)) := cl_kept kb q1_d0; have r0_v1 : v1.cell? ⟨g8, 0, none⟩ = some (.int .i64 (2 * X + 2)) := cl_kept kb r0_d0; have r1_v1 : v1.cell? ⟨g8, 1, none⟩ = some (.int .i64 (2 * Y + 2)) := cl_kept kb r1_d0; have HR_v1 : Hid (Tr v1 (w.heap.size + 1 + 1) 0 0 0 ∧ Fr v1 (w.heap.size + 1 + 1) ∧ Below w.heap.size w v1) := ⟨HR_d0.out.1.kept kb, HR_d0.out.2.1.kept HR_d0.out.1.lt kb, bl_via HR_d0.out.2.2 kb⟩; have za_v1 : g7 < v1.heap.size := World.block_lt_of_cell? (w := v1) (a := ⟨g7, 0, none⟩) q0_v1; have zb_v1 : g8 < v1.heap.size := World.block_lt_of_cell? (w := v1) (a := ⟨g8, 0, none⟩) r0_v1; clear hb kb hg; clear HR_d0 q0_d0 q1_d0 r0_d0 r1_d0 za_d0 zb_d0)
      go_quiet (fail)
      go_wp2
      generalize hwd : World.drewN v1 nq = d1
      have kb : Below v1.heap.size v1 d1 := hwd ▸ bl_drewN (bl_refl v1)
      have q0_d1 : d1.cell? ⟨g7, 0, none⟩ = some (.int .i64 (2 * X + 2)) := cl_kept kb q0_v1
      have q1_d1 : d1.cell? ⟨g7, 1, none⟩ = some (.int .i64 (2 * Y)) := cl_kept kb q1_v1
      have r0_d1 : d1.cell? ⟨g8, 0, none⟩ = some (.int .i64 (2 * X + 2)) := cl_kept kb r0_v1
      have r1_d1 : d1.cell? ⟨g8, 1, none⟩ = some (.int .i64 (2 * Y + 2)) := cl_kept kb r1_v1
      have HR_d1 : Hid (Tr d1 (w.heap.size + 1 + 1) 0 0 0 ∧ Fr d1 (w.heap.size + 1 + 1) ∧ Below w.heap.size w d1) := ⟨HR_v1.out.1.kept kb, HR_v1.out.2.1.kept HR_v1.out.1.lt kb, bl_via HR_v1.out.2.2 kb⟩
      have za_d1 : g7 < d1.heap.size := World.block_lt_of_cell? (w := d1) (a := ⟨g7, 0, none⟩) q0_d1
      have zb_d1 : g8 < d1.heap.size := World.block_lt_of_cell? (w := d1) (a := ⟨g8, 0, none⟩) r0_d1
      clear hwd kb c0 c1 c2 c3 c4 c5
      clear HR_v1 q0_v1 q1_v1 r0_v1 r1_v1 za_v1 zb_v1
      rw [rounds_succ]
      go_wp2_with (go_at_call 129; refine (cornersOfW_1 _ _ _ X1.1 X1.2 Y1.1 Y1.2).mono ?_; rintro e v2 ⟨g, rfl, hg, ⟨c0, c1, c2, c3, c4, c5⟩, hb⟩; have kb := bl_via (bl_alloc (bl_refl d1)) hb; have q0_v2 : v2.cell? ⟨g7, 0, none⟩ = some (.int .i64 (2 * X + 2)) := cl_kept kb q0_d1; have q1_v2 : v2.cell? ⟨g7, 1, none⟩ = some (.int .i64 (2 * Y)) := cl_kept kb q1_d1; have r0_v2 : v2.cell? ⟨g8, 0, none⟩ = some (.int .i64 (2 * X + 2)) := cl_kept kb r0_d1; have r1_v2 : v2.cell? ⟨g8, 1, none⟩ = some (.int .i64 (2 * Y + 2)) := cl_kept kb r1_d1; have HR_v2 : Hid (Tr v2 (w.heap.size + 1 + 1) 0 0 0 ∧ Fr v2 (w.heap.size + 1 + 1) ∧ Below w.heap.size w v2) := ⟨HR_d1.out.1.kept kb, HR_d1.out.2.1.kept HR_d1.out.1.lt kb, bl_via HR_d1.out.2.2 kb⟩; have za_v2 : g7 < v2.heap.size := World.block_lt_of_cell? (w := v2) (a := ⟨g7, 0, none⟩) q0_v2; have zb_v2 : g8 < v2.heap.size := World.block_lt_of_cell? (w := v2) (a := ⟨g8, 0, none⟩) r0_v2; have e0 : v2.cell? ⟨d1.heap.size, 0, none⟩ = some (.int .i64 X) := cl_kept hb (by simp [go_sem]); have e1 : v2.cell? ⟨d1.heap.size, 1, none⟩ = some (.int .i64 Y) := cl_kept hb (by simp [go_sem]); have e2 : v2.cell? ⟨d1.heap.size, 2, none⟩ = some (.int .i64 1) := cl_kept hb (by simp [go_sem]); obtain ⟨⟨t0, t1, t2⟩, ⟨f0, f1, f2, _, _, _⟩, HB⟩ := HR_v2.out; clear hb kb hg; clear HR_d1 q0_d1 q1_d1 r0_d1 r1_d1 za_d1 zb_d1)
      go_quiet (fail)
      go_wp2
      refine bodyPost_ret (v := .agg #[.int .i64 X, .int .i64 Y, .int .i64 1]) ?_ rfl ⟨rfl, ?_⟩
      · simp [results, Tryz.results54, go_sem, t0, t1, t2]
      · with_reducible repeat' (first | exact HB | refine bl_set ?_ ?_ | refine bl_alloc ?_ | refine bl_drewN ?_)
        all_goals (first | (simp; done) | (simp; omega))
    · refine wp_loop_rounds 5 ?_
      rw [rounds_succ]
      go_wp2_with (go_at_call 129; refine (cornersOfW_0 _ _ _ X1.1 X1.2 Y1.1 Y1.2).mono ?_; rintro e v1 ⟨g, rfl, hg, ⟨c0, c1, c2, c3, c4, c5⟩, hb⟩; have kb := bl_via (bl_alloc (bl_refl d0)) hb; have q0_v1 : v1.cell? ⟨g7, 0, none⟩ = some (.int .i64 (2 * X + 2)) := cl_kept kb q0_d0; have q1_v1 : v1.cell? ⟨g7, 1, none⟩ = some (.int .i64 (2 * Y + 2)) := cl_kept kb q1_d0; have r0_v1 : v1.cell? ⟨g8, 0, none⟩ = some (.int .i64 (2 * X + 2)) := cl_kept kb r0_d0; have r1_v1 : v1.cell? ⟨g8, 1, none⟩ = some (.int .i64 (2 * Y)) := cl_kept kb r1_d0; have HR_v1 : Hid (Tr v1 (w.heap.size + 1 + 1) 0 0 0 ∧ Fr v1 (w.heap.size + 1 + 1) ∧ Below w.heap.size w v1) := ⟨HR_d0.out.1.kept kb, HR_d0.out.2.1.kept HR_d0.out.1.lt kb, bl_via HR_d0.out.2.2 kb⟩; have za_v1 : g7 < v1.heap.size := World.block_lt_of_cell? (w := v1) (a := ⟨g7, 0, none⟩) q0_v1; have zb_v1 : g8 < v1.heap.size := World.block_lt_of_cell? (w := v1) (a := ⟨g8, 0, none⟩) r0_v1; clear hb kb hg; clear HR_d0 q0_d0 q1_d0 r0_d0 r1_d0 za_d0 zb_d0)
      go_quiet (fail)
      go_wp2
      generalize hwd : World.drewN v1 nq = d1
      have kb : Below v1.heap.size v1 d1 := hwd ▸ bl_drewN (bl_refl v1)
      have q0_d1 : d1.cell? ⟨g7, 0, none⟩ = some (.int .i64 (2 * X + 2)) := cl_kept kb q0_v1
      have q1_d1 : d1.cell? ⟨g7, 1, none⟩ = some (.int .i64 (2 * Y + 2)) := cl_kept kb q1_v1
      have r0_d1 : d1.cell? ⟨g8, 0, none⟩ = some (.int .i64 (2 * X + 2)) := cl_kept kb r0_v1
      have r1_d1 : d1.cell? ⟨g8, 1, none⟩ = some (.int .i64 (2 * Y)) := cl_kept kb r1_v1
      have HR_d1 : Hid (Tr d1 (w.heap.size + 1 + 1) 0 0 0 ∧ Fr d1 (w.heap.size + 1 + 1) ∧ Below w.heap.size w d1) := ⟨HR_v1.out.1.kept kb, HR_v1.out.2.1.kept HR_v1.out.1.lt kb, bl_via HR_v1.out.2.2 kb⟩
      have za_d1 : g7 < d1.heap.size := World.block_lt_of_cell? (w := d1) (a := ⟨g7, 0, none⟩) q0_d1
      have zb_d1 : g8 < d1.heap.size := World.block_lt_of_cell? (w := d1) (a := ⟨g8, 0, none⟩) r0_d1
      clear hwd kb c0 c1 c2 c3 c4 c5
      clear HR_v1 q0_v1 q1_v1 r0_v1 r1_v1 za_v1 zb_v1
      rw [rounds_succ]
      go_wp2_with (go_at_call 129; refine (cornersOfW_1 _ _ _ X1.1 X1.2 Y1.1 Y1.2).mono ?_; rintro e v2 ⟨g, rfl, hg, ⟨c0, c1, c2, c3, c4, c5⟩, hb⟩; have kb := bl_via (bl_alloc (bl_refl d1)) hb; have q0_v2 : v2.cell? ⟨g7, 0, none⟩ = some (.int .i64 (2 * X + 2)) := cl_kept kb q0_d1; have q1_v2 : v2.cell? ⟨g7, 1, none⟩ = some (.int .i64 (2 * Y + 2)) := cl_kept kb q1_d1; have r0_v2 : v2.cell? ⟨g8, 0, none⟩ = some (.int .i64 (2 * X + 2)) := cl_kept kb r0_d1; have r1_v2 : v2.cell? ⟨g8, 1, none⟩ = some (.int .i64 (2 * Y)) := cl_kept kb r1_d1; have HR_v2 : Hid (Tr v2 (w.heap.size + 1 + 1) 0 0 0 ∧ Fr v2 (w.heap.size + 1 + 1) ∧ Below w.heap.size w v2) := ⟨HR_d1.out.1.kept kb, HR_d1.out.2.1.kept HR_d1.out.1.lt kb, bl_via HR_d1.out.2.2 kb⟩; have za_v2 : g7 < v2.heap.size := World.block_lt_of_cell? (w := v2) (a := ⟨g7, 0, none⟩) q0_v2; have zb_v2 : g8 < v2.heap.size := World.block_lt_of_cell? (w := v2) (a := ⟨g8, 0, none⟩) r0_v2; have e0 : v2.cell? ⟨d1.heap.size, 0, none⟩ = some (.int .i64 X) := cl_kept hb (by simp [go_sem]); have e1 : v2.cell? ⟨d1.heap.size, 1, none⟩ = some (.int .i64 Y) := cl_kept hb (by simp [go_sem]); have e2 : v2.cell? ⟨d1.heap.size, 2, none⟩ = some (.int .i64 1) := cl_kept hb (by simp [go_sem]); obtain ⟨⟨t0, t1, t2⟩, ⟨f0, f1, f2, _, _, _⟩, HB⟩ := HR_v2.out; clear hb kb hg; clear HR_d1 q0_d1 q1_d1 r0_d1 r1_d1 za_d1 zb_d1)
      go_quiet (fail)
      go_wp2
      refine bodyPost_ret (v := .agg #[.int .i64 X, .int .i64 Y, .int .i64 1]) ?_ rfl ⟨rfl, ?_⟩
      · simp [results, Tryz.results54, go_sem, t0, t1, t2]
      · with_reducible repeat' (first | exact HB | refine bl_set ?_ ?_ | refine bl_alloc ?_ | refine bl_drewN ?_)
        all_goals (first | (simp; done) | (simp; omega))
    · refine wp_loop_rounds 5 ?_
      rw [rounds_succ]
      go_wp2_with (go_at_call 129; refine (cornersOfW_0 _ _ _ X1.1 X1.2 Y1.1 Y1.2).mono ?_; rintro e v1 ⟨g, rfl, hg, ⟨c0, c1, c2, c3, c4, c5⟩, hb⟩; have kb := bl_via (bl_alloc (bl_refl d0)) hb; have q0_v1 : v1.cell? ⟨g7, 0, none⟩ = some (.int .i64 (2 * X + 2)) := cl_kept kb q0_d0; have q1_v1 : v1.cell? ⟨g7, 1, none⟩ = some (.int .i64 (2 * Y + 2)) := cl_kept kb q1_d0; have r0_v1 : v1.cell? ⟨g8, 0, none⟩ = some (.int .i64 (2 * X)) := cl_kept kb r0_d0; have r1_v1 : v1.cell? ⟨g8, 1, none⟩ = some (.int .i64 (2 * Y + 2)) := cl_kept kb r1_d0; have HR_v1 : Hid (Tr v1 (w.heap.size + 1 + 1) 0 0 0 ∧ Fr v1 (w.heap.size + 1 + 1) ∧ Below w.heap.size w v1) := ⟨HR_d0.out.1.kept kb, HR_d0.out.2.1.kept HR_d0.out.1.lt kb, bl_via HR_d0.out.2.2 kb⟩; have za_v1 : g7 < v1.heap.size := World.block_lt_of_cell? (w := v1) (a := ⟨g7, 0, none⟩) q0_v1; have zb_v1 : g8 < v1.heap.size := World.block_lt_of_cell? (w := v1) (a := ⟨g8, 0, none⟩) r0_v1; clear hb kb hg; clear HR_d0 q0_d0 q1_d0 r0_d0 r1_d0 za_d0 zb_d0)
      go_quiet (fail)
      go_wp2
      generalize hwd : World.drewN v1 nq = d1
      have kb : Below v1.heap.size v1 d1 := hwd ▸ bl_drewN (bl_refl v1)
      have q0_d1 : d1.cell? ⟨g7, 0, none⟩ = some (.int .i64 (2 * X + 2)) := cl_kept kb q0_v1
      have q1_d1 : d1.cell? ⟨g7, 1, none⟩ = some (.int .i64 (2 * Y + 2)) := cl_kept kb q1_v1
      have r0_d1 : d1.cell? ⟨g8, 0, none⟩ = some (.int .i64 (2 * X)) := cl_kept kb r0_v1
      have r1_d1 : d1.cell? ⟨g8, 1, none⟩ = some (.int .i64 (2 * Y + 2)) := cl_kept kb r1_v1
      have HR_d1 : Hid (Tr d1 (w.heap.size + 1 + 1) 0 0 0 ∧ Fr d1 (w.heap.size + 1 + 1) ∧ Below w.heap.size w d1) := ⟨HR_v1.out.1.kept kb, HR_v1.out.2.1.kept HR_v1.out.1.lt kb, bl_via HR_v1.out.2.2 kb⟩
      have za_d1 : g7 < d1.heap.size := World.block_lt_of_cell? (w := d1) (a := ⟨g7, 0, none⟩) q0_d1
      have zb_d1 : g8 < d1.heap.size := World.block_lt_of_cell? (w := d1) (a := ⟨g8, 0, none⟩) r0_d1
      clear hwd kb c0 c1 c2 c3 c4 c5
      clear HR_v1 q0_v1 q1_v1 r0_v1 r1_v1 za_v1 zb_v1
      rw [rounds_succ]
      go_wp2_with (go_at_call 129; refine (cornersOfW_1 _ _ _ X1.1 X1.2 Y1.1 Y1.2).mono ?_; rintro e v2 ⟨g, rfl, hg, ⟨c0, c1, c2, c3, c4, c5⟩, hb⟩; have kb := bl_via (bl_alloc (bl_refl d1)) hb; have q0_v2 : v2.cell? ⟨g7, 0, none⟩ = some (.int .i64 (2 * X + 2)) := cl_kept kb q0_d1; have q1_v2 : v2.cell? ⟨g7, 1, none⟩ = some (.int .i64 (2 * Y + 2)) := cl_kept kb q1_d1; have r0_v2 : v2.cell? ⟨g8, 0, none⟩ = some (.int .i64 (2 * X)) := cl_kept kb r0_d1; have r1_v2 : v2.cell? ⟨g8, 1, none⟩ = some (.int .i64 (2 * Y + 2)) := cl_kept kb r1_d1; have HR_v2 : Hid (Tr v2 (w.heap.size + 1 + 1) 0 0 0 ∧ Fr v2 (w.heap.size + 1 + 1) ∧ Below w.heap.size w v2) := ⟨HR_d1.out.1.kept kb, HR_d1.out.2.1.kept HR_d1.out.1.lt kb, bl_via HR_d1.out.2.2 kb⟩; have za_v2 : g7 < v2.heap.size := World.block_lt_of_cell? (w := v2) (a := ⟨g7, 0, none⟩) q0_v2; have zb_v2 : g8 < v2.heap.size := World.block_lt_of_cell? (w := v2) (a := ⟨g8, 0, none⟩) r0_v2; clear hb kb hg; clear HR_d1 q0_d1 q1_d1 r0_d1 r1_d1 za_d1 zb_d1)
      go_quiet (fail)
      go_wp2
      generalize hwd : World.drewN v2 nq = d2
      have kb : Below v2.heap.size v2 d2 := hwd ▸ bl_drewN (bl_refl v2)
      have q0_d2 : d2.cell? ⟨g7, 0, none⟩ = some (.int .i64 (2 * X + 2)) := cl_kept kb q0_v2
      have q1_d2 : d2.cell? ⟨g7, 1, none⟩ = some (.int .i64 (2 * Y + 2)) := cl_kept kb q1_v2
      have r0_d2 : d2.cell? ⟨g8, 0, none⟩ = some (.int .i64 (2 * X)) := cl_kept kb r0_v2
      have r1_d2 : d2.cell? ⟨g8, 1, none⟩ = some (.int .i64 (2 * Y + 2)) := cl_kept kb r1_v2
      have HR_d2 : Hid (Tr d2 (w.heap.size + 1 + 1) 0 0 0 ∧ Fr d2 (w.heap.size + 1 + 1) ∧ Below w.heap.size w d2) := ⟨HR_v2.out.1.kept kb, HR_v2.out.2.1.kept HR_v2.out.1.lt kb, bl_via HR_v2.out.2.2 kb⟩
      have za_d2 : g7 < d2.heap.size := World.block_lt_of_cell? (w := d2) (a := ⟨g7, 0, none⟩) q0_d2
      have zb_d2 : g8 < d2.heap.size := World.block_lt_of_cell? (w := d2) (a := ⟨g8, 0, none⟩) r0_d2
      clear hwd kb c0 c1 c2 c3 c4 c5
      clear HR_v2 q0_v2 q1_v2 r0_v2 r1_v2 za_v2 zb_v2
      rw [rounds_succ]
      go_wp2_with (go_at_call 129; refine (cornersOfW_2 _ _ _ X1.1 X1.2 Y1.1 Y1.2).mono ?_; rintro e v3 ⟨g, rfl, hg, ⟨c0, c1, c2, c3, c4, c5⟩, hb⟩; have kb := bl_via (bl_alloc (bl_refl d2)) hb; have q0_v3 : v3.cell? ⟨g7, 0, none⟩ = some (.int .i64 (2 * X + 2)) := cl_kept kb q0_d2; have q1_v3 : v3.cell? ⟨g7, 1, none⟩ = some (.int .i64 (2 * Y + 2)) := cl_kept kb q1_d2; have r0_v3 : v3.cell? ⟨g8, 0, none⟩ = some (.int .i64 (2 * X)) := cl_kept kb r0_d2; have r1_v3 : v3.cell? ⟨g8, 1, none⟩ = some (.int .i64 (2 * Y + 2)) := cl_kept kb r1_d2; have HR_v3 : Hid (Tr v3 (w.heap.size + 1 + 1) 0 0 0 ∧ Fr v3 (w.heap.size + 1 + 1) ∧ Below w.heap.size w v3) := ⟨HR_d2.out.1.kept kb, HR_d2.out.2.1.kept HR_d2.out.1.lt kb, bl_via HR_d2.out.2.2 kb⟩; have za_v3 : g7 < v3.heap.size := World.block_lt_of_cell? (w := v3) (a := ⟨g7, 0, none⟩) q0_v3; have zb_v3 : g8 < v3.heap.size := World.block_lt_of_cell? (w := v3) (a := ⟨g8, 0, none⟩) r0_v3; have e0 : v3.cell? ⟨d2.heap.size, 0, none⟩ = some (.int .i64 X) := cl_kept hb (by simp [go_sem]); have e1 : v3.cell? ⟨d2.heap.size, 1, none⟩ = some (.int .i64 Y) := cl_kept hb (by simp [go_sem]); have e2 : v3.cell? ⟨d2.heap.size, 2, none⟩ = some (.int .i64 2) := cl_kept hb (by simp [go_sem]); obtain ⟨⟨t0, t1, t2⟩, ⟨f0, f1, f2, _, _, _⟩, HB⟩ := HR_v3.out; clear hb kb hg; clear HR_d2 q0_d2 q1_d2 r0_d2 r1_d2 za_d2 zb_d2)
      go_quiet (fail)
      go_wp2
      refine bodyPost_ret (v := .agg #[.int .i64 X, .int .i64 Y, .int .i64 2]) ?_ rfl ⟨rfl, ?_⟩
      · simp [results, Tryz.results54, go_sem, t0, t1, t2]
      · with_reducible repeat' (first | exact HB | refine bl_set ?_ ?_ | refine bl_alloc ?_ | refine bl_drewN ?_)
        all_goals (first | (simp; done) | (simp; omega))
    · refine wp_loop_rounds 5 ?_
      rw [rounds_succ]
      go_wp2_with (go_at_call 129; refine (cornersOfW_0 _ _ _ X1.1 X1.2 Y1.1 Y1.2).mono ?_; rintro e v1 ⟨g, rfl, hg, ⟨c0, c1, c2, c3, c4, c5⟩, hb⟩; have kb := bl_via (bl_alloc (bl_refl d0)) hb; have q0_v1 : v1.cell? ⟨g7, 0, none⟩ = some (.int .i64 (2 * X)) := cl_kept kb q0_d0; have q1_v1 : v1.cell? ⟨g7, 1, none⟩ = some (.int .i64 (2 * Y + 2)) := cl_kept kb q1_d0; have r0_v1 : v1.cell? ⟨g8, 0, none⟩ = some (.int .i64 (2 * X + 2)) := cl_kept kb r0_d0; have r1_v1 : v1.cell? ⟨g8, 1, none⟩ = some (.int .i64 (2 * Y + 2)) := cl_kept kb r1_d0; have HR_v1 : Hid (Tr v1 (w.heap.size + 1 + 1) 0 0 0 ∧ Fr v1 (w.heap.size + 1 + 1) ∧ Below w.heap.size w v1) := ⟨HR_d0.out.1.kept kb, HR_d0.out.2.1.kept HR_d0.out.1.lt kb, bl_via HR_d0.out.2.2 kb⟩; have za_v1 : g7 < v1.heap.size := World.block_lt_of_cell? (w := v1) (a := ⟨g7, 0, none⟩) q0_v1; have zb_v1 : g8 < v1.heap.size := World.block_lt_of_cell? (w := v1) (a := ⟨g8, 0, none⟩) r0_v1; clear hb kb hg; clear HR_d0 q0_d0 q1_d0 r0_d0 r1_d0 za_d0 zb_d0)
      go_quiet (fail)
      go_wp2
      generalize hwd : World.drewN v1 nq = d1
      have kb : Below v1.heap.size v1 d1 := hwd ▸ bl_drewN (bl_refl v1)
      have q0_d1 : d1.cell? ⟨g7, 0, none⟩ = some (.int .i64 (2 * X)) := cl_kept kb q0_v1
      have q1_d1 : d1.cell? ⟨g7, 1, none⟩ = some (.int .i64 (2 * Y + 2)) := cl_kept kb q1_v1
      have r0_d1 : d1.cell? ⟨g8, 0, none⟩ = some (.int .i64 (2 * X + 2)) := cl_kept kb r0_v1
      have r1_d1 : d1.cell? ⟨g8, 1, none⟩ = some (.int .i64 (2 * Y + 2)) := cl_kept kb r1_v1
      have HR_d1 : Hid (Tr d1 (w.heap.size + 1 + 1) 0 0 0 ∧ Fr d1 (w.heap.size + 1 + 1) ∧ Below w.heap.size w d1) := ⟨HR_v1.out.1.kept kb, HR_v1.out.2.1.kept HR_v1.out.1.lt kb, bl_via HR_v1.out.2.2 kb⟩
      have za_d1 : g7 < d1.heap.size := World.block_lt_of_cell? (w := d1) (a := ⟨g7, 0, none⟩) q0_d1
      have zb_d1 : g8 < d1.heap.size := World.block_lt_of_cell? (w := d1) (a := ⟨g8, 0, none⟩) r0_d1
      clear hwd kb c0 c1 c2 c3 c4 c5
      clear HR_v1 q0_v1 q1_v1 r0_v1 r1_v1 za_v1 zb_v1
      rw [rounds_succ]
      go_wp2_with (go_at_call 129; refine (cornersOfW_1 _ _ _ X1.1 X1.2 Y1.1 Y1.2).mono ?_; rintro e v2 ⟨g, rfl, hg, ⟨c0, c1, c2, c3, c4, c5⟩, hb⟩; have kb := bl_via (bl_alloc (bl_refl d1)) hb; have q0_v2 : v2.cell? ⟨g7, 0, none⟩ = some (.int .i64 (2 * X)) := cl_kept kb q0_d1; have q1_v2 : v2.cell? ⟨g7, 1, none⟩ = some (.int .i64 (2 * Y + 2)) := cl_kept kb q1_d1; have r0_v2 : v2.cell? ⟨g8, 0, none⟩ = some (.int .i64 (2 * X + 2)) := cl_kept kb r0_d1; have r1_v2 : v2.cell? ⟨g8, 1, none⟩ = some (.int .i64 (2 * Y + 2)) := cl_kept kb r1_d1; have HR_v2 : Hid (Tr v2 (w.heap.size + 1 + 1) 0 0 0 ∧ Fr v2 (w.heap.size + 1 + 1) ∧ Below w.heap.size w v2) := ⟨HR_d1.out.1.kept kb, HR_d1.out.2.1.kept HR_d1.out.1.lt kb, bl_via HR_d1.out.2.2 kb⟩; have za_v2 : g7 < v2.heap.size := World.block_lt_of_cell? (w := v2) (a := ⟨g7, 0, none⟩) q0_v2; have zb_v2 : g8 < v2.heap.size := World.block_lt_of_cell? (w := v2) (a := ⟨g8, 0, none⟩) r0_v2; clear hb kb hg; clear HR_d1 q0_d1 q1_d1 r0_d1 r1_d1 za_d1 zb_d1)
      go_quiet (fail)
      go_wp2
      generalize hwd : World.drewN v2 nq = d2
      have kb : Below v2.heap.size v2 d2 := hwd ▸ bl_drewN (bl_refl v2)
      have q0_d2 : d2.cell? ⟨g7, 0, none⟩ = some (.int .i64 (2 * X)) := cl_kept kb q0_v2
      have q1_d2 : d2.cell? ⟨g7, 1, none⟩ = some (.int .i64 (2 * Y + 2)) := cl_kept kb q1_v2
      have r0_d2 : d2.cell? ⟨g8, 0, none⟩ = some (.int .i64 (2 * X + 2)) := cl_kept kb r0_v2
      have r1_d2 : d2.cell? ⟨g8, 1, none⟩ = some (.int .i64 (2 * Y + 2)) := cl_kept kb r1_v2
      have HR_d2 : Hid (Tr d2 (w.heap.size + 1 + 1) 0 0 0 ∧ Fr d2 (w.heap.size + 1 + 1) ∧ Below w.heap.size w d2) := ⟨HR_v2.out.1.kept kb, HR_v2.out.2.1.kept HR_v2.out.1.lt kb, bl_via HR_v2.out.2.2 kb⟩
      have za_d2 : g7 < d2.heap.size := World.block_lt_of_cell? (w := d2) (a := ⟨g7, 0, none⟩) q0_d2
      have zb_d2 : g8 < d2.heap.size := World.block_lt_of_cell? (w := d2) (a := ⟨g8, 0, none⟩) r0_d2
      clear hwd kb c0 c1 c2 c3 c4 c5
      clear HR_v2 q0_v2 q1_v2 r0_v2 r1_v2 za_v2 zb_v2
      rw [rounds_succ]
      go_wp2_with (go_at_call 129; refine (cornersOfW_2 _ _ _ X1.1 X1.2 Y1.1 Y1.2).mono ?_; rintro e v3 ⟨g, rfl, hg, ⟨c0, c1, c2, c3, c4, c5⟩, hb⟩; have kb := bl_via (bl_alloc (bl_refl d2)) hb; have q0_v3 : v3.cell? ⟨g7, 0, none⟩ = some (.int .i64 (2 * X)) := cl_kept kb q0_d2; have q1_v3 : v3.cell? ⟨g7, 1, none⟩ = some (.int .i64 (2 * Y + 2)) := cl_kept kb q1_d2; have r0_v3 : v3.cell? ⟨g8, 0, none⟩ = some (.int .i64 (2 * X + 2)) := cl_kept kb r0_d2; have r1_v3 : v3.cell? ⟨g8, 1, none⟩ = some (.int .i64 (2 * Y + 2)) := cl_kept kb r1_d2; have HR_v3 : Hid (Tr v3 (w.heap.size + 1 + 1) 0 0 0 ∧ Fr v3 (w.heap.size + 1 + 1) ∧ Below w.heap.size w v3) := ⟨HR_d2.out.1.kept kb, HR_d2.out.2.1.kept HR_d2.out.1.lt kb, bl_via HR_d2.out.2.2 kb⟩; have za_v3 : g7 < v3.heap.size := World.block_lt_of_cell? (w := v3) (a := ⟨g7, 0, none⟩) q0_v3; have zb_v3 : g8 < v3.heap.size := World.block_lt_of_cell? (w := v3) (a := ⟨g8, 0, none⟩) r0_v3; have e0 : v3.cell? ⟨d2.heap.size, 0, none⟩ = some (.int .i64 X) := cl_kept hb (by simp [go_sem]); have e1 : v3.cell? ⟨d2.heap.size, 1, none⟩ = some (.int .i64 Y) := cl_kept hb (by simp [go_sem]); have e2 : v3.cell? ⟨d2.heap.size, 2, none⟩ = some (.int .i64 2) := cl_kept hb (by simp [go_sem]); obtain ⟨⟨t0, t1, t2⟩, ⟨f0, f1, f2, _, _, _⟩, HB⟩ := HR_v3.out; clear hb kb hg; clear HR_d2 q0_d2 q1_d2 r0_d2 r1_d2 za_d2 zb_d2)
      go_quiet (fail)
      go_wp2
      refine bodyPost_ret (v := .agg #[.int .i64 X, .int .i64 Y, .int .i64 2]) ?_ rfl ⟨rfl, ?_⟩
      · simp [results, Tryz.results54, go_sem, t0, t1, t2]
      · with_reducible repeat' (first | exact HB | refine bl_set ?_ ?_ | refine bl_alloc ?_ | refine bl_drewN ?_)
        all_goals (first | (simp; done) | (simp; omega))
    · refine wp_loop_rounds 5 ?_
      rw [rounds_succ]
      go_wp2_with (go_at_call 129; refine (cornersOfW_0 _ _ _ X1.1 X1.2 Y1.1 Y1.2).mono ?_; rintro e v1 ⟨g, rfl, hg, ⟨c0, c1, c2, c3, c4, c5⟩, hb⟩; have kb := bl_via (bl_alloc (bl_refl d0)) hb; have q0_v1 : v1.cell? ⟨g7, 0, none⟩ = some (.int .i64 (2 * X)) := cl_kept kb q0_d0; have q1_v1 : v1.cell? ⟨g7, 1, none⟩ = some (.int .i64 (2 * Y + 2)) := cl_kept kb q1_d0; have r0_v1 : v1.cell? ⟨g8, 0, none⟩ = some (.int .i64 (2 * X)) := cl_kept kb r0_d0; have r1_v1 : v1.cell? ⟨g8, 1, none⟩ = some (.int .i64 (2 * Y)) := cl_kept kb r1_d0; have HR_v1 : Hid (Tr v1 (w.heap.size + 1 + 1) 0 0 0 ∧ Fr v1 (w.heap.size + 1 + 1) ∧ Below w.heap.size w v1) := ⟨HR_d0.out.1.kept kb, HR_d0.out.2.1.kept HR_d0.out.1.lt kb, bl_via HR_d0.out.2.2 kb⟩; have za_v1 : g7 < v1.heap.size := World.block_lt_of_cell? (w := v1) (a := ⟨g7, 0, none⟩) q0_v1; have zb_v1 : g8 < v1.heap.size := World.block_lt_of_cell? (w := v1) (a := ⟨g8, 0, none⟩) r0_v1; clear hb kb hg; clear HR_d0 q0_d0 q1_d0 r0_d0 r1_d0 za_d0 zb_d0)
      go_quiet (fail)
      go_wp2
      generalize hwd : World.drewN v1 nq = d1
      have kb : Below v1.heap.size v1 d1 := hwd ▸ bl_drewN (bl_refl v1)
      have q0_d1 : d1.cell? ⟨g7, 0, none⟩ = some (.int .i64 (2 * X)) := cl_kept kb q0_v1
      have q1_d1 : d1.cell? ⟨g7, 1, none⟩ = some (.int .i64 (2 * Y + 2)) := cl_kept kb q1_v1
      have r0_d1 : d1.cell? ⟨g8, 0, none⟩ = some (.int .i64 (2 * X)) := cl_kept kb r0_v1
      have r1_d1 : d1.cell? ⟨g8, 1, none⟩ = some (.int .i64 (2 * Y)) := cl_kept kb r1_v1
      have HR_d1 : Hid (Tr d1 (w.heap.size + 1 + 1) 0 0 0 ∧ Fr d1 (w.heap.size + 1 + 1) ∧ Below w.heap.size w d1) := ⟨HR_v1.out.1.kept kb, HR_v1.out.2.1.kept HR_v1.out.1.lt kb, bl_via HR_v1.out.2.2 kb⟩
      have za_d1 : g7 < d1.heap.size := World.block_lt_of_cell? (w := d1) (a := ⟨g7, 0, none⟩) q0_d1
      have zb_d1 : g8 < d1.heap.size := World.block_lt_of_cell? (w := d1) (a := ⟨g8, 0, none⟩) r0_d1
      clear hwd kb c0 c1 c2 c3 c4 c5
      clear HR_v1 q0_v1 q1_v1 r0_v1 r1_v1 za_v1 zb_v1
      rw [rounds_succ]
      go_wp2_with (go_at_call 129; refine (cornersOfW_1 _ _ _ X1.1 X1.2 Y1.1 Y1.2).mono ?_; rintro e v2 ⟨g, rfl, hg, ⟨c0, c1, c2, c3, c4, c5⟩, hb⟩; have kb := bl_via (bl_alloc (bl_refl d1)) hb; have q0_v2 : v2.cell? ⟨g7, 0, none⟩ = some (.int .i64 (2 * X)) := cl_kept kb q0_d1; have q1_v2 : v2.cell? ⟨g7, 1, none⟩ = some (.int .i64 (2 * Y + 2)) := cl_kept kb q1_d1; have r0_v2 : v2.cell? ⟨g8, 0, none⟩ = some (.int .i64 (2 * X)) := cl_kept kb r0_d1; have r1_v2 : v2.cell? ⟨g8, 1, none⟩ = some (.int .i64 (2 * Y)) := cl_kept kb r1_d1; have HR_v2 : Hid (Tr v2 (w.heap.size + 1 + 1) 0 0 0 ∧ Fr v2 (w.heap.size + 1 + 1) ∧ Below w.heap.size w v2) := ⟨HR_d1.out.1.kept kb, HR_d1.out.2.1.kept HR_d1.out.1.lt kb, bl_via HR_d1.out.2.2 kb⟩; have za_v2 : g7 < v2.heap.size := World.block_lt_of_cell? (w := v2) (a := ⟨g7, 0, none⟩) q0_v2; have zb_v2 : g8 < v2.heap.size := World.block_lt_of_cell? (w := v2) (a := ⟨g8, 0, none⟩) r0_v2; clear hb kb hg; clear HR_d1 q0_d1 q1_d1 r0_d1 r1_d1 za_d1 zb_d1)
      go_quiet (fail)
      go_wp2
      generalize hwd : World.drewN v2 nq = d2
      have kb : Below v2.heap.size v2 d2 := hwd ▸ bl_drewN (bl_refl v2)
      have q0_d2 : d2.cell? ⟨g7, 0, none⟩ = some (.int .i64 (2 * X)) := cl_kept kb q0_v2
      have q1_d2 : d2.cell? ⟨g7, 1, none⟩ = some (.int .i64 (2 * Y + 2)) := cl_kept kb q1_v2
      have r0_d2 : d2.cell? ⟨g8, 0, none⟩ = some (.int .i64 (2 * X)) := cl_kept kb r0_v2
      have r1_d2 : d2.cell? ⟨g8, 1, none⟩ = some (.int .i64 (2 * Y)) := cl_kept kb r1_v2
      have HR_d2 : Hid (Tr d2 (w.heap.size + 1 + 1) 0 0 0 ∧ Fr d2 (w.heap.size + 1 + 1) ∧ Below w.heap.size w d2) := ⟨HR_v2.out.1.kept kb, HR_v2.out.2.1.kept HR_v2.out.1.lt kb, bl_via HR_v2.out.2.2 kb⟩
      have za_d2 : g7 < d2.heap.size := World.block_lt_of_cell? (w := d2) (a := ⟨g7, 0, none⟩) q0_d2
      have zb_d2 : g8 < d2.heap.size := World.block_lt_of_cell? (w := d2) (a := ⟨g8, 0, none⟩) r0_d2
      clear hwd kb c0 c1 c2 c3 c4 c5
      clear HR_v2 q0_v2 q1_v2 r0_v2 r1_v2 za_v2 zb_v2
      rw [rounds_succ]
      go_wp2_with (go_at_call 129; refine (cornersOfW_2 _ _ _ X1.1 X1.2 Y1.1 Y1.2).mono ?_; rintro e v3 ⟨g, rfl, hg, ⟨c0, c1, c2, c3, c4, c5⟩, hb⟩; have kb := bl_via (bl_alloc (bl_refl d2)) hb; have q0_v3 : v3.cell? ⟨g7, 0, none⟩ = some (.int .i64 (2 * X)) := cl_kept kb q0_d2; have q1_v3 : v3.cell? ⟨g7, 1, none⟩ = some (.int .i64 (2 * Y + 2)) := cl_kept kb q1_d2; have r0_v3 : v3.cell? ⟨g8, 0, none⟩ = some (.int .i64 (2 * X)) := cl_kept kb r0_d2; have r1_v3 : v3.cell? ⟨g8, 1, none⟩ = some (.int .i64 (2 * Y)) := cl_kept kb r1_d2; have HR_v3 : Hid (Tr v3 (w.heap.size + 1 + 1) 0 0 0 ∧ Fr v3 (w.heap.size + 1 + 1) ∧ Below w.heap.size w v3) := ⟨HR_d2.out.1.kept kb, HR_d2.out.2.1.kept HR_d2.out.1.lt kb, bl_via HR_d2.out.2.2 kb⟩; have za_v3 : g7 < v3.heap.size := World.block_lt_of_cell? (w := v3) (a := ⟨g7, 0, none⟩) q0_v3; have zb_v3 : g8 < v3.heap.size := World.block_lt_of_cell? (w := v3) (a := ⟨g8, 0, none⟩) r0_v3; clear hb kb hg; clear HR_d2 q0_d2 q1_d2 r0_d2 r1_d2 za_d2 zb_d2)
      go_quiet (fail)
      go_wp2
      generalize hwd : World.drewN v3 nq = d3
      have kb : Below v3.heap.size v3 d3 := hwd ▸ bl_drewN (bl_refl v3)
      have q0_d3 : d3.cell? ⟨g7, 0, none⟩ = some (.int .i64 (2 * X)) := cl_kept kb q0_v3
      have q1_d3 : d3.cell? ⟨g7, 1, none⟩ = some (.int .i64 (2 * Y + 2)) := cl_kept kb q1_v3
      have r0_d3 : d3.cell? ⟨g8, 0, none⟩ = some (.int .i64 (2 * X)) := cl_kept kb r0_v3
      have r1_d3 : d3.cell? ⟨g8, 1, none⟩ = some (.int .i64 (2 * Y)) := cl_kept kb r1_v3
      have HR_d3 : Hid (Tr d3 (w.heap.size + 1 + 1) 0 0 0 ∧ Fr d3 (w.heap.size + 1 + 1) ∧ Below w.heap.size w d3) := ⟨HR_v3.out.1.kept kb, HR_v3.out.2.1.kept HR_v3.out.1.lt kb, bl_via HR_v3.out.2.2 kb⟩
      have za_d3 : g7 < d3.heap.size := World.block_lt_of_cell? (w := d3) (a := ⟨g7, 0, none⟩) q0_d3
      have zb_d3 : g8 < d3.heap.size := World.block_lt_of_cell? (w := d3) (a := ⟨g8, 0, none⟩) r0_d3
      clear hwd kb c0 c1 c2 c3 c4 c5
      clear HR_v3 q0_v3 q1_v3 r0_v3 r1_v3 za_v3 zb_v3
      rw [rounds_succ]
      go_wp2_with (go_at_call 129; refine (cornersOfW_3 _ _ _ X1.1 X1.2 Y1.1 Y1.2).mono ?_; rintro e v4 ⟨g, rfl, hg, ⟨c0, c1, c2, c3, c4, c5⟩, hb⟩; have kb := bl_via (bl_alloc (bl_refl d3)) hb; have q0_v4 : v4.cell? ⟨g7, 0, none⟩ = some (.int .i64 (2 * X)) := cl_kept kb q0_d3; have q1_v4 : v4.cell? ⟨g7, 1, none⟩ = some (.int .i64 (2 * Y + 2)) := cl_kept kb q1_d3; have r0_v4 : v4.cell? ⟨g8, 0, none⟩ = some (.int .i64 (2 * X)) := cl_kept kb r0_d3; have r1_v4 : v4.cell? ⟨g8, 1, none⟩ = some (.int .i64 (2 * Y)) := cl_kept kb r1_d3; have HR_v4 : Hid (Tr v4 (w.heap.size + 1 + 1) 0 0 0 ∧ Fr v4 (w.heap.size + 1 + 1) ∧ Below w.heap.size w v4) := ⟨HR_d3.out.1.kept kb, HR_d3.out.2.1.kept HR_d3.out.1.lt kb, bl_via HR_d3.out.2.2 kb⟩; have za_v4 : g7 < v4.heap.size := World.block_lt_of_cell? (w := v4) (a := ⟨g7, 0, none⟩) q0_v4; have zb_v4 : g8 < v4.heap.size := World.block_lt_of_cell? (w := v4) (a := ⟨g8, 0, none⟩) r0_v4; have e0 : v4.cell? ⟨d3.heap.size, 0, none⟩ = some (.int .i64 X) := cl_kept hb (by simp [go_sem]); have e1 : v4.cell? ⟨d3.heap.size, 1, none⟩ = some (.int .i64 Y) := cl_kept hb (by simp [go_sem]); have e2 : v4.cell? ⟨d3.heap.size, 2, none⟩ = some (.int .i64 3) := cl_kept hb (by simp [go_sem]); obtain ⟨⟨t0, t1, t2⟩, ⟨f0, f1, f2, _, _, _⟩, HB⟩ := HR_v4.out; clear hb kb hg; clear HR_d3 q0_d3 q1_d3 r0_d3 r1_d3 za_d3 zb_d3)
      go_quiet (fail)
      go_wp2
      refine bodyPost_ret (v := .agg #[.int .i64 X, .int .i64 Y, .int .i64 3]) ?_ rfl ⟨rfl, ?_⟩
      · simp [results, Tryz.results54, go_sem, t0, t1, t2]
      · with_reducible repeat' (first | exact HB | refine bl_set ?_ ?_ | refine bl_alloc ?_ | refine bl_drewN ?_)
        all_goals (first | (simp; done) | (simp; omega))
    · refine wp_loop_rounds 5 ?_
      rw [rounds_succ]
      go_wp2_with (go_at_call 129; refine (cornersOfW_0 _ _ _ X1.1 X1.2 Y1.1 Y1.2).mono ?_; rintro e v1 ⟨g, rfl, hg, ⟨c0, c1, c2, c3, c4, c5⟩, hb⟩; have kb := bl_via (bl_alloc (bl_refl d0)) hb; have q0_v1 : v1.cell? ⟨g7, 0, none⟩ = some (.int .i64 (2 * X)) := cl_kept kb q0_d0; have q1_v1 : v1.cell? ⟨g7, 1, none⟩ = some (.int .i64 (2 * Y)) := cl_kept kb q1_d0; have r0_v1 : v1.cell? ⟨g8, 0, none⟩ = some (.int .i64 (2 * X)) := cl_kept kb r0_d0; have r1_v1 : v1.cell? ⟨g8, 1, none⟩ = some (.int .i64 (2 * Y + 2)) := cl_kept kb r1_d0; have HR_v1 : Hid (Tr v1 (w.heap.size + 1 + 1) 0 0 0 ∧ Fr v1 (w.heap.size + 1 + 1) ∧ Below w.heap.size w v1) := ⟨HR_d0.out.1.kept kb, HR_d0.out.2.1.kept HR_d0.out.1.lt kb, bl_via HR_d0.out.2.2 kb⟩; have za_v1 : g7 < v1.heap.size := World.block_lt_of_cell? (w := v1) (a := ⟨g7, 0, none⟩) q0_v1; have zb_v1 : g8 < v1.heap.size := World.block_lt_of_cell? (w := v1) (a := ⟨g8, 0, none⟩) r0_v1; clear hb kb hg; clear HR_d0 q0_d0 q1_d0 r0_d0 r1_d0 za_d0 zb_d0)
      go_quiet (fail)
      go_wp2
      generalize hwd : World.drewN v1 nq = d1
      have kb : Below v1.heap.size v1 d1 := hwd ▸ bl_drewN (bl_refl v1)
      have q0_d1 : d1.cell? ⟨g7, 0, none⟩ = some (.int .i64 (2 * X)) := cl_kept kb q0_v1
      have q1_d1 : d1.cell? ⟨g7, 1, none⟩ = some (.int .i64 (2 * Y)) := cl_kept kb q1_v1
      have r0_d1 : d1.cell? ⟨g8, 0, none⟩ = some (.int .i64 (2 * X)) := cl_kept kb r0_v1
      have r1_d1 : d1.cell? ⟨g8, 1, none⟩ = some (.int .i64 (2 * Y + 2)) := cl_kept kb r1_v1
      have HR_d1 : Hid (Tr d1 (w.heap.size + 1 + 1) 0 0 0 ∧ Fr d1 (w.heap.size + 1 + 1) ∧ Below w.heap.size w d1) := ⟨HR_v1.out.1.kept kb, HR_v1.out.2.1.kept HR_v1.out.1.lt kb, bl_via HR_v1.out.2.2 kb⟩
      have za_d1 : g7 < d1.heap.size := World.block_lt_of_cell? (w := d1) (a := ⟨g7, 0, none⟩) q0_d1
      have zb_d1 : g8 < d1.heap.size := World.block_lt_of_cell? (w := d1) (a := ⟨g8, 0, none⟩) r0_d1
      clear hwd kb c0 c1 c2 c3 c4 c5
      clear HR_v1 q0_v1 q1_v1 r0_v1 r1_v1 za_v1 zb_v1
      rw [rounds_succ]
      go_wp2_with (go_at_call 129; refine (cornersOfW_1 _ _ _ X1.1 X1.2 Y1.1 Y1.2).mono ?_; rintro e v2 ⟨g, rfl, hg, ⟨c0, c1, c2, c3, c4, c5⟩, hb⟩; have kb := bl_via (bl_alloc (bl_refl d1)) hb; have q0_v2 : v2.cell? ⟨g7, 0, none⟩ = some (.int .i64 (2 * X)) := cl_kept kb q0_d1; have q1_v2 : v2.cell? ⟨g7, 1, none⟩ = some (.int .i64 (2 * Y)) := cl_kept kb q1_d1; have r0_v2 : v2.cell? ⟨g8, 0, none⟩ = some (.int .i64 (2 * X)) := cl_kept kb r0_d1; have r1_v2 : v2.cell? ⟨g8, 1, none⟩ = some (.int .i64 (2 * Y + 2)) := cl_kept kb r1_d1; have HR_v2 : Hid (Tr v2 (w.heap.size + 1 + 1) 0 0 0 ∧ Fr v2 (w.heap.size + 1 + 1) ∧ Below w.heap.size w v2) := ⟨HR_d1.out.1.kept kb, HR_d1.out.2.1.kept HR_d1.out.1.lt kb, bl_via HR_d1.out.2.2 kb⟩; have za_v2 : g7 < v2.heap.size := World.block_lt_of_cell? (w := v2) (a := ⟨g7, 0, none⟩) q0_v2; have zb_v2 : g8 < v2.heap.size := World.block_lt_of_cell? (w := v2) (a := ⟨g8, 0, none⟩) r0_v2; clear hb kb hg; clear HR_d1 q0_d1 q1_d1 r0_d1 r1_d1 za_d1 zb_d1)
      go_quiet (fail)
      go_wp2
      generalize hwd : World.drewN v2 nq = d2
      have kb : Below v2.heap.size v2 d2 := hwd ▸ bl_drewN (bl_refl v2)
      have q0_d2 : d2.cell? ⟨g7, 0, none⟩ = some (.int .i64 (2 * X)) := cl_kept kb q0_v2
      have q1_d2 : d2.cell? ⟨g7, 1, none⟩ = some (.int .i64 (2 * Y)) := cl_kept kb q1_v2
      have r0_d2 : d2.cell? ⟨g8, 0, none⟩ = some (.int .i64 (2 * X)) := cl_kept kb r0_v2
      have r1_d2 : d2.cell? ⟨g8, 1, none⟩ = some (.int .i64 (2 * Y + 2)) := cl_kept kb r1_v2
      have HR_d2 : Hid (Tr d2 (w.heap.size + 1 + 1) 0 0 0 ∧ Fr d2 (w.heap.size + 1 + 1) ∧ Below w.heap.size w d2) := ⟨HR_v2.out.1.kept kb, HR_v2.out.2.1.kept HR_v2.out.1.lt kb, bl_via HR_v2.out.2.2 kb⟩
      have za_d2 : g7 < d2.heap.size := World.block_lt_of_cell? (w := d2) (a := ⟨g7, 0, none⟩) q0_d2
      have zb_d2 : g8 < d2.heap.size := World.block_lt_of_cell? (w := d2) (a := ⟨g8, 0, none⟩) r0_d2
      clear hwd kb c0 c1 c2 c3 c4 c5
      clear HR_v2 q0_v2 q1_v2 r0_v2 r1_v2 za_v2 zb_v2
      rw [rounds_succ]
      go_wp2_with (go_at_call 129; refine (cornersOfW_2 _ _ _ X1.1 X1.2 Y1.1 Y1.2).mono ?_; rintro e v3 ⟨g, rfl, hg, ⟨c0, c1, c2, c3, c4, c5⟩, hb⟩; have kb := bl_via (bl_alloc (bl_refl d2)) hb; have q0_v3 : v3.cell? ⟨g7, 0, none⟩ = some (.int .i64 (2 * X)) := cl_kept kb q0_d2; have q1_v3 : v3.cell? ⟨g7, 1, none⟩ = some (.int .i64 (2 * Y)) := cl_kept kb q1_d2; have r0_v3 : v3.cell? ⟨g8, 0, none⟩ = some (.int .i64 (2 * X)) := cl_kept kb r0_d2; have r1_v3 : v3.cell? ⟨g8, 1, none⟩ = some (.int .i64 (2 * Y + 2)) := cl_kept kb r1_d2; have HR_v3 : Hid (Tr v3 (w.heap.size + 1 + 1) 0 0 0 ∧ Fr v3 (w.heap.size + 1 + 1) ∧ Below w.heap.size w v3) := ⟨HR_d2.out.1.kept kb, HR_d2.out.2.1.kept HR_d2.out.1.lt kb, bl_via HR_d2.out.2.2 kb⟩; have za_v3 : g7 < v3.heap.size := World.block_lt_of_cell? (w := v3) (a := ⟨g7, 0, none⟩) q0_v3; have zb_v3 : g8 < v3.heap.size := World.block_lt_of_cell? (w := v3) (a := ⟨g8, 0, none⟩) r0_v3; clear hb kb hg; clear HR_d2 q0_d2 q1_d2 r0_d2 r1_d2 za_d2 zb_d2)
      go_quiet (fail)
      go_wp2
      generalize hwd : World.drewN v3 nq = d3
      have kb : Below v3.heap.size v3 d3 := hwd ▸ bl_drewN (bl_refl v3)
      have q0_d3 : d3.cell? ⟨g7, 0, none⟩ = some (.int .i64 (2 * X)) := cl_kept kb q0_v3
      have q1_d3 : d3.cell? ⟨g7, 1, none⟩ = some (.int .i64 (2 * Y)) := cl_kept kb q1_v3
      have r0_d3 : d3.cell? ⟨g8, 0, none⟩ = some (.int .i64 (2 * X)) := cl_kept kb r0_v3
      have r1_d3 : d3.cell? ⟨g8, 1, none⟩ = some (.int .i64 (2 * Y + 2)) := cl_kept kb r1_v3
      have HR_d3 : Hid (Tr d3 (w.heap.size + 1 + 1) 0 0 0 ∧ Fr d3 (w.heap.size + 1 + 1) ∧ Below w.heap.size w d3) := ⟨HR_v3.out.1.kept kb, HR_v3.out.2.1.kept HR_v3.out.1.lt kb, bl_via HR_v3.out.2.2 kb⟩
      have za_d3 : g7 < d3.heap.size := World.block_lt_of_cell? (w := d3) (a := ⟨g7, 0, none⟩) q0_d3
      have zb_d3 : g8 < d3.heap.size := World.block_lt_of_cell? (w := d3) (a := ⟨g8, 0, none⟩) r0_d3
      clear hwd kb c0 c1 c2 c3 c4 c5
      clear HR_v3 q0_v3 q1_v3 r0_v3 r1_v3 za_v3 zb_v3
      rw [rounds_succ]
      go_wp2_with (go_at_call 129; refine (cornersOfW_3 _ _ _ X1.1 X1.2 Y1.1 Y1.2).mono ?_; rintro e v4 ⟨g, rfl, hg, ⟨c0, c1, c2, c3, c4, c5⟩, hb⟩; have kb := bl_via (bl_alloc (bl_refl d3)) hb; have q0_v4 : v4.cell? ⟨g7, 0, none⟩ = some (.int .i64 (2 * X)) := cl_kept kb q0_d3; have q1_v4 : v4.cell? ⟨g7, 1, none⟩ = some (.int .i64 (2 * Y)) := cl_kept kb q1_d3; have r0_v4 : v4.cell? ⟨g8, 0, none⟩ = some (.int .i64 (2 * X)) := cl_kept kb r0_d3; have r1_v4 : v4.cell? ⟨g8, 1, none⟩ = some (.int .i64 (2 * Y + 2)) := cl_kept kb r1_d3; have HR_v4 : Hid (Tr v4 (w.heap.size + 1 + 1) 0 0 0 ∧ Fr v4 (w.heap.size + 1 + 1) ∧ Below w.heap.size w v4) := ⟨HR_d3.out.1.kept kb, HR_d3.out.2.1.kept HR_d3.out.1.lt kb, bl_via HR_d3.out.2.2 kb⟩; have za_v4 : g7 < v4.heap.size := World.block_lt_of_cell? (w := v4) (a := ⟨g7, 0, none⟩) q0_v4; have zb_v4 : g8 < v4.heap.size := World.block_lt_of_cell? (w := v4) (a := ⟨g8, 0, none⟩) r0_v4; have e0 : v4.cell? ⟨d3.heap.size, 0, none⟩ = some (.int .i64 X) := cl_kept hb (by simp [go_sem]); have e1 : v4.cell? ⟨d3.heap.size, 1, none⟩ = some (.int .i64 Y) := cl_kept hb (by simp [go_sem]); have e2 : v4.cell? ⟨d3.heap.size, 2, none⟩ = some (.int .i64 3) := cl_kept hb (by simp [go_sem]); obtain ⟨⟨t0, t1, t2⟩, ⟨f0, f1, f2, _, _, _⟩, HB⟩ := HR_v4.out; clear hb kb hg; clear HR_d3 q0_d3 q1_d3 r0_d3 r1_d3 za_d3 zb_d3)
      go_quiet (fail)
      go_wp2
      refine bodyPost_ret (v := .agg #[.int .i64 X, .int .i64 Y, .int .i64 3]) ?_ rfl ⟨rfl, ?_⟩
      · simp [results, Tryz.results54, go_sem, t0, t1, t2]
      · with_reducible repeat' (first | exact HB | refine bl_set ?_ ?_ | refine bl_alloc ?_ | refine bl_drewN ?_)
        all_goals (first | (simp; done) | (simp; omega))
theorem move_data (a b c d e f x y k : Int) (h1 : mapB a b c d e f = true) (h3 : triB x y k = true) :
    ∃ X Y K q1 q2 r1 r2 : Int, (dot a b (2 * x + 1) (2 * y + 1) + e = 2 * X + 1) ∧ (dot c d (2 * x + 1) (2 * y + 1) + f = 2 * Y + 1) ∧ (0 ≤ K ∧ K ≤ 3) ∧ dot a b (outX k) (outY k) = outX K ∧ dot c d (outX k) (outY k) = outY K
      ∧ GoodG a b c d e f (c1x x k) (c1y y k) q1 q2 ∧ GoodG a b c d e f (c2x x k) (c2y y k) r1 r2 ∧ (-4000000 ≤ X ∧ X ≤ 4000000) ∧ (-4000000 ≤ Y ∧ Y ≤ 4000000) ∧ Match X Y K q1 q2 r1 r2 := by
  have hb : 0 ≤ k ∧ k ≤ 3 ∧ -1000000 ≤ x ∧ x ≤ 1000000 ∧ -1000000 ≤ y ∧ y ≤ 1000000 := by simpa [triB] using h3
  obtain ⟨k0, k3, x1, x2, y1, y2⟩ := hb
  have hk : k = 0 ∨ k = 1 ∨ k = 2 ∨ k = 3 := by omega
  have h := h1
  simp [mapB, unitB, evenB] at h
  obtain ⟨⟨hkind, e1, e2, e3⟩, f1, f2, f3⟩ := h
  obtain ⟨E, rfl⟩ : ∃ E, e = 2 * E := ⟨e / 2, by omega⟩
  obtain ⟨F, rfl⟩ : ∃ F, f = 2 * F := ⟨f / 2, by omega⟩
  clear h1 h3
  rcases hkind with ⟨⟨⟨ha, hb⟩, hc⟩, hd⟩ | ⟨⟨⟨ha, hb⟩, hc⟩, hd⟩
  · subst hb hc
    rcases ha with rfl | rfl <;> rcases hd with rfl | rfl <;> rcases hk with rfl | rfl | rfl | rfl
    · refine ⟨x + E, y + F, 0, _, _, _, _, ?_, ?_, by omega, ?_, ?_, ⟨⟨rfl, rfl⟩, ?_, ?_⟩, ⟨⟨rfl, rfl⟩, ?_, ?_⟩, by omega, by omega, ?_⟩ <;> simp [dot, outX, outY, c1x, c1y, c2x, c2y, stX, stY, Match] <;> omega
    · refine ⟨x + E, y + F, 1, _, _, _, _, ?_, ?_, by omega, ?_, ?_, ⟨⟨rfl, rfl⟩, ?_, ?_⟩, ⟨⟨rfl, rfl⟩, ?_, ?_⟩, by omega, by omega, ?_⟩ <;> simp [dot, outX, outY, c1x, c1y, c2x, c2y, stX, stY, Match] <;> omega
    · refine ⟨x + E, y + F, 2, _, _, _, _, ?_, ?_, by omega, ?_, ?_, ⟨⟨rfl, rfl⟩, ?_, ?_⟩, ⟨⟨rfl, rfl⟩, ?_, ?_⟩, by omega, by omega, ?_⟩ <;> simp [dot, outX, outY, c1x, c1y, c2x, c2y, stX, stY, Match] <;> omega
    · refine ⟨x + E, y + F, 3, _, _, _, _, ?_, ?_, by omega, ?_, ?_, ⟨⟨rfl, rfl⟩, ?_, ?_⟩, ⟨⟨rfl, rfl⟩, ?_, ?_⟩, by omega, by omega, ?_⟩ <;> simp [dot, outX, outY, c1x, c1y, c2x, c2y, stX, stY, Match] <;> omega
    · refine ⟨x + E, -y - 1 + F, 2, _, _, _, _, ?_, ?_, by omega, ?_, ?_, ⟨⟨rfl, rfl⟩, ?_, ?_⟩, ⟨⟨rfl, rfl⟩, ?_, ?_⟩, by omega, by omega, ?_⟩ <;> simp [dot, outX, outY, c1x, c1y, c2x, c2y, stX, stY, Match] <;> omega
    · refine ⟨x + E, -y - 1 + F, 1, _, _, _, _, ?_, ?_, by omega, ?_, ?_, ⟨⟨rfl, rfl⟩, ?_, ?_⟩, ⟨⟨rfl, rfl⟩, ?_, ?_⟩, by omega, by omega, ?_⟩ <;> simp [dot, outX, outY, c1x, c1y, c2x, c2y, stX, stY, Match] <;> omega
    · refine ⟨x + E, -y - 1 + F, 0, _, _, _, _, ?_, ?_, by omega, ?_, ?_, ⟨⟨rfl, rfl⟩, ?_, ?_⟩, ⟨⟨rfl, rfl⟩, ?_, ?_⟩, by omega, by omega, ?_⟩ <;> simp [dot, outX, outY, c1x, c1y, c2x, c2y, stX, stY, Match] <;> omega
    · refine ⟨x + E, -y - 1 + F, 3, _, _, _, _, ?_, ?_, by omega, ?_, ?_, ⟨⟨rfl, rfl⟩, ?_, ?_⟩, ⟨⟨rfl, rfl⟩, ?_, ?_⟩, by omega, by omega, ?_⟩ <;> simp [dot, outX, outY, c1x, c1y, c2x, c2y, stX, stY, Match] <;> omega
    · refine ⟨-x - 1 + E, y + F, 0, _, _, _, _, ?_, ?_, by omega, ?_, ?_, ⟨⟨rfl, rfl⟩, ?_, ?_⟩, ⟨⟨rfl, rfl⟩, ?_, ?_⟩, by omega, by omega, ?_⟩ <;> simp [dot, outX, outY, c1x, c1y, c2x, c2y, stX, stY, Match] <;> omega
    · refine ⟨-x - 1 + E, y + F, 3, _, _, _, _, ?_, ?_, by omega, ?_, ?_, ⟨⟨rfl, rfl⟩, ?_, ?_⟩, ⟨⟨rfl, rfl⟩, ?_, ?_⟩, by omega, by omega, ?_⟩ <;> simp [dot, outX, outY, c1x, c1y, c2x, c2y, stX, stY, Match] <;> omega
    · refine ⟨-x - 1 + E, y + F, 2, _, _, _, _, ?_, ?_, by omega, ?_, ?_, ⟨⟨rfl, rfl⟩, ?_, ?_⟩, ⟨⟨rfl, rfl⟩, ?_, ?_⟩, by omega, by omega, ?_⟩ <;> simp [dot, outX, outY, c1x, c1y, c2x, c2y, stX, stY, Match] <;> omega
    · refine ⟨-x - 1 + E, y + F, 1, _, _, _, _, ?_, ?_, by omega, ?_, ?_, ⟨⟨rfl, rfl⟩, ?_, ?_⟩, ⟨⟨rfl, rfl⟩, ?_, ?_⟩, by omega, by omega, ?_⟩ <;> simp [dot, outX, outY, c1x, c1y, c2x, c2y, stX, stY, Match] <;> omega
    · refine ⟨-x - 1 + E, -y - 1 + F, 2, _, _, _, _, ?_, ?_, by omega, ?_, ?_, ⟨⟨rfl, rfl⟩, ?_, ?_⟩, ⟨⟨rfl, rfl⟩, ?_, ?_⟩, by omega, by omega, ?_⟩ <;> simp [dot, outX, outY, c1x, c1y, c2x, c2y, stX, stY, Match] <;> omega
    · refine ⟨-x - 1 + E, -y - 1 + F, 3, _, _, _, _, ?_, ?_, by omega, ?_, ?_, ⟨⟨rfl, rfl⟩, ?_, ?_⟩, ⟨⟨rfl, rfl⟩, ?_, ?_⟩, by omega, by omega, ?_⟩ <;> simp [dot, outX, outY, c1x, c1y, c2x, c2y, stX, stY, Match] <;> omega
    · refine ⟨-x - 1 + E, -y - 1 + F, 0, _, _, _, _, ?_, ?_, by omega, ?_, ?_, ⟨⟨rfl, rfl⟩, ?_, ?_⟩, ⟨⟨rfl, rfl⟩, ?_, ?_⟩, by omega, by omega, ?_⟩ <;> simp [dot, outX, outY, c1x, c1y, c2x, c2y, stX, stY, Match] <;> omega
    · refine ⟨-x - 1 + E, -y - 1 + F, 1, _, _, _, _, ?_, ?_, by omega, ?_, ?_, ⟨⟨rfl, rfl⟩, ?_, ?_⟩, ⟨⟨rfl, rfl⟩, ?_, ?_⟩, by omega, by omega, ?_⟩ <;> simp [dot, outX, outY, c1x, c1y, c2x, c2y, stX, stY, Match] <;> omega
  · subst ha hd
    rcases hb with rfl | rfl <;> rcases hc with rfl | rfl <;> rcases hk with rfl | rfl | rfl | rfl
    · refine ⟨y + E, x + F, 3, _, _, _, _, ?_, ?_, by omega, ?_, ?_, ⟨⟨rfl, rfl⟩, ?_, ?_⟩, ⟨⟨rfl, rfl⟩, ?_, ?_⟩, by omega, by omega, ?_⟩ <;> simp [dot, outX, outY, c1x, c1y, c2x, c2y, stX, stY, Match] <;> omega
    · refine ⟨y + E, x + F, 2, _, _, _, _, ?_, ?_, by omega, ?_, ?_, ⟨⟨rfl, rfl⟩, ?_, ?_⟩, ⟨⟨rfl, rfl⟩, ?_, ?_⟩, by omega, by omega, ?_⟩ <;> simp [dot, outX, outY, c1x, c1y, c2x, c2y, stX, stY, Match] <;> omega
    · refine ⟨y + E, x + F, 1, _, _, _, _, ?_, ?_, by omega, ?_, ?_, ⟨⟨rfl, rfl⟩, ?_, ?_⟩, ⟨⟨rfl, rfl⟩, ?_, ?_⟩, by omega, by omega, ?_⟩ <;> simp [dot, outX, outY, c1x, c1y, c2x, c2y, stX, stY, Match] <;> omega
    · refine ⟨y + E, x + F, 0, _, _, _, _, ?_, ?_, by omega, ?_, ?_, ⟨⟨rfl, rfl⟩, ?_, ?_⟩, ⟨⟨rfl, rfl⟩, ?_, ?_⟩, by omega, by omega, ?_⟩ <;> simp [dot, outX, outY, c1x, c1y, c2x, c2y, stX, stY, Match] <;> omega
    · refine ⟨y + E, -x - 1 + F, 3, _, _, _, _, ?_, ?_, by omega, ?_, ?_, ⟨⟨rfl, rfl⟩, ?_, ?_⟩, ⟨⟨rfl, rfl⟩, ?_, ?_⟩, by omega, by omega, ?_⟩ <;> simp [dot, outX, outY, c1x, c1y, c2x, c2y, stX, stY, Match] <;> omega
    · refine ⟨y + E, -x - 1 + F, 0, _, _, _, _, ?_, ?_, by omega, ?_, ?_, ⟨⟨rfl, rfl⟩, ?_, ?_⟩, ⟨⟨rfl, rfl⟩, ?_, ?_⟩, by omega, by omega, ?_⟩ <;> simp [dot, outX, outY, c1x, c1y, c2x, c2y, stX, stY, Match] <;> omega
    · refine ⟨y + E, -x - 1 + F, 1, _, _, _, _, ?_, ?_, by omega, ?_, ?_, ⟨⟨rfl, rfl⟩, ?_, ?_⟩, ⟨⟨rfl, rfl⟩, ?_, ?_⟩, by omega, by omega, ?_⟩ <;> simp [dot, outX, outY, c1x, c1y, c2x, c2y, stX, stY, Match] <;> omega
    · refine ⟨y + E, -x - 1 + F, 2, _, _, _, _, ?_, ?_, by omega, ?_, ?_, ⟨⟨rfl, rfl⟩, ?_, ?_⟩, ⟨⟨rfl, rfl⟩, ?_, ?_⟩, by omega, by omega, ?_⟩ <;> simp [dot, outX, outY, c1x, c1y, c2x, c2y, stX, stY, Match] <;> omega
    · refine ⟨-y - 1 + E, x + F, 1, _, _, _, _, ?_, ?_, by omega, ?_, ?_, ⟨⟨rfl, rfl⟩, ?_, ?_⟩, ⟨⟨rfl, rfl⟩, ?_, ?_⟩, by omega, by omega, ?_⟩ <;> simp [dot, outX, outY, c1x, c1y, c2x, c2y, stX, stY, Match] <;> omega
    · refine ⟨-y - 1 + E, x + F, 2, _, _, _, _, ?_, ?_, by omega, ?_, ?_, ⟨⟨rfl, rfl⟩, ?_, ?_⟩, ⟨⟨rfl, rfl⟩, ?_, ?_⟩, by omega, by omega, ?_⟩ <;> simp [dot, outX, outY, c1x, c1y, c2x, c2y, stX, stY, Match] <;> omega
    · refine ⟨-y - 1 + E, x + F, 3, _, _, _, _, ?_, ?_, by omega, ?_, ?_, ⟨⟨rfl, rfl⟩, ?_, ?_⟩, ⟨⟨rfl, rfl⟩, ?_, ?_⟩, by omega, by omega, ?_⟩ <;> simp [dot, outX, outY, c1x, c1y, c2x, c2y, stX, stY, Match] <;> omega
    · refine ⟨-y - 1 + E, x + F, 0, _, _, _, _, ?_, ?_, by omega, ?_, ?_, ⟨⟨rfl, rfl⟩, ?_, ?_⟩, ⟨⟨rfl, rfl⟩, ?_, ?_⟩, by omega, by omega, ?_⟩ <;> simp [dot, outX, outY, c1x, c1y, c2x, c2y, stX, stY, Match] <;> omega
    · refine ⟨-y - 1 + E, -x - 1 + F, 1, _, _, _, _, ?_, ?_, by omega, ?_, ?_, ⟨⟨rfl, rfl⟩, ?_, ?_⟩, ⟨⟨rfl, rfl⟩, ?_, ?_⟩, by omega, by omega, ?_⟩ <;> simp [dot, outX, outY, c1x, c1y, c2x, c2y, stX, stY, Match] <;> omega
    · refine ⟨-y - 1 + E, -x - 1 + F, 0, _, _, _, _, ?_, ?_, by omega, ?_, ?_, ⟨⟨rfl, rfl⟩, ?_, ?_⟩, ⟨⟨rfl, rfl⟩, ?_, ?_⟩, by omega, by omega, ?_⟩ <;> simp [dot, outX, outY, c1x, c1y, c2x, c2y, stX, stY, Match] <;> omega
    · refine ⟨-y - 1 + E, -x - 1 + F, 3, _, _, _, _, ?_, ?_, by omega, ?_, ?_, ⟨⟨rfl, rfl⟩, ?_, ?_⟩, ⟨⟨rfl, rfl⟩, ?_, ?_⟩, by omega, by omega, ?_⟩ <;> simp [dot, outX, outY, c1x, c1y, c2x, c2y, stX, stY, Match] <;> omega
    · refine ⟨-y - 1 + E, -x - 1 + F, 2, _, _, _, _, ?_, ?_, by omega, ?_, ?_, ⟨⟨rfl, rfl⟩, ?_, ?_⟩, ⟨⟨rfl, rfl⟩, ?_, ?_⟩, by omega, by omega, ?_⟩ <;> simp [dot, outX, outY, c1x, c1y, c2x, c2y, stX, stY, Match] <;> omega

end Go.Proofs.YtnpboeodhpenmaaGreatDoor
