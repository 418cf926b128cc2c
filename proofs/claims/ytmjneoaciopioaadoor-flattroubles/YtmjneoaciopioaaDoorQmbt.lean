/- A part of the proof of a law on sheets. -/
import Derived.Test.YtmjneoaciopioaaDoorQmbs
namespace Go.Proofs.YtmjneoaciopioaaDoor
open Go.RowKit

set_option maxRecDepth 100000 in
set_option maxHeartbeats 3200000 in
theorem toward_any (px py : Int) (d : Nat) (hd : d < 8) (h1 : -100 ≤ px ∧ px ≤ 100) (h2 : -100 ≤ py ∧ py ≤ 100) (w : World) :
    Calls Tryd.prog 38 #[.agg #[.int .i64 px, .int .i64 py], .int .i64 (d : Int)] w fun e w' => e = .returned (.agg #[.int .i64 (tw (px, py) d).1, .int .i64 (tw (px, py) d).2]) ∧ Below w.heap.size w w' := by
  obtain ⟨X, hX⟩ : ∃ x, x = dX d := ⟨_, rfl⟩
  obtain ⟨Y, hY⟩ : ∃ x, x = dY d := ⟨_, rfl⟩
  have HXY : Hid (X = dX d ∧ Y = dY d) := ⟨hX, hY⟩
  have bX : -1 ≤ X ∧ X ≤ 1 := by rw [hX]; unfold dX; repeat' split; all_goals omega
  have bY : -1 ≤ Y ∧ Y ≤ 1 := by rw [hY]; unfold dY; repeat' split; all_goals omega
  clear hX hY
  have i1 : (d : Int) < 8 := by omega
  have i0 : (0 : Int) ≤ (d : Int) := by omega
  have t1 : ((d : Int)).tmod 2 = (d : Int) % 2 := Int.tmod_eq_emod_of_nonneg (by omega)
  go_enter Tryd.func38, Tryd.ntmps38
  by_cases q : (d : Int) % 2 = 1
  · have qb : ((d : Int) % 2 == 1) = true := by simpa using q
    have HQ : Hid (tw (px, py) d = (px + X, py + Y)) := by
      have e : d % 2 = 1 := by omega
      have : tw (px, py) d = (px + X, py + Y) := by
        rw [tw, HXY.out.1, HXY.out.2]
        simp [e]
      exact this
    clear q
    go_upto_region 6 with (fail)
    refine wp_named (fun W0 hW0 => ?_)
    have x0 : W0.cell? ⟨w.heap.size, 0, none⟩ = some (.int .i64 px) := by rw [hW0]; simp [go_sem]
    have x1 : W0.cell? ⟨w.heap.size, 1, none⟩ = some (.int .i64 py) := by rw [hW0]; simp [go_sem]
    have r0 : W0.cell? ⟨w.heap.size + 1, 0, none⟩ = some (.int .i64 0) := by rw [hW0]; simp [go_sem]
    have r1 : W0.cell? ⟨w.heap.size + 1, 1, none⟩ = some (.int .i64 0) := by rw [hW0]; simp [go_sem]
    have f0 : W0.frozen? ⟨w.heap.size + 1, 0, none⟩ = false := by rw [hW0]; simp [go_sem]
    have f1 : W0.frozen? ⟨w.heap.size + 1, 1, none⟩ = false := by rw [hW0]; simp [go_sem]
    have c0 : W0.cell? ⟨w.heap.size + 1 + 1, d, none⟩ = some (.int .i64 X) := by
      rw [hW0, HXY.out.1]
      rcases eight hd with rfl | rfl | rfl | rfl | rfl | rfl | rfl | rfl <;> simp [go_sem, dX]
    have c1 : W0.cell? ⟨w.heap.size + 1 + 1 + 1, d, none⟩ = some (.int .i64 Y) := by
      rw [hW0, HXY.out.2]
      rcases eight hd with rfl | rfl | rfl | rfl | rfl | rfl | rfl | rfl <;> simp [go_sem, dY]
    have HB : Hid (Below w.heap.size w W0) := by
      have : Below w.heap.size w W0 := by rw [hW0]; exact bl_alloc (bl_alloc (bl_alloc (bl_alloc (bl_refl _))))
      exact this
    have z0 : w.heap.size < W0.heap.size := World.block_lt_of_cell? _ _ x0
    have z1 : w.heap.size + 1 < W0.heap.size := World.block_lt_of_cell? _ _ r0
    have z2 : w.heap.size + 1 + 1 < W0.heap.size := World.block_lt_of_cell? _ _ c0
    have z3 : w.heap.size + 1 + 1 + 1 < W0.heap.size := World.block_lt_of_cell? _ _ c1
    clear hW0
    have kc := Kin.cells W0
    have kn : Nonempty (Kin W0) := ⟨⟨W0, bl_refl _⟩⟩
    refine wp_region_kin_last 19 (by kernel_rfl) (by kernel_rfl) (by kernel_rfl) (by rfl) ?_
    simp only [List.take_succ_cons, List.take_zero]
    repeat (go_big_quiet_step (fail))
    refine wpQuiet_nil ?_
    intro wq hw'
    obtain ⟨nq, hw''⟩ := hw'
    have hq : Below W0.heap.size W0 wq := hw'' ▸ nq.h
    have y0 := cl_kept hq r0
    have y1 := cl_kept hq r1
    have g0 := fr_kept hq r0 f0
    have g1 := fr_kept hq r1 f1
    have zq : w.heap.size + 1 < wq.heap.size := World.block_lt_of_cell? _ _ y0
    have HBq : Hid (Below w.heap.size w wq) := bl_via HB.out hq
    clear hw'' nq hq kc kn x0 x1 r0 r1 f0 f1 c0 c1 z0 z1 z2 z3
    simp only [List.drop_succ_cons, List.drop_zero]
    go_wp2
    refine bodyPost_ret (v := .agg #[.int .i64 (px + X), .int .i64 (py + Y)]) (by simp [results, Tryd.results38, go_sem, y0, y1]) rfl ⟨?_, ?_⟩
    · rw [HQ.out]
    · with_reducible repeat (first | exact HBq.out | refine bl_set ?_ ?_)
      all_goals (dsimp only; omega)
  · have qb : ((d : Int) % 2 == 1) = false := by simpa using q
    have HQ : Hid (tw (px, py) d = (px + 2 * X, py + 2 * Y)) := by
      have e : ¬ d % 2 = 1 := by omega
      have : tw (px, py) d = (px + 2 * X, py + 2 * Y) := by
        rw [tw, HXY.out.1, HXY.out.2]
        simp [e]
      exact this
    clear q
    go_upto_region 6 with (fail)
    refine wp_named (fun W0 hW0 => ?_)
    have x0 : W0.cell? ⟨w.heap.size, 0, none⟩ = some (.int .i64 px) := by rw [hW0]; simp [go_sem]
    have x1 : W0.cell? ⟨w.heap.size, 1, none⟩ = some (.int .i64 py) := by rw [hW0]; simp [go_sem]
    have r0 : W0.cell? ⟨w.heap.size + 1, 0, none⟩ = some (.int .i64 0) := by rw [hW0]; simp [go_sem]
    have r1 : W0.cell? ⟨w.heap.size + 1, 1, none⟩ = some (.int .i64 0) := by rw [hW0]; simp [go_sem]
    have f0 : W0.frozen? ⟨w.heap.size + 1, 0, none⟩ = false := by rw [hW0]; simp [go_sem]
    have f1 : W0.frozen? ⟨w.heap.size + 1, 1, none⟩ = false := by rw [hW0]; simp [go_sem]
    have c0 : W0.cell? ⟨w.heap.size + 1 + 1, d, none⟩ = some (.int .i64 X) := by
      rw [hW0, HXY.out.1]
      rcases eight hd with rfl | rfl | rfl | rfl | rfl | rfl | rfl | rfl <;> simp [go_sem, dX]
    have c1 : W0.cell? ⟨w.heap.size + 1 + 1 + 1, d, none⟩ = some (.int .i64 Y) := by
      rw [hW0, HXY.out.2]
      rcases eight hd with rfl | rfl | rfl | rfl | rfl | rfl | rfl | rfl <;> simp [go_sem, dY]
    have HB : Hid (Below w.heap.size w W0) := by
      have : Below w.heap.size w W0 := by rw [hW0]; exact bl_alloc (bl_alloc (bl_alloc (bl_alloc (bl_refl _))))
      exact this
    have z0 : w.heap.size < W0.heap.size := World.block_lt_of_cell? _ _ x0
    have z1 : w.heap.size + 1 < W0.heap.size := World.block_lt_of_cell? _ _ r0
    have z2 : w.heap.size + 1 + 1 < W0.heap.size := World.block_lt_of_cell? _ _ c0
    have z3 : w.heap.size + 1 + 1 + 1 < W0.heap.size := World.block_lt_of_cell? _ _ c1
    clear hW0
    have kc := Kin.cells W0
    have kn : Nonempty (Kin W0) := ⟨⟨W0, bl_refl _⟩⟩
    refine wp_region_kin_last 19 (by kernel_rfl) (by kernel_rfl) (by kernel_rfl) (by rfl) ?_
    simp only [List.take_succ_cons, List.take_zero]
    repeat (go_big_quiet_step (fail))
    refine wpQuiet_nil ?_
    intro wq hw'
    obtain ⟨nq, hw''⟩ := hw'
    have hq : Below W0.heap.size W0 wq := hw'' ▸ nq.h
    have y0 := cl_kept hq r0
    have y1 := cl_kept hq r1
    have g0 := fr_kept hq r0 f0
    have g1 := fr_kept hq r1 f1
    have zq : w.heap.size + 1 < wq.heap.size := World.block_lt_of_cell? _ _ y0
    have HBq : Hid (Below w.heap.size w wq) := bl_via HB.out hq
    clear hw'' nq hq kc kn x0 x1 r0 r1 f0 f1 c0 c1 z0 z1 z2 z3
    simp only [List.drop_succ_cons, List.drop_zero]
    go_wp2
    refine bodyPost_ret (v := .agg #[.int .i64 (px + 2 * X), .int .i64 (py + 2 * Y)]) (by simp [results, Tryd.results38, go_sem, y0, y1]) rfl ⟨?_, ?_⟩
    · rw [HQ.out]
    · with_reducible repeat (first | exact HBq.out | refine bl_set ?_ ?_)
      all_goals (dsimp only; omega)
end Go.Proofs.YtmjneoaciopioaaDoor
namespace Go.Proofs.YtmjneoaciopioaaDoor
open Go.RowKit Go.ChangeMaps

theorem edgeOf_kin (a b c d : Int) (w : World) : Calls Tryd.prog 37 #[.agg #[.int .i64 a, .int .i64 b], .agg #[.int .i64 c, .int .i64 d]] w fun r w' => r = .returned (.agg #[.int .i64 (eA a b c d), .int .i64 (eB a b c d), .int .i64 (eC a b c d), .int .i64 (eD a b c d)]) ∧ Below w.heap.size w w' := by
  refine (edgeOf_num a b c d w).mono ?_
  rintro e w' ⟨rfl, o1, o2, o3, o4, o5, rfl⟩
  exact ⟨rfl, bl_alloc (bl_alloc (bl_alloc (bl_alloc (bl_alloc (bl_refl _)))))⟩
theorem cnr_bd {t : Int × Int × Int} {pt : Int × Int} (h : (0 ≤ t.1 ∧ t.1 ≤ 8) ∧ (0 ≤ t.2.1 ∧ t.2.1 ≤ 8) ∧ (0 ≤ t.2.2 ∧ t.2.2 ≤ 3)) (hc : pt ∈ cnr t) : (0 ≤ pt.1 ∧ pt.1 ≤ 100) ∧ (0 ≤ pt.2 ∧ pt.2 ≤ 100) := by
  obtain ⟨x, y, k⟩ := t
  simp only [cnr, List.mem_cons, List.not_mem_nil, or_false] at hc h
  have hk : k = 0 ∨ k = 1 ∨ k = 2 ∨ k = 3 := by omega
  rcases hk with rfl | rfl | rfl | rfl <;> rcases hc with rfl | rfl | rfl <;> simp [c1x, c1y, c2x, c2y, stX, stY] <;> omega
theorem filter_no {pts : List (Int × Int)} {g : Int × Int → Bool} {i : Nat} (h : i < pts.length) (hg : g pts[i] = false) : (pts.take (i + 1)).filter g = (pts.take i).filter g := by
  rw [List.take_succ_eq_append_getElem h, List.filter_append]
  simp [hg]
theorem filter_yes {pts : List (Int × Int)} {g : Int × Int → Bool} {i : Nat} (h : i < pts.length) (hg : g pts[i] = true) : (pts.take (i + 1)).filter g = (pts.take i).filter g ++ [pts[i]] := by
  rw [List.take_succ_eq_append_getElem h, List.filter_append]
  simp [hg]
set_option maxRecDepth 100000 in
set_option maxHeartbeats 6400000 in
theorem refStars_any (W H b off cap n ccap : Nat) (cb : Option Addr) (zs ks : List Int) (w : World) (hr : Row w (some ⟨b, off, none⟩) zs) (hW : 1 ≤ W ∧ W ≤ 8) (hH : 1 ≤ H ∧ H ≤ 8) (hl : zs.length = W * H) (hm : maskB zs = true) (hk : Row w cb ks) (hn : ks.length = n * 5) (hn2 : n ≤ 3518437208883) (h1 : CrOne ks n) :
    Calls Tryd.prog 15 #[.agg #[.int .i64 (W : Int), .int .i64 (H : Int), .slice (some ⟨b, off, none⟩) zs.length cap, .slice cb n ccap]] w fun e w' => RefA (ty zs W H) (fun pt d => kdn ks n (eP pt d)) w w' e := by
  have CT : Hid (∀ W' : World, Below w.heap.size w W' → Calls Tryd.prog 30 #[.agg #[.int .i64 (W : Int), .int .i64 (H : Int), .slice (some ⟨b, off, none⟩) zs.length cap, .slice cb n ccap]] W' fun e w' => ∃ v, e = .returned v ∧ w'.ownsRow (W'.heap.size + 1) 80 3 v (ty zs W H).length (flatV (ty zs W H)) ∧ Below W'.heap.size W' w') := fun W' hW' => trisOf_any W H b off cap zs _ W' (hr.kept hW') hW hH hl hm
  have CP : Hid (∀ W' : World, Below w.heap.size w W' → Calls Tryd.prog 33 #[.agg #[.int .i64 (W : Int), .int .i64 (H : Int), .slice (some ⟨b, off, none⟩) zs.length cap, .slice cb n ccap]] W' fun e w' => ∃ v pts, e = .returned v ∧ w'.ownsRow W'.heap.size 43 2 v pts.length (flatP pts) ∧ SPt pts ((ty zs W H).flatMap cnr) ∧ pts.length ≤ 3 * (ty zs W H).length ∧ Below W'.heap.size W' w') := fun W' hW' => refPoints_any W H b off cap zs _ W' (hr.kept hW') hW hH hl hm
  have HBD : Hid (∀ t ∈ ty zs W H, (0 ≤ t.1 ∧ t.1 ≤ 8) ∧ (0 ≤ t.2.1 ∧ t.2.1 ≤ 8) ∧ (0 ≤ t.2.2 ∧ t.2.2 ≤ 3)) := ty_bd hW.2 hH.2
  have hlen : (ty zs W H).length ≤ 256 := by have := ty_len zs W H hW.2; omega
  have CK : Hid (∀ (W' : World) (p q r s : Int), Below w.heap.size w W' → Calls Tryd.prog 36 #[.agg #[.int .i64 (W : Int), .int .i64 (H : Int), .slice (some ⟨b, off, none⟩) zs.length cap, .slice cb n ccap], .agg #[.int .i64 p, .int .i64 q, .int .i64 r, .int .i64 s]] W' fun e w' => e = .returned (.int .i64 (kdn ks n (p, q, r, s))) ∧ Below W'.heap.size W' w') := fun W' p q r s hW' => kindOf_any W' _ _ _ cb n ccap ks p q r s (row_crow (hk.kept hW') hn) h1 hn2
  obtain ⟨i3, hI⟩ := info_parts inf3'
  have HI : Hid (Tryd.prog.info? 3 = some i3 ∧ i3.zero = some (.int .i64 0) ∧ i3.size = 1 ∧ i3.bytes = 8) := hI
  clear hI
  obtain ⟨iS, hI⟩ := info_parts infStr
  have HIS : Hid (Tryd.prog.info? 45 = some iS ∧ iS.zero = some (.agg #[.int .i64 0, .int .i64 0, .slice none 0 0, .slice none 0 0]) ∧ iS.size = 4 ∧ iS.bytes = 64) := hI
  clear hI
  obtain ⟨f, hf⟩ : ∃ f : Int × Int → Nat → Int, f = fun pt d => kdn ks n (eP pt d) := ⟨_, rfl⟩
  rw [← hf]
  have HF : Hid (f = fun pt d => kdn ks n (eP pt d)) := hf
  obtain ⟨L, hL⟩ : ∃ L, L = ty zs W H := ⟨_, rfl⟩
  rw [← hL] at CT CP HBD hlen ⊢
  clear hr hW hH hl hm hk hn h1 hL hf
  have he := eql25
  go_enter Tryd.func15, Tryd.ntmps15
  go_upto_region 4 with (first
    | (go_at_call 30; refine (CT.out _ (by with_reducible exact bl_alloc (bl_refl _))).mono ?_; rintro e w1 ⟨v, rfl, ho, hb⟩; obtain ⟨aT, cT, rfl, hT⟩ := own_tris ho; have HT1 : Hid (TRow w1 aT L ∧ Below w.heap.size w w1) := ⟨hT, bl_via (bl_alloc (bl_refl _)) hb⟩; have HS1 : Hid (Sh w1 w.heap.size (.int .i64 (W : Int)) (.int .i64 (H : Int)) (.slice (some ⟨b, off, none⟩) zs.length cap) (.slice cb n ccap)) := (Sh.kept (w := w.alloc (.cells #[.int .i64 (W : Int), .int .i64 (H : Int), .slice (some ⟨b, off, none⟩) zs.length cap, .slice cb n ccap] 25)) ⟨by simp [go_sem], by simp [go_sem], by simp [go_sem], by simp [go_sem]⟩ hb); obtain ⟨s0, s1, s2, s3⟩ := HS1.out; have zs1 : w.heap.size < w1.heap.size := World.block_lt_of_cell? _ _ s0; clear hT ho hb)
    | (go_at_call 33; refine (CP.out _ HT1.out.2).mono ?_; rintro e w2 ⟨v, pts, rfl, ho, hsp, hpl, hb⟩; obtain ⟨aP, cP, rfl, hPR⟩ := own_points ho; have H2 : Hid (TRow w2 aT L ∧ PRow w2 aP pts ∧ Sh w2 w.heap.size (.int .i64 (W : Int)) (.int .i64 (H : Int)) (.slice (some ⟨b, off, none⟩) zs.length cap) (.slice cb n ccap) ∧ Below w.heap.size w w2 ∧ SPt pts (L.flatMap cnr)) := ⟨HT1.out.1.kept hb, hPR, HS1.out.kept hb, bl_via HT1.out.2 hb, hsp⟩; clear ho hsp hPR hb s0 s1 s2 s3 zs1 HT1 HS1))
  have HPB : Hid (∀ pt ∈ pts, (0 ≤ pt.1 ∧ pt.1 ≤ 100) ∧ (0 ≤ pt.2 ∧ pt.2 ≤ 100)) := fun pt hpt => by
    obtain ⟨t, ht, hc⟩ := List.mem_flatMap.1 ((H2.out.2.2.2.2.2 pt).1 hpt)
    exact cnr_bd (HBD.out t ht) hc
  go_wp2
  go_loopg [5, 6] pts.length (fun gk s5 s6 wx => ∃ (i : Nat) (A : List SA), i ≤ pts.length ∧ gk = pts.length - i ∧ s6 = .int .i64 (i : Int) ∧ A.map (fun a => a.1) = (pts.take i).filter (gref L f) ∧ RT w2 wx w.heap.size s5 f A)
  case atStart => exact ⟨0, [], by omega, rfl, rfl, by simp, RT.start w2 _ f⟩
  case round =>
    obtain ⟨i, A, hi, rfl, rfl, hA, hR⟩ := hrel
    obtain ⟨a5, c5, rfl⟩ := own_slice hR.own
    have HR : Hid (RT w2 wr w.heap.size (.slice a5 A.length c5) f A) := hR
    have HA : Hid (A.map (fun a => a.1) = (pts.take i).filter (gref L f)) := hA
    have hA9 : A.length ≤ 800 := by
      have h8 : (A.map (fun a => a.1)).length ≤ (pts.take i).length := by rw [hA]; exact List.length_filter_le ..
      rw [List.length_map, List.length_take] at h8
      omega
    clear hA hR
    by_cases h1 : i < pts.length
    · have i1 : (i : Int) < (pts.length : Int) := by omega
      have i0 : (0 : Int) ≤ (i : Int) := by omega
      obtain ⟨gp, rfl, e0, e1⟩ := H2.out.2.1 i h1
      obtain ⟨pt, hpt⟩ : ∃ p, p = pts[i] := ⟨_, rfl⟩
      obtain ⟨px, py⟩ := pt
      have hpb := HPB.out _ (List.getElem_mem h1)
      rw [← hpt] at e0 e1 hpb
      dsimp only at e0 e1 hpb
      have HPT : Hid ((px, py) = pts[i]) := hpt
      replace e0 := cl_kept HR.out.b e0
      replace e1 := cl_kept HR.out.b e1
      have zp : gp < wr.heap.size := World.block_lt_of_cell? _ _ e0
      have tm : px.tmod 2 = px % 2 := Int.tmod_eq_emod_of_nonneg (by omega)
      clear hpt
      obtain ⟨fu, hfu⟩ : ∃ z : Int, z = if px % 2 = 0 then 8 else 4 := ⟨_, rfl⟩
      have HFU : Hid (fu = if px % 2 = 0 then 8 else 4) := hfu
      have hq8 : (fu = 8 ∧ px % 2 = 0) ∨ (fu = 4 ∧ ¬ px % 2 = 0) := by
        by_cases h : px % 2 = 0
        · exact Or.inl ⟨by rw [hfu, if_pos h], h⟩
        · exact Or.inr ⟨by rw [hfu, if_neg h], h⟩
      clear hfu
      go_upto_region 9 with (fail)
      refine wp_named (fun W1 hW1 => ?_)
      obtain ⟨Ba, hBa⟩ : ∃ b, b = wr.heap.size := ⟨_, rfl⟩
      have HR1 : Hid (RT w2 W1 w.heap.size (.slice a5 A.length c5) f A) := HR.out.kept (by rw [hW1]; exact bl_alloc (bl_refl _))
      have x0 : W1.cell? ⟨Ba, 0, none⟩ = some (.int .i64 px) := by rw [hW1, hBa]; simp [go_sem]
      have x1 : W1.cell? ⟨Ba, 1, none⟩ = some (.int .i64 py) := by rw [hW1, hBa]; simp [go_sem]
      have za : Ba < W1.heap.size := World.block_lt_of_cell? _ _ x0
      have HX : Hid (W1.cell? ⟨Ba, 0, none⟩ = some (.int .i64 px) ∧ W1.cell? ⟨Ba, 1, none⟩ = some (.int .i64 py)) := ⟨x0, x1⟩
      have HT1 : Hid (TRow W1 aT L ∧ Sh W1 w.heap.size (.int .i64 (W : Int)) (.int .i64 (H : Int)) (.slice (some ⟨b, off, none⟩) zs.length cap) (.slice cb n ccap) ∧ Below w.heap.size w W1) := ⟨H2.out.1.kept HR1.out.b, H2.out.2.2.1.kept HR1.out.b, bl_via H2.out.2.2.2.1 HR1.out.b⟩
      rw [← hBa]
      clear hW1 hBa e0 e1 zp HR
      rcases hq8 with ⟨hfu, q8⟩ | ⟨hfu, q8⟩
      all_goals
        first
          | have q8b : (px % 2 == 0) = true := by simpa using q8
          | have q8b : (px % 2 == 0) = false := by simpa using q8
        go_wp2
        clear tm q8 q8b
        go_loopg [8, 10] L.length (fun gk s8 s10 wx => ∃ k : Nat, k ≤ L.length ∧ gk = L.length - k ∧ s8 = .int .i64 (cntC (L.take k) (px, py) : Int) ∧ s10 = .int .i64 (k : Int) ∧ Below W1.heap.size W1 wx)
        case atStart => exact ⟨0, by omega, rfl, rfl, rfl, bl_refl _⟩
        case round =>
          obtain ⟨k, hk, rfl, rfl, rfl, hB⟩ := hrel
          have HB : Hid (Below W1.heap.size W1 wr) := hB
          clear hB x0 x1 za
          obtain ⟨cn, hcn⟩ : ∃ c, c = cntC (L.take k) (px, py) := ⟨_, rfl⟩
          have hcl : cn ≤ 256 := by
            have := cntC_le (L.take k) (px, py)
            rw [List.length_take] at this
            omega
          have HCK : Hid (cn = cntC (L.take k) (px, py)) := hcn
          rw [← hcn]
          clear hcn
          by_cases hk1 : k < L.length
          · have ik : (k : Int) < (L.length : Int) := by omega
            have ik0 : (0 : Int) ≤ (k : Int) := by omega
            obtain ⟨ga, rfl, t0, t1, t2⟩ := (HT1.out.1.kept HB.out) k hk1
            obtain ⟨t, ht⟩ : ∃ t, t = L[k] := ⟨_, rfl⟩
            obtain ⟨x, y, kk⟩ := t
            have hbd := HBD.out _ (List.getElem_mem hk1)
            rw [← ht] at t0 t1 t2 hbd
            dsimp only at t0 t1 t2 hbd
            have HCN : Hid (cntC (L.take (k + 1)) (px, py) = cn + if (px, py) ∈ cnr (x, y, kk) then 1 else 0) := by
              have : cntC (L.take (k + 1)) (px, py) = cn + if (px, py) ∈ cnr (x, y, kk) then 1 else 0 := by rw [cntC_succ hk1, ← ht, HCK.out]
              exact this
            have zt : ga < wr.heap.size := World.block_lt_of_cell? _ _ t0
            have C34 : Hid (∀ W' : World, Calls Tryd.prog 35 #[.agg #[.int .i64 x, .int .i64 y, .int .i64 kk]] W' fun e w' => ∃ g, e = .returned (.slice (some ⟨g, 0, none⟩) 3 3) ∧ W'.heap.size ≤ g ∧ Mp w' g (2 * x + 1) (2 * y + 1) (c1x x kk) (c1y y kk) (c2x x kk) (c2y y kk) ∧ Below W'.heap.size W' w') := fun W' => cornersOfW_any x y kk W' (by omega) (by omega) (by omega) (by omega) (by omega) (by omega)
            have HMEM : Hid ((px, py) ∈ cnr (x, y, kk) ↔ (2 * x + 1 = px ∧ 2 * y + 1 = py) ∨ (c1x x kk = px ∧ c1y y kk = py) ∨ (c2x x kk = px ∧ c2y y kk = py)) := by
              have : (px, py) ∈ cnr (x, y, kk) ↔ (2 * x + 1 = px ∧ 2 * y + 1 = py) ∨ (c1x x kk = px ∧ c1y y kk = py) ∨ (c2x x kk = px ∧ c2y y kk = py) := by
                simp only [cnr, List.mem_cons, List.not_mem_nil, or_false, Prod.mk.injEq]
                constructor
                · rintro (⟨h, h'⟩ | ⟨h, h'⟩ | ⟨h, h'⟩)
                  · exact Or.inl ⟨h.symm, h'.symm⟩
                  · exact Or.inr (Or.inl ⟨h.symm, h'.symm⟩)
                  · exact Or.inr (Or.inr ⟨h.symm, h'.symm⟩)
                · rintro (⟨h, h'⟩ | ⟨h, h'⟩ | ⟨h, h'⟩)
                  · exact Or.inl ⟨h.symm, h'.symm⟩
                  · exact Or.inr (Or.inl ⟨h.symm, h'.symm⟩)
                  · exact Or.inr (Or.inr ⟨h.symm, h'.symm⟩)
              exact this
            obtain ⟨u0, hu0⟩ : ∃ z, z = 2 * x + 1 := ⟨_, rfl⟩
            obtain ⟨u1, hu1⟩ : ∃ z, z = 2 * y + 1 := ⟨_, rfl⟩
            obtain ⟨u2, hu2⟩ : ∃ z, z = c1x x kk := ⟨_, rfl⟩
            obtain ⟨u3, hu3⟩ : ∃ z, z = c1y y kk := ⟨_, rfl⟩
            obtain ⟨u4, hu4⟩ : ∃ z, z = c2x x kk := ⟨_, rfl⟩
            obtain ⟨u5, hu5⟩ : ∃ z, z = c2y y kk := ⟨_, rfl⟩
            rw [← hu0, ← hu1, ← hu2, ← hu3, ← hu4, ← hu5] at HMEM C34
            clear ht hbd hu0 hu1 hu2 hu3 hu4 hu5
            go_upto_region 15 with (go_at_call 35; refine (C34.out _).mono ?_; rintro e w4 ⟨gc, rfl, hgc, hMp, hb⟩; have HM4 : Hid (Mp w4 gc u0 u1 u2 u3 u4 u5 ∧ Below W1.heap.size W1 w4) := ⟨hMp, bl_via HB.out hb⟩; clear hgc hMp hb)
            obtain ⟨m0, m1, m2, m3, m4, m5⟩ := HM4.out.1
            have zg4 : gc < w4.heap.size := World.block_lt_of_cell? _ _ m0
            have x0 := cl_kept HM4.out.2 HX.out.1
            have x1 := cl_kept HM4.out.2 HX.out.2
            have za4 : Ba < w4.heap.size := World.block_lt_of_cell? _ _ x0
            have kc := Kin.cells w4
            have kn : Nonempty (Kin w4) := ⟨⟨w4, bl_refl _⟩⟩
            clear t0 t1 t2 zt C34
            by_cases g1 : u0 = px ∧ u1 = py
            · have d1 : decide (u0 = px ∧ u1 = py) = true := by simpa using g1
              have HCC : Hid (cntC (L.take (k + 1)) (px, py) = cn + 1) := by
                have : cntC (L.take (k + 1)) (px, py) = cn + 1 := by
                  rw [HCN.out, if_pos (HMEM.out.2 (Or.inl g1))]
                exact this
              clear g1
              refine wp_region_kin (by kernel_rfl) (by kernel_rfl) ?_
              repeat (go_big_quiet_step (fail))
              refine wpQuiet_nil ?_
              intro wq hw'
              obtain ⟨nq, hw''⟩ := hw'
              have hq : Below w4.heap.size w4 wq := hw'' ▸ nq.h
              have HQQ : Hid (Below W1.heap.size W1 wq) := bl_via HM4.out.2 hq
              clear hw'' nq hq kc kn
              go_wp2
              go_roundg (L.length - (k + 1))
              case measure => omega
              case rel => exact ⟨k + 1, by omega, rfl, by rw [HCC.out]; go_num, by go_num, HQQ.out⟩
            · have d1 : decide (u0 = px ∧ u1 = py) = false := by simpa using g1
              by_cases g2 : u2 = px ∧ u3 = py
              · have d2 : decide (u2 = px ∧ u3 = py) = true := by simpa using g2
                have HCC : Hid (cntC (L.take (k + 1)) (px, py) = cn + 1) := by
                  have : cntC (L.take (k + 1)) (px, py) = cn + 1 := by
                    rw [HCN.out, if_pos (HMEM.out.2 (Or.inr (Or.inl g2)))]
                  exact this
                clear g1 g2
                refine wp_region_kin (by kernel_rfl) (by kernel_rfl) ?_
                repeat (go_big_quiet_step (fail))
                refine wpQuiet_nil ?_
                intro wq hw'
                obtain ⟨nq, hw''⟩ := hw'
                have hq : Below w4.heap.size w4 wq := hw'' ▸ nq.h
                have HQQ : Hid (Below W1.heap.size W1 wq) := bl_via HM4.out.2 hq
                clear hw'' nq hq kc kn
                go_wp2
                go_roundg (L.length - (k + 1))
                case measure => omega
                case rel => exact ⟨k + 1, by omega, rfl, by rw [HCC.out]; go_num, by go_num, HQQ.out⟩
              · have d2 : decide (u2 = px ∧ u3 = py) = false := by simpa using g2
                by_cases g3 : u4 = px ∧ u5 = py
                · have d3 : decide (u4 = px ∧ u5 = py) = true := by simpa using g3
                  have HCC : Hid (cntC (L.take (k + 1)) (px, py) = cn + 1) := by
                    have : cntC (L.take (k + 1)) (px, py) = cn + 1 := by
                      rw [HCN.out, if_pos (HMEM.out.2 (Or.inr (Or.inr g3)))]
                    exact this
                  clear g1 g2 g3
                  refine wp_region_kin (by kernel_rfl) (by kernel_rfl) ?_
                  repeat (go_big_quiet_step (fail))
                  refine wpQuiet_nil ?_
                  intro wq hw'
                  obtain ⟨nq, hw''⟩ := hw'
                  have hq : Below w4.heap.size w4 wq := hw'' ▸ nq.h
                  have HQQ : Hid (Below W1.heap.size W1 wq) := bl_via HM4.out.2 hq
                  clear hw'' nq hq kc kn
                  go_wp2
                  go_roundg (L.length - (k + 1))
                  case measure => omega
                  case rel => exact ⟨k + 1, by omega, rfl, by rw [HCC.out]; go_num, by go_num, HQQ.out⟩
                · have d3 : decide (u4 = px ∧ u5 = py) = false := by simpa using g3
                  have HCC : Hid (cntC (L.take (k + 1)) (px, py) = cn) := by
                    have : cntC (L.take (k + 1)) (px, py) = cn := by
                      rw [HCN.out, if_neg (fun h => (HMEM.out.1 h).elim g1 (fun h => h.elim g2 g3)), Nat.add_zero]
                    exact this
                  clear g1 g2 g3
                  refine wp_region_kin (by kernel_rfl) (by kernel_rfl) ?_
                  repeat (go_big_quiet_step (fail))
                  refine wpQuiet_nil ?_
                  intro wq hw'
                  obtain ⟨nq, hw''⟩ := hw'
                  have hq : Below w4.heap.size w4 wq := hw'' ▸ nq.h
                  have HQQ : Hid (Below W1.heap.size W1 wq) := bl_via HM4.out.2 hq
                  clear hw'' nq hq kc kn
                  go_wp2
                  go_roundg (L.length - (k + 1))
                  case measure => omega
                  case rel => exact ⟨k + 1, by omega, rfl, by rw [HCC.out], by go_num, HQQ.out⟩
          · have ik : ¬ (k : Int) < (L.length : Int) := by omega
            obtain rfl : k = L.length := by omega
            rw [List.take_length] at HCK
            by_cases q : (cn : Int) = fu
            rotate_left
            · have qb : ((cn : Int) != fu) = true := by simpa using q
              have HG : Hid (gref L f pts[i] = false) := by
                have : gref L f pts[i] = false := by
                  rw [← HPT.out, gref, ← HCK.out, Bool.and_eq_false_iff]
                  refine Or.inl (decide_eq_false (fun e => q ?_))
                  rw [HFU.out]
                  dsimp only at e
                  split at e <;> rename_i h <;> simp [h, e]
                exact this
              clear q
              subst hfu
              go_wp2
              go_roundg (pts.length - (i + 1))
              case measure => omega
              case rel => exact ⟨i + 1, A, by omega, rfl, by go_num, by rw [filter_no h1 HG.out]; exact HA.out, HR1.out.kept HB.out⟩
            · have qb : ((cn : Int) != fu) = false := by simpa using q
              have HGN : Hid (cntC L (px, py) = if px % 2 = 0 then 8 else 4) := by
                have : cntC L (px, py) = if px % 2 = 0 then 8 else 4 := by
                  have h9 := HFU.out
                  rw [← q, HCK.out] at h9
                  split at h9 <;> rename_i h <;> simp [h] <;> omega
                exact this
              clear q
              subst hfu
              have x0 := cl_kept HB.out HX.out.1
              have x1 := cl_kept HB.out HX.out.2
              have za : Ba < wr.heap.size := World.block_lt_of_cell? _ _ x0
              obtain ⟨ff, hff⟩ : ∃ g, g = f (px, py) := ⟨_, rfl⟩
              have HFF : Hid (ff = f (px, py)) := hff
              clear hff
              go_upto_region 19 with (fail)
              obtain ⟨W3, hW3⟩ : ∃ W', W' = wr := ⟨_, rfl⟩
              have HS0 : Hid (SX W3 (wr.alloc (.cells #[.int .i64 px, .int .i64 py, .slice none 0 0, .slice none 0 0] 45)) W3.heap.size px py (.slice none 0 0) (.slice none 0 0) (sdirs ff 0) (skinds ff 0)) := by
                have := SX.start wr px py ff
                rw [← hW3] at this ⊢
                exact this
              have HR3 : Hid (RT w2 W3 w.heap.size (.slice a5 A.length c5) f A) := by
                have := HR1.out.kept HB.out
                rw [← hW3] at this
                exact this
              have HB3 : Hid (Below W1.heap.size W1 W3) := by
                have := HB.out
                rw [← hW3] at this
                exact this
              obtain ⟨B, hB0⟩ : ∃ b, b = W3.heap.size := ⟨_, rfl⟩
              have HBB : Hid (B = W3.heap.size) := hB0
              rw [← hB0] at HS0
              have hsz : wr.heap.size = B := by rw [hB0, hW3]
              rw [hsz]
              clear hB0 hW3 hsz x0 x1 za HB
              go_wp2
              go_loopg [13] 8 (fun gk s13 wx => ∃ (d : Nat) (vD vK : Value), d ≤ 8 ∧ gk = 8 - d ∧ s13 = .int .i64 (d : Int) ∧ SX W3 wx B px py vD vK (sdirs ff d) (skinds ff d))
              case atStart => exact ⟨0, _, _, by omega, rfl, rfl, HS0.out⟩
              case round =>
                clear HS0
                obtain ⟨d, vD, vK, hd, rfl, rfl, hS⟩ := hrel
                obtain ⟨aD, cD, rfl⟩ := own_slice hS.d
                obtain ⟨aK, cK, rfl⟩ := own_slice hS.k
                have HS : Hid (SX W3 wr B px py (.slice aD (sdirs ff d).length cD) (.slice aK (skinds ff d).length cK) (sdirs ff d) (skinds ff d)) := hS
                have zB : B < wr.heap.size := hS.lt
                have hBr := bl_via HB3.out hS.b
                have x0 := cl_kept hBr HX.out.1
                have x1 := cl_kept hBr HX.out.2
                have za : Ba < wr.heap.size := World.block_lt_of_cell? _ _ x0
                obtain ⟨s0, s1, s2, s3⟩ := HT1.out.2.1.kept hBr
                have zs0 : w.heap.size < wr.heap.size := World.block_lt_of_cell? _ _ s0
                have HBW : Hid (Below w.heap.size w wr) := bl_via HT1.out.2.2 hBr
                clear hBr
                have hlD := (sdirs_len ff d).2
                have hlK : (skinds ff d).length ≤ d := by rw [← (sdirs_len ff d).1]; exact hlD
                by_cases hd1 : d < 8
                · have id1 : (d : Int) < 8 := by omega
                  have id0 : (0 : Int) ≤ (d : Int) := by omega
                  obtain ⟨tx, htx⟩ : ∃ z, z = (tw (px, py) d).1 := ⟨_, rfl⟩
                  obtain ⟨ty', hty⟩ : ∃ z, z = (tw (px, py) d).2 := ⟨_, rfl⟩
                  have CTW : Hid (∀ W' : World, Calls Tryd.prog 38 #[.agg #[.int .i64 px, .int .i64 py], .int .i64 (d : Int)] W' fun e w' => e = .returned (.agg #[.int .i64 tx, .int .i64 ty']) ∧ Below W'.heap.size W' w') := fun W' => by
                    rw [htx, hty]
                    exact toward_any px py d hd1 (by omega) (by omega) W'
                  obtain ⟨q0, hq0⟩ : ∃ z, z = eA px py tx ty' := ⟨_, rfl⟩
                  obtain ⟨q1, hq1⟩ : ∃ z, z = eB px py tx ty' := ⟨_, rfl⟩
                  obtain ⟨q2, hq2⟩ : ∃ z, z = eC px py tx ty' := ⟨_, rfl⟩
                  obtain ⟨q3, hq3⟩ : ∃ z, z = eD px py tx ty' := ⟨_, rfl⟩
                  have CEO : Hid (∀ W' : World, Calls Tryd.prog 37 #[.agg #[.int .i64 px, .int .i64 py], .agg #[.int .i64 tx, .int .i64 ty']] W' fun e w' => e = .returned (.agg #[.int .i64 q0, .int .i64 q1, .int .i64 q2, .int .i64 q3]) ∧ Below W'.heap.size W' w') := fun W' => by
                    rw [hq0, hq1, hq2, hq3]
                    exact edgeOf_kin px py tx ty' W'
                  obtain ⟨ki, hki⟩ : ∃ z, z = kdn ks n (q0, q1, q2, q3) := ⟨_, rfl⟩
                  have CKO : Hid (∀ W' : World, Below wr.heap.size wr W' → Calls Tryd.prog 36 #[.agg #[.int .i64 (W : Int), .int .i64 (H : Int), .slice (some ⟨b, off, none⟩) zs.length cap, .slice cb n ccap], .agg #[.int .i64 q0, .int .i64 q1, .int .i64 q2, .int .i64 q3]] W' fun e w' => e = .returned (.int .i64 ki) ∧ Below W'.heap.size W' w') := fun W' hW' => by
                    rw [hki]
                    exact CK.out W' q0 q1 q2 q3 (bl_via HBW.out hW')
                  have HKI : Hid (ki = ff d) := by
                    have : ki = ff d := by
                      rw [hki, HFF.out, HF.out, hq0, hq1, hq2, hq3, htx, hty]
                      rfl
                    exact this
                  clear hq0 hq1 hq2 hq3 hki htx hty
                  have kc := Kin.cells wr
                  have kn : Nonempty (Kin wr) := ⟨⟨wr, bl_refl _⟩⟩
                  clear hS
                  go_upto_region 22 with (fail)
                  refine wp_region_kin (by kernel_rfl) (by kernel_rfl) ?_
                  repeat (go_big_quiet_step ((first | (go_at_call 38; exact kin_of (CTW.out _)) | (go_at_call 37; exact kin_of (CEO.out _)) | (go_at_call 36; exact kin_of (CKO.out _ (Kin.h _))))))
                  refine wpQuiet_nil ?_
                  intro wq hw'
                  obtain ⟨nq, hw''⟩ := hw'
                  have hq : Below wr.heap.size wr wq := hw'' ▸ nq.h
                  have HS1 : Hid (SX W3 wq B px py (.slice aD (sdirs ff d).length cD) (.slice aK (skinds ff d).length cK) (sdirs ff d) (skinds ff d)) := HS.out.kept hq
                  have zBq : B < wq.heap.size := HS1.out.lt
                  clear hw'' nq hq kc kn x0 x1 za s0 s1 s2 s3 zs0 HS zB CTW CEO CKO
                  by_cases q : ki = 0
                  · have qb : (ki != 0) = false := by simpa using q
                    have HQ : Hid (sdirs ff (d + 1) = sdirs ff d ∧ skinds ff (d + 1) = skinds ff d) := by
                      have e : ff d = 0 := HKI.out.symm.trans q
                      have : sdirs ff (d + 1) = sdirs ff d ∧ skinds ff (d + 1) = skinds ff d := ⟨by rw [sdirs_succ, if_neg (by simp [e])], by rw [skinds_succ, if_neg (by simp [e])]⟩
                      exact this
                    clear q
                    go_wp2
                    go_roundg (8 - (d + 1))
                    case measure => omega
                    case rel =>
                      refine ⟨d + 1, .slice aD (sdirs ff d).length cD, .slice aK (skinds ff d).length cK, by omega, rfl, by go_num, ?_⟩
                      rw [HQ.out.1, HQ.out.2]
                      exact HS1.out
                  · have qb : (ki != 0) = true := by simpa using q
                    have HQ : Hid (sdirs ff (d + 1) = sdirs ff d ++ [(d : Int)] ∧ skinds ff (d + 1) = skinds ff d ++ [ki]) := by
                      have e : ¬ ff d = 0 := fun h => q (HKI.out.trans h)
                      have : sdirs ff (d + 1) = sdirs ff d ++ [(d : Int)] ∧ skinds ff (d + 1) = skinds ff d ++ [ki] := ⟨by rw [sdirs_succ, if_pos (by simp [e])], by rw [skinds_succ, if_pos (by simp [e]), HKI.out]⟩
                      exact this
                    clear q
                    have c2 := HS1.out.c2
                    have HS2 : Hid (SX W3 (wq.alloc (.cells #[.int .i64 (d : Int)] 3)) B px py (.slice aD (sdirs ff d).length cD) (.slice aK (skinds ff d).length cK) (sdirs ff d) (skinds ff d)) := HS1.out.kept (bl_alloc (bl_refl _))
                    go_wp2_with (at_builtin; refine wpList_append_own_at _ rfl (.tmp 84) (.tmp 86) 22 rfl (B + 1) 3 i3 (.int .i64 0) 1 8 Tryd.underlying22 HI.out.1 HI.out.2.1 HI.out.2.2.1 HI.out.2.2.2 rfl (by decide) (.slice aD (sdirs ff d).length cD) (sdirs ff d).length (rowZ (sdirs ff d)) rfl HS2.out.d ⟨wq.heap.size, 0, none⟩ 1 1 [.int .i64 (d : Int)] rfl rfl (cell_one _ (by simp [go_sem])) (one_cell _) (by unfold maxLen; omega) (by omega) (by simp; omega) ?growA)
                    case growA =>
                      intro v' w3 hown hgrow _ hblk
                      obtain ⟨a', c', rfl⟩ := own_slice hown
                      have hbD : some B ≠ (Value.slice aD (sdirs ff d).length cD).ownBlock := fun e => by
                        have := own_base HS2.out.d B e.symm
                        omega
                      have c2 := hgrow.cell HS2.out.c2 hbD
                      have f2 := fr_grown hgrow hbD HS2.out.c2 HS2.out.f2
                      have z3 : B < w3.heap.size := World.block_lt_of_cell? _ _ c2
                      have HS4 : Hid (SX W3 (w3.setCell ⟨B, 2, none⟩ (.slice a' ((sdirs ff d).length + 1) c')) B px py (.slice a' ((sdirs ff d).length + 1) c') (.slice aK (skinds ff d).length cK) (sdirs ff (d + 1)) (skinds ff d)) := by
                        refine HS2.out.putD hgrow ?_ (hblk.imp id (fun e => e.trans (by simp)))
                        rw [HQ.out.1, rowZ_add, List.length_append]
                        exact hown
                      clear hown hgrow hblk HS2 hbD
                      go_upto_region 25 with (fail)
                      refine wp_named (fun W4 hW4 => ?_)
                      rw [← hW4] at HS4
                      have c3 := HS4.out.c3
                      have z4 : B < W4.heap.size := HS4.out.lt
                      clear hW4 c2 f2 z3
                      have HS5 : Hid (SX W3 (W4.alloc (.cells #[.int .i64 ki] 3)) B px py (.slice a' ((sdirs ff d).length + 1) c') (.slice aK (skinds ff d).length cK) (sdirs ff (d + 1)) (skinds ff d)) := HS4.out.kept (bl_alloc (bl_refl _))
                      go_wp2_with (at_builtin; refine wpList_append_own_at _ rfl (.tmp 90) (.tmp 92) 22 rfl (B + 1) 3 i3 (.int .i64 0) 1 8 Tryd.underlying22 HI.out.1 HI.out.2.1 HI.out.2.2.1 HI.out.2.2.2 rfl (by decide) (.slice aK (skinds ff d).length cK) (skinds ff d).length (rowZ (skinds ff d)) rfl HS5.out.k ⟨W4.heap.size, 0, none⟩ 1 1 [.int .i64 ki] rfl rfl (cell_one _ (by simp [go_sem])) (one_cell _) (by unfold maxLen; omega) (by omega) (by simp; omega) ?growB)
                      case growB =>
                        intro v2 w5 hown2 hgrow2 _ hblk2
                        obtain ⟨a2, c2', rfl⟩ := own_slice hown2
                        have hbK : some B ≠ (Value.slice aK (skinds ff d).length cK).ownBlock := fun e => by
                          have := own_base HS5.out.k B e.symm
                          omega
                        have c3 := hgrow2.cell HS5.out.c3 hbK
                        have f3 := fr_grown hgrow2 hbK HS5.out.c3 HS5.out.f3
                        have z5 : B < w5.heap.size := World.block_lt_of_cell? _ _ c3
                        have HS6 : Hid (SX W3 (w5.setCell ⟨B, 3, none⟩ (.slice a2 ((skinds ff d).length + 1) c2')) B px py (.slice a' ((sdirs ff d).length + 1) c') (.slice a2 ((skinds ff d).length + 1) c2') (sdirs ff (d + 1)) (skinds ff (d + 1))) := by
                          refine HS5.out.putK hgrow2 ?_ (hblk2.imp id (fun e => e.trans (by simp)))
                          rw [HQ.out.2, rowZ_add, List.length_append]
                          exact hown2
                        clear hown2 hgrow2 hblk2 HS5 hbK
                        go_wp2
                        go_roundg (8 - (d + 1))
                        case measure => omega
                        case rel => exact ⟨d + 1, _, _, by omega, rfl, by go_num, HS6.out⟩
                · have id1 : ¬ (d : Int) < 8 := by omega
                  obtain rfl : d = 8 := by omega
                  have c0 := hS.c0
                  have c1 := hS.c1
                  have c2 := hS.c2
                  have c3 := hS.c3
                  clear hS x0 x1 za s0 s1 s2 s3 zs0
                  by_cases ql : (0 : Int) < ((sdirs ff 8).length : Int)
                  rotate_left
                  · have HG : Hid (gref L f pts[i] = false) := by
                      have : gref L f pts[i] = false := by
                        rw [← HPT.out, gref, ← HFF.out, Bool.and_eq_false_iff]
                        exact Or.inr (decide_eq_false (by omega))
                      exact this
                    go_wp2
                    go_roundg (pts.length - (i + 1))
                    case measure => omega
                    case rel => exact ⟨i + 1, A, by omega, rfl, by go_num, by rw [filter_no h1 HG.out]; exact HA.out, HR3.out.kept HS.out.b⟩
                  · have HLEN : Hid (0 < (sdirs ff 8).length) := by
                      have : 0 < (sdirs ff 8).length := by omega
                      exact this
                    have HG : Hid (gref L f pts[i] = true) := by
                      have : gref L f pts[i] = true := by
                        rw [← HPT.out, gref, ← HFF.out]
                        have h8 := HGN.out
                        simp [h8, HLEN.out]
                      exact this
                    have HR8 : Hid (RT w2 (wr.alloc (.cells #[.int .i64 px, .int .i64 py, .slice aD (sdirs ff 8).length cD, .slice aK (skinds ff 8).length cK] 45)) w.heap.size (.slice a5 A.length c5) f A) := HR3.out.kept (bl_via HS.out.b (bl_alloc (bl_refl _)))
                    have HS8 : Hid (SX W3 (wr.alloc (.cells #[.int .i64 px, .int .i64 py, .slice aD (sdirs ff 8).length cD, .slice aK (skinds ff 8).length cK] 45)) B px py (.slice aD (sdirs ff 8).length cD) (.slice aK (skinds ff 8).length cK) (sdirs ff 8) (skinds ff 8)) := HS.out.kept (bl_alloc (bl_refl _))
                    go_wp2_with (at_builtin; refine wpList_append_own_at _ rfl (.tmp 99) (.tmp 101) 38 rfl w2.heap.size 45 iS (.agg #[.int .i64 0, .int .i64 0, .slice none 0 0, .slice none 0 0]) 4 64 Tryd.underlying38 HIS.out.1 HIS.out.2.1 HIS.out.2.2.1 HIS.out.2.2.2 rfl (by decide) (.slice a5 A.length c5) A.length (A.flatMap encS) rfl HR8.out.own ⟨wr.heap.size, 0, none⟩ 1 1 [.int .i64 px, .int .i64 py, .slice aD (sdirs ff 8).length cD, .slice aK (skinds ff 8).length cK] rfl rfl (cell_four_new _ _ _ _ _ _) (four_cells _ _ _ _ rfl rfl) (by unfold maxLen; omega) (by omega) (by have := HR8.out.b.size; omega) ?growS)
                    case growS =>
                      intro v' w8 hown hgrow _ hblk
                      have HR9 : Hid (RT w2 w8 w.heap.size v' f (A ++ [((px, py), .slice aD (sdirs ff 8).length cD, .slice aK (skinds ff 8).length cK)])) := by
                        refine HR8.out.more hgrow hown (hblk.imp id (fun e => e.trans (by simp))) ?_
                        have h8 := HS8.out
                        have h0 := HLEN.out
                        rw [HFF.out] at h8 h0 ⊢
                        refine h8.ok h0 ?_ (fun q hq => ?_)
                        · have z1 := HBB.out
                          have z2 := HB3.out.size
                          have z3 := HT1.out.2.2.size
                          omega
                        · have z1 := HBB.out
                          have := (HR3.out.own.lt q hq).2
                          omega
                      clear hown hgrow hblk
                      obtain ⟨a9, c9, rfl⟩ := own_slice HR9.out.own
                      go_wp2
                      go_roundg (pts.length - (i + 1))
                      case measure => omega
                      case rel => exact ⟨i + 1, _, by omega, rfl, by go_num, by rw [filter_yes h1 HG.out, List.map_append, HA.out, ← HPT.out]; rfl, HR9.out⟩
    · have i1 : ¬ (i : Int) < (pts.length : Int) := by omega
      obtain rfl : i = pts.length := by omega
      go_wp2
      go_ret
      have h9 := HA.out
      rw [List.take_length] at h9
      exact ⟨_, _, A, pts, _, w2, rfl, HR.out, h9, H2.out.2.2.2.2, H2.out.2.2.2.1⟩
end Go.Proofs.YtmjneoaciopioaaDoor
