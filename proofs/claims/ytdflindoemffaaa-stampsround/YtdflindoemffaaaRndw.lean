/- The law StampsRound. -/
import Derived.Test.YtdflindoemffaaaPick
import Derived.Test.YtdflindoemffaaaCun8
import Derived.Deep.RegionLaw
namespace Go.Proofs.Ytdflindoemffaaa
open Go.RowKit

def bkL (x : List Int) (j : Nat) : List Int := x.reverse.take j
theorem bkL_succ {x : List Int} {j : Nat} (h : j < x.length) : bkL x (j + 1) = bkL x j ++ [gt x (x.length - 1 - j)] := by
  have h2 : j < x.reverse.length := by rw [List.length_reverse]; exact h
  unfold bkL
  rw [List.take_succ_eq_append_getElem h2, List.getElem_reverse, gt_lt (by omega)]
theorem bkL_len {x : List Int} {j : Nat} (h : j ≤ x.length) : (bkL x j).length = j := by
  unfold bkL
  rw [List.length_take, List.length_reverse]
  omega
theorem bkL_all (x : List Int) : bkL x x.length = x.reverse := by
  unfold bkL
  rw [← List.length_reverse, List.take_length]
theorem step_append_own {P : Program} {ops : Array Oper} {o : Oper} {a : Act} {w : World} {K : Act → World → Prop} {Q : Exit → Act → World → Prop} {E : Prop} (hgd : o.guard = none) (s x : Operand) (t : TypeId)
    (ho : o.op = .call { callee := .builtin .append, args := #[s, x], argTypes := #[t, t] })
    (base : Nat) (e : TypeId) (i : TypeInfo) (z : Value) (size bytes : Nat) (ht : P.underlying t = some (.slice e)) (hi : P.info? e = some i) (hz : i.zero = some z)
    (hsize : i.size = size) (hby : i.bytes = bytes) (hzs : z.cells.size = size) (hsz : 0 < size)
    (v : Value) (n : Nat) (xs : List Value) (hs : a.eval s = v) (hown : w.ownsRow base e size v n xs)
    (ad : Addr) (m c : Nat) (news : List Value) (hx : a.eval x = .slice (some ad) m c) (hl : news.length = m * size) (hnews : ∀ j u, news[j]? = some u → w.cell? (ad.add j) = some u) (h1 : ∀ u ∈ news, u.oneCell' = true)
    (h63 : n + m ≤ maxLen) (hbytes : (n + m) * bytes ≤ 140737488355328) (hbase : base ≤ w.heap.size)
    (h : ∀ v' w', w'.ownsRow base e size v' (n + m) (xs ++ news) → w.grownBy w' v.ownBlock → K (a.put o.dst v') w') :
    if Region.wanted o (yielded ops a.tmps) = true then Oper.wp P o a w K Q else E := by
  have hw : Region.wanted o (yielded ops a.tmps) = true := by simp [Region.wanted, hgd]
  rw [if_pos hw]
  exact wp_append_own w s x t ho base e i z size bytes ht hi hz hsize hby hzs hsz v n xs hs hown ad m c news hx hl hnews h1 h63 hbytes hbase fun v' w' h2 h3 _ => h v' w' h2 h3
theorem rw_take {w : World} {g : Nat} {x : List Int} (h : Rw w g x) (m : Nat) : Rw w g (x.take m) := fun i hi => by
  have h2 : i < x.length := by
    rw [List.length_take] at hi
    omega
  rw [h i h2, gt_lt hi, gt_lt h2, List.getElem_take]
theorem own_lit1 (w : World) (v : Int) : (w.alloc (.cells #[.int .i64 v] 3)).drew.ownsRow w.heap.size 3 1 (.slice (some ⟨w.heap.size, 0, none⟩) 1 1) 1 [.int .i64 v] :=
  own_below (World.ownsRow_lit (size := 1) w #[.int .i64 v] 1 (Nat.le_refl _) (by unfold maxLen; omega) rfl) (bl_drew (bl_refl _))
theorem many_cell {w w1 : World} {q : Nat} (hq : q < 8)
    (hb : Below (w.alloc (.cells #[.int .i64 1, .int .i64 2, .int .i64 6, .int .i64 16, .int .i64 50, .int .i64 144, .int .i64 462, .int .i64 1392] 3)).heap.size (w.alloc (.cells #[.int .i64 1, .int .i64 2, .int .i64 6, .int .i64 16, .int .i64 50, .int .i64 144, .int .i64 462, .int .i64 1392] 3)) w1) :
    w1.cell? ⟨w.heap.size, q, none⟩ = some (.int .i64 ((mny q : Nat) : Int)) := by
  refine cl_kept hb ?_
  have : q = 0 ∨ q = 1 ∨ q = 2 ∨ q = 3 ∨ q = 4 ∨ q = 5 ∨ q = 6 ∨ q = 7 := by omega
  rcases this with rfl | rfl | rfl | rfl | rfl | rfl | rfl | rfl <;> simp [go_sem, mny]
theorem mny_bd (q : Nat) : 0 < mny q ∧ mny q ≤ 1392 := by
  unfold mny
  split <;> omega
theorem rnd_got {w2 : World} {z : Nat} {u2 : Value} {es : List (Nat × Nat × List Int)} {q : Nat} (which : Int) (hq8 : q < 8) (hO : OutS w2 z u2 es) (hls : lsO es = ords gdB (q + 1) (q + 1) []) :
    ∃ (g c p gi ci m : Nat) (x : List Int), u2 = .slice (some ⟨g, 0, none⟩) (mny q) c ∧ pkm which ((mny q : Nat) : Int) = (p : Int) ∧ p < mny q ∧ w2.cell? ⟨g, p, none⟩ = some (.slice (some ⟨gi, 0, none⟩) (m + 1) ci) ∧ m ≤ 7 ∧ m < ci ∧ Rw w2 gi x ∧ x.length = m + 1 ∧ Prm x ∧ gdB x = true := by
  have hb := mny_bd q
  have hlen : es.length = mny q := by
    rw [← many_are q hq8, ← hls]
    simp [lsO]
  have hp := pkm_bd which (m := ((mny q : Nat) : Int)) (by omega)
  obtain ⟨p, ep⟩ : ∃ p : Nat, pkm which ((mny q : Nat) : Int) = (p : Int) := ⟨(pkm which ((mny q : Nat) : Int)).toNat, by omega⟩
  have hp2 : p < es.length := by omega
  obtain ⟨a, c, hu, hcells⟩ := es_cells hO
  obtain ⟨g, rfl, hc, hr⟩ := hcells p hp2
  have hmem : es[p].2.2 ∈ ords gdB (q + 1) (q + 1) [] := by
    rw [← hls, lsO]
    exact List.mem_map.2 ⟨es[p], List.getElem_mem hp2, rfl⟩
  have hP := ords_P _ _ _ _ _ hmem
  have hl := ords_lens _ _ _ _ (by simp) _ hmem
  have hprm := (ords_pp _ _ _ _ (by simp) (pp_nil _) _ hmem).prm hl
  have hcap := (hO.2.2 es[p] (List.getElem_mem hp2)).2.1.2
  refine ⟨g, c, p, es[p].1, es[p].2.1, q, es[p].2.2, by rw [hu, hlen], ep, by omega, ?_, by omega, by omega, hr, hl, hprm, hP⟩
  rw [hc, sv, hl]
set_option maxRecDepth 100000 in
set_option maxHeartbeats 1000000 in
theorem round_any (n which : Int) (h1 : -9223372036854775808 ≤ n) (h2 : n ≤ 9223372036854775807) (h3 : -9223372036854775808 ≤ which) (h4 : which ≤ 9223372036854775807) (w : World) :
    Calls Try.prog 6 #[.int .i64 n, .int .i64 which] w fun e w' => e = .returned (.bool true) ∧ Below w.heap.size w w' := by
  have hq := pkm_bd n (m := 8) (by omega)
  have C1 := fun W => pickedm n 8 h1 h2 (by omega) (by omega) W
  obtain ⟨q, eq⟩ : ∃ q : Nat, pkm n 8 = (q : Int) := ⟨(pkm n 8).toNat, by omega⟩
  rw [eq] at hq
  simp only [eq] at C1
  have hq8 : q < 8 := by omega
  clear hq
  obtain ⟨M, hM⟩ : ∃ M, M = mny q := ⟨_, rfl⟩
  have HMM : Hid (M = mny q) := hM
  have hMb := mny_bd q
  rw [← hM] at hMb
  have CP : Hid (∀ W : World, Calls Try.prog 19 #[.int .i64 n, .int .i64 8] W fun e w' => e = .returned (.int .i64 (q : Int)) ∧ Below W.heap.size W w') := C1
  have CW : Hid (∀ (p : Nat) (W : World), pkm which (M : Int) = (p : Int) → Calls Try.prog 19 #[.int .i64 which, .int .i64 (M : Int)] W fun e w' => e = .returned (.int .i64 (p : Int)) ∧ Below W.heap.size W w') := fun p W ep => by
    have := pickedm which (M : Int) h3 h4 (by omega) (by omega) W
    rwa [ep] at this
  have CA : Hid (∀ W : World, Calls Try.prog 15 #[.int .i64 (1 + (q : Int))] W fun e w' => ∃ (z : Nat) (g c p gi ci m : Nat) (x : List Int), e = .returned (.tuple #[.slice (some ⟨g, 0, none⟩) M c, .int .i64 0]) ∧ pkm which (M : Int) = (p : Int) ∧ p < M ∧ w'.cell? ⟨g, p, none⟩ = some (.slice (some ⟨gi, 0, none⟩) (m + 1) ci) ∧ m ≤ 7 ∧ m < ci ∧ (Rw w' gi x ∧ x.length = m + 1 ∧ Prm x ∧ gdB x = true) ∧ Below W.heap.size W w') := fun W => by
    have := all_ok (q + 1) W (by omega) (by omega)
    rw [show ((q + 1 : Nat) : Int) = 1 + (q : Int) by omega] at this
    refine this.mono ?_
    rintro e w' ⟨z, v, es, rfl, hO, hls, hb⟩
    obtain ⟨g, c, p, gi, ci, m, x, rfl, a1, a2, a3, a4, a5, a6, a7, a8, a9⟩ := rnd_got which hq8 hO hls
    exact ⟨z, g, c, p, gi, ci, m, x, by rw [hM], by rw [hM]; exact a1, by rw [hM]; exact a2, a3, a4, a5, ⟨a6, a7, a8, a9⟩, hb⟩
  have CM : Hid (∀ (W : World) (v : Value) (l : List Int), Sg W v l → 1 ≤ l.length → l.length ≤ 8 → Prm l → gdB l = true → Calls Try.prog 8 #[v] W fun e w' => e = .returned (.tuple #[.bool true, .int .i64 0]) ∧ Below W.heap.size W w') := fun W v l hv h1 h8 hp hg => by
    have := may_ok v l W hv (noV_zero (by simp [cntB]; omega) hp)
    rwa [hg] at this
  obtain ⟨i3, hI⟩ := info_parts inf3
  have HI : Hid (Try.prog.info? 3 = some i3 ∧ i3.zero = some (.int .i64 0) ∧ i3.size = 1 ∧ i3.bytes = 8) := hI
  have qz : ((M : Int) != (M : Int)) = false := by simp
  clear C1 eq hI hM
  go_enter Try.func6, Try.ntmps6
  go_wp2_with (first | (go_at_call 19; (with_reducible refine (CP.out _).mono ?_); rintro e w1 ⟨rfl, hb1⟩; have cm := many_cell hq8 hb1; rw [← HMM.out] at cm; have HB1 : Hid (Below w.heap.size w w1) := bl_via (bl_alloc (bl_refl w)) hb1; clear hb1) | (go_at_call 15; refine (CA.out _).mono ?_; rintro e w2 ⟨z, g, c, p, gi, ci, m, x, rfl, hp1, hp2, cg, hm7, hci, hx, hb2⟩; have HB2 : Hid (Below w.heap.size w w2) := bl_via HB1.out hb2; have HX2 : Hid (pkm which (M : Int) = (p : Int) ∧ Rw w2 gi x ∧ x.length = m + 1 ∧ Prm x ∧ gdB x = true) := ⟨hp1, hx⟩; replace cm := cl_kept hb2 cm; have zw : w.heap.size < w2.heap.size := World.block_lt_of_cell? _ _ cm; clear hb2 hx hp1) | (go_at_call 19; (with_reducible refine (CW.out _ _ HX2.out.1).mono ?_); rintro e w4 ⟨rfl, hb4⟩; have HB4 : Hid (Below w.heap.size w w4 ∧ Rw w4 gi x) := ⟨bl_via HB2.out hb4, HX2.out.2.1.kept hb4⟩; replace cg := cl_kept hb4 cg; clear hb4))
  clear CP CW CA cm zw qz cg hMb HMM
  go_loopg [10, 11] (m + 1) (fun gk s10 s11 wx => ∃ k : Nat, k ≤ m + 1 ∧ k = gk ∧ s11 = .int .i64 ((k : Int) - 1) ∧ wx.ownsRow w4.heap.size 3 1 s10 (m + 1 - k) (rowI (bkL x (m + 1 - k))) ∧ Below w4.heap.size w4 wx)
  case atStart => exact ⟨m + 1, by omega, rfl, congrArg (Value.int .i64) (by omega), ⟨by simp [rowI, bkL], Or.inl ⟨rfl, by omega⟩⟩, bl_refl _⟩
  case round =>
    obtain ⟨k, hk, rfl, hs, hO, hB⟩ := hrel
    cases k with
    | succ k =>
      rw [show (((k + 1 : Nat) : Int) - 1) = (k : Int) by omega] at hs
      subst hs
      have HO : Hid (wr.ownsRow w4.heap.size 3 1 u10 (m + 1 - (k + 1)) (rowI (bkL x (m + 1 - (k + 1)))) ∧ Below w4.heap.size w4 wr) := ⟨hO, hB⟩
      clear hO hB
      have c0 := cl_kept HO.out.2 (HB4.out.2 k (by have := HX2.out.2.2.1; omega))
      have zg : gi < wr.heap.size := World.block_lt_of_cell? _ _ c0
      obtain ⟨vi, hvi⟩ : ∃ v, v = gt x k := ⟨_, rfl⟩
      rw [← hvi] at c0
      have HVI : Hid (vi = gt x k) := hvi
      clear hvi
      have i0 : (0 : Int) ≤ (k : Int) := by omega
      have i1 : (k : Int) < (m : Int) + 1 := by omega
      obtain ⟨j, hj⟩ : ∃ j, j = m + 1 - (k + 1) := ⟨_, rfl⟩
      rw [← hj] at HO
      have hj8 : j ≤ 8 := by omega
      have HJ : Hid (j = m + 1 - (k + 1)) := hj
      clear hj
      go_wp2_with (at_builtin; refine wpList_append_own _ rfl (.tmp 52) (.tmp 57) 22 rfl w4.heap.size 3 i3 (.int .i64 0) 1 8 Try.underlying22 HI.out.1 HI.out.2.1 HI.out.2.2.1 HI.out.2.2.2 rfl (by decide) u10 j (rowI (bkL x j)) rfl (own_below HO.out.1 (bl_alloc (bl_refl _))) ⟨wr.heap.size, 0, none⟩ 1 1 [.int .i64 vi] rfl rfl (cell_one _ (by simp [go_sem])) (one_cell _) (by unfold maxLen; omega) (by omega) (by have := HO.out.2.size; simp; omega) ?gA)
      case gA =>
        intro v' w3 hown hgrow _
        have HO3 : Hid (w3.ownsRow w4.heap.size 3 1 v' (m + 1 - k) (rowI (bkL x (m + 1 - k))) ∧ Below w4.heap.size w4 w3) := by
          refine ⟨?_, bl_own (bl_alloc HO.out.2) (own_below HO.out.1 (bl_alloc (bl_refl _))) (Nat.le_refl _) hgrow⟩
          have e1 : m + 1 - k = j + 1 := by have := HJ.out; omega
          rw [e1, bkL_succ (by have := HX2.out.2.2.1; have := HJ.out; omega), rowI_add, show x.length - 1 - j = k by have := HX2.out.2.2.1; have := HJ.out; omega, ← HVI.out]
          exact hown
        clear hown hgrow
        go_wp2
        go_roundg k
        case measure => omega
        case rel => exact ⟨k, by omega, rfl, by go_num, HO3.out.1, HO3.out.2⟩
    | zero =>
      rw [show (((0 : Nat) : Int) - 1) = -1 by omega] at hs
      subst hs
      rw [Nat.sub_zero] at hO
      have HO : Hid (wr.ownsRow w4.heap.size 3 1 u10 (m + 1) (rowI (bkL x (m + 1))) ∧ Below w4.heap.size w4 wr) := ⟨hO, hB⟩
      clear hO hB hk
      have c0 := cl_kept HO.out.2 (HB4.out.2 m (by have := HX2.out.2.2.1; omega))
      have zg : gi < wr.heap.size := World.block_lt_of_cell? _ _ c0
      obtain ⟨vi, hvi⟩ : ∃ v, v = gt x m := ⟨_, rfl⟩
      rw [← hvi] at c0
      have HVI : Hid (vi = gt x m) := hvi
      have HRT : Hid (Rw wr gi (x.take m) ∧ (x.take m).length = m) := ⟨rw_take (HB4.out.2.kept HO.out.2) m, by rw [List.length_take, HX2.out.2.2.1]; omega⟩
      clear hvi
      go_wp2
      have wm : IntKind.i64.wrap (m : Int) = (m : Int) := by rw [IntKind.wrap_i64]; omega
      have j0 : (0 : Int) ≤ (m : Int) := by omega
      have j1 : (m : Int) < (m : Int) + 1 := by omega
      have j2 : (m : Int) ≤ (ci : Int) := by omega
      have j3 : m ≤ ci := by omega
      have d0 : wr.drew.cell? ⟨gi, m, none⟩ = some (.int .i64 vi) := cl_kept (bl_drew (bl_refl wr)) c0
      go_region_law (refine step_append_own (by rfl) (.tmp 65) (.tmp 70) 22 (by rfl) wr.heap.size 3 i3 (.int .i64 0) 1 8 Try.underlying22 HI.out.1 HI.out.2.1 HI.out.2.2.1 HI.out.2.2.2 rfl (by decide) (.slice (some ⟨wr.heap.size, 0, none⟩) 1 1) 1 [.int .i64 vi] (by rfl) (own_lit1 wr vi) ⟨gi, 0, none⟩ m ci (rowI (x.take m)) (by rfl) (by simp only [rowI, List.length_map]; rw [HRT.out.2]; omega) (row_cells (HRT.out.1.kept (bl_drew (bl_alloc (bl_refl _))))) (rowI_one _) (by unfold maxLen; omega) (by omega) (by simp) ?_; intro v6 w6 hown6 hgrow6; have H6 : Hid (w6.ownsRow wr.heap.size 3 1 v6 (1 + m) (.int .i64 vi :: rowI (x.take m)) ∧ Below wr.heap.size wr w6) := ⟨hown6, bl_own (bl_drew (bl_alloc (bl_refl _))) (own_lit1 wr vi) (Nat.le_refl _) hgrow6⟩; clear hown6 hgrow6)
      all_goals
        have H7 : Hid (Sg w6 u10 x.reverse ∧ Sg w6 v6 (und x) ∧ Below w.heap.size w w6) := by
          have hl := HX2.out.2.2.1
          refine ⟨?_, ?_, bl_via HB4.out.1 (bl_via HO.out.2 H6.out.2)⟩
          · have := own_sl HO.out.1 (bkL_len (by omega)).symm
            rw [show m + 1 = x.length by omega, bkL_all] at this
            exact (this.kept H6.out.2).sg
          · have e : Value.int .i64 vi :: rowI (x.take m) = rowI (und x) := by
              unfold und
              rw [show x.length - 1 = m by omega, HVI.out]
              rfl
            have h6 := H6.out.1
            rw [e] at h6
            exact (own_sl h6 (by rw [und_len (by omega)]; omega)).sg
        have CB : Hid (∀ W : World, Below w6.heap.size w6 W → Calls Try.prog 8 #[u10] W fun e w' => e = .returned (.tuple #[.bool true, .int .i64 0]) ∧ Below W.heap.size W w') := fun W hW => by
          have hl := HX2.out.2.2.1
          exact CM.out W u10 x.reverse (H7.out.1.kept hW) (by rw [List.length_reverse]; omega) (by rw [List.length_reverse]; omega) (prm_rev HX2.out.2.2.2.1) (gd_rev HX2.out.2.2.2.1 HX2.out.2.2.2.2)
        have CU : Hid (∀ W : World, Below w6.heap.size w6 W → Calls Try.prog 8 #[v6] W fun e w' => e = .returned (.tuple #[.bool true, .int .i64 0]) ∧ Below W.heap.size W w') := fun W hW => by
          have hl := HX2.out.2.2.1
          exact CM.out W v6 (und x) (H7.out.2.1.kept hW) (by rw [und_len (by omega)]; omega) (by rw [und_len (by omega)]; omega) (prm_und (by omega) HX2.out.2.2.2.1) (gd_und (by omega) HX2.out.2.2.2.1 HX2.out.2.2.2.2)
        clear c0 d0 zg CM wm j0 j1 j2 j3
        go_wp2_with (first | (go_at_call 8; (with_reducible refine (CB.out _ (bl_refl _)).mono ?_); rintro e w7 ⟨rfl, hb7⟩; have H8 : Hid (Below w6.heap.size w6 w7) := hb7; clear hb7) | (go_at_call 8; (with_reducible refine (CU.out _ H8.out).mono ?_); rintro e w8 ⟨rfl, hb8⟩; have H9 : Hid (Below w6.heap.size w6 w8) := bl_via H8.out hb8; clear hb8))
        go_ret
        exact ⟨rfl, bl_via H7.out.2.2 H9.out⟩
end Go.Proofs.Ytdflindoemffaaa
