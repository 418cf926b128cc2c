/- Troubles: both ways. -/
import Derived.Test.YtmjneoaciopioaaDoorQmbw
import Derived.Test.YtmjneoaciopioaaDoorQmbs
namespace Go.Proofs.YtmjneoaciopioaaDoor
open Go.RowKit Go.ChangeMaps

theorem infTr : (Tryd.prog.info? 52).map (fun i => (i.zero, i.size, i.bytes)) = some (some (.agg #[.int .i64 0, .int .i64 0, .int .i64 0]), 3, 24) := by kernel_rfl
/-- Troubles while they are gathered. -/
def QT (w2 wx : World) (v : Value) (T : List (Int × Int × Int)) : Prop := wx.ownsRow w2.heap.size 52 3 v T.length (flatV T) ∧ Below w2.heap.size w2 wx
theorem QT.kept {w2 wx w' : World} {v : Value} {T : List (Int × Int × Int)} (h : QT w2 wx v T) (hb : Below wx.heap.size wx w') : QT w2 w' v T := ⟨own_below h.1 hb, bl_via h.2 hb⟩
theorem QT.start (w : World) : QT w w (.slice none 0 0) [] := ⟨⟨rfl, Or.inl ⟨rfl, rfl⟩⟩, bl_refl _⟩
theorem QT.more {w2 wx w3 : World} {v v' : Value} {T : List (Int × Int × Int)} {x y k : Int} (h : QT w2 wx v T) (hg : wx.grownBy w3 v.ownBlock) (ho : w3.ownsRow w2.heap.size 52 3 v' (T.length + 1) (flatV T ++ [.int .i64 x, .int .i64 y, .int .i64 k])) : QT w2 w3 v' (T ++ [(x, y, k)]) := by
  refine ⟨?_, h.2.grown hg h.2.size (fun q hq => own_base h.1 q hq)⟩
  rw [List.length_append, flatV_add]
  simpa [flatV] using ho
theorem QT.row {w2 wx : World} {v : Value} {T : List (Int × Int × Int)} (h : QT w2 wx v T) : ∃ a c, v = .slice a T.length c ∧ TRow wx a T := by
  rcases h.1.2 with ⟨rfl, h0⟩ | ⟨g, cap, cur, rfl, _⟩
  · exact ⟨none, 0, by rw [h0], fun i hi => by omega⟩
  · refine ⟨some ⟨g, 0, none⟩, cap, rfl, fun i hi => ⟨g, rfl, ?_⟩⟩
    have f := flatV_at T i hi
    exact ⟨(h.1.cellAt _ (by omega)).trans f.1, (h.1.cellAt _ (by omega)).trans f.2.1, (h.1.cellAt _ (by omega)).trans f.2.2⟩
theorem cell_three_trb (w : World) (a b c : Int) : ∀ j u, ([Value.int .i64 a, .int .i64 b, .int .i64 c])[j]? = some u → (w.alloc (.cells #[.int .i64 a, .int .i64 b, .int .i64 c] 52)).cell? ((⟨w.heap.size, 0, none⟩ : Addr).add j) = some u := by
  intro j u hu
  match j, hu with
  | 0, hu => simp at hu; subst hu; simp [Addr.add, go_sem]
  | 1, hu => simp at hu; subst hu; simp [Addr.add, go_sem]
  | 2, hu => simp at hu; subst hu; simp [Addr.add, go_sem]
theorem three_trb (a b c : Int) : ∀ u ∈ [Value.int .i64 a, .int .i64 b, .int .i64 c], u.oneCell' = true := by
  intro u hu
  simp only [List.mem_cons, List.not_mem_nil, or_false] at hu
  rcases hu with rfl | rfl | rfl <;> rfl
theorem trob_all (f : Int × Int → Nat → Int) : ∀ K : List (Int × Int), (K.flatMap (trob f)).length ≤ 2 * K.length
  | [] => by simp
  | pt :: K => by
    rw [List.flatMap_cons, List.length_append, List.length_cons]
    have h1 := trob_len f pt
    have h2 := trob_all f K
    omega
set_option maxRecDepth 100000 in
set_option maxHeartbeats 3200000 in
theorem Troubles_yes (W H : Int) (a c : Option Addr) (n1 n2 ca cc : Nat) (w : World) (K : List (Int × Int)) (F : Int × Int → Nat → Int) (hK : K.length ≤ 800) (hcall : ∀ W' : World, Below w.heap.size w W' → Calls Tryd.prog 14 #[.agg #[.int .i64 W, .int .i64 H, .slice a n1 ca, .slice c n2 cc]] W' fun e w' => ∃ a3 c3, e = .returned (.tuple #[.slice a3 K.length c3, .int .i64 0]) ∧ SRk w' a3 K F ∧ Below W'.heap.size W' w') :
    Calls Tryd.prog 17 #[.agg #[.int .i64 W, .int .i64 H, .slice a n1 ca, .slice c n2 cc]] w fun e w' => ∃ a4 c4, e = .returned (.tuple #[.slice a4 (K.flatMap (trob F)).length c4, .int .i64 0]) ∧ TRow w' a4 (K.flatMap (trob F)) ∧ Below w.heap.size w w' := by
  have HC : Hid (∀ W' : World, Below w.heap.size w W' → Calls Tryd.prog 14 #[.agg #[.int .i64 W, .int .i64 H, .slice a n1 ca, .slice c n2 cc]] W' fun e w' => ∃ a3 c3, e = .returned (.tuple #[.slice a3 K.length c3, .int .i64 0]) ∧ SRk w' a3 K F ∧ Below W'.heap.size W' w') := hcall
  clear hcall
  obtain ⟨TT, hTT⟩ : ∃ q, q = K.flatMap (trob F) := ⟨_, rfl⟩
  have HTT : Hid (TT = K.flatMap (trob F)) := hTT
  rw [← hTT]
  clear hTT
  obtain ⟨iT, hI⟩ := info_parts infTr
  have HI : Hid (Tryd.prog.info? 52 = some iT ∧ iT.zero = some (.agg #[.int .i64 0, .int .i64 0, .int .i64 0]) ∧ iT.size = 3 ∧ iT.bytes = 24) := hI
  clear hI
  go_enter Tryd.func17, Tryd.ntmps17
  go_wp2_with (go_at_call 14; refine (HC.out _ (by with_reducible exact bl_alloc (bl_refl _))).mono ?_; rintro e w2 ⟨a3, c3, rfl, hS, hb⟩; have HS : Hid (SRk w2 a3 K F ∧ Below w.heap.size w w2) := ⟨hS, bl_via (bl_alloc (bl_refl _)) hb⟩; clear hS hb)
  go_loopg [6, 19] K.length (fun gk s6 s19 wx => ∃ (i : Nat) (T : List (Int × Int × Int)), i ≤ K.length ∧ gk = K.length - i ∧ s19 = .int .i64 (i : Int) ∧ T = (K.take i).flatMap (trob F) ∧ QT w2 wx s6 T)
  case atStart => exact ⟨0, [], by omega, rfl, rfl, by simp, QT.start w2⟩
  case round =>
    obtain ⟨i, T, hi, rfl, rfl, hT, hQ⟩ := hrel
    obtain ⟨a6, c6, rfl⟩ := own_slice hQ.1
    have HQ : Hid (QT w2 wr (.slice a6 T.length c6) T) := hQ
    have HT : Hid (T = (K.take i).flatMap (trob F)) := hT
    have hT9 : T.length ≤ 1600 := by
      have h8 := trob_all F (K.take i)
      rw [← hT, List.length_take] at h8
      omega
    clear hT hQ
    by_cases h1 : i < K.length
    · have i1 : (i : Int) < (K.length : Int) := by omega
      have i0 : (0 : Int) ≤ (i : Int) := by omega
      obtain ⟨g, dA, dC, kA, kC, ea, y0, y1, y2, y3, rD, rK⟩ := HS.out.1 i h1
      subst ea
      have hd8 := (sdirs_len (F K[i]) 8).2
      have hk8 : (skinds (F K[i]) 8).length ≤ 8 := by rw [← (sdirs_len (F K[i]) 8).1]; exact hd8
      obtain ⟨bu, hbu⟩ : ∃ q, q = unevB (sdirs (F K[i]) 8) := ⟨_, rfl⟩
      obtain ⟨bv, hbv⟩ : ∃ q, q = unbB (skinds (F K[i]) 8) := ⟨_, rfl⟩
      have CU : Hid (∀ W' : World, Below w2.heap.size w2 W' → Calls Tryd.prog 39 #[.slice dA (sdirs (F K[i]) 8).length dC] W' fun e w' => e = .returned (.bool bu) ∧ Below W'.heap.size W' w') := fun W' hW' => by
        rw [hbu]
        exact uneven_any dA dC _ W' (rD.kept hW') hd8 (sdirs_bd _)
      have CB : Hid (∀ W' : World, Below w2.heap.size w2 W' → Calls Tryd.prog 40 #[.slice kA (skinds (F K[i]) 8).length kC] W' fun e w' => e = .returned (.bool bv) ∧ Below W'.heap.size W' w') := fun W' hW' => by
        rw [hbv]
        exact unbalanced_any kA kC _ W' (rK.kept hW') hk8
      obtain ⟨px, hpx⟩ : ∃ q, q = K[i].1 := ⟨_, rfl⟩
      obtain ⟨py, hpy⟩ : ∃ q, q = K[i].2 := ⟨_, rfl⟩
      have HTB : Hid (trob F K[i] = (if bu = true then [(px, py, 1)] else []) ++ (if bv = true then [(px, py, 2)] else [])) := by
        have : trob F K[i] = (if bu = true then [(px, py, 1)] else []) ++ (if bv = true then [(px, py, 2)] else []) := by rw [hbu, hbv, hpx, hpy]; rfl
        exact this
      obtain ⟨nD, hnD⟩ : ∃ q, q = (sdirs (F K[i]) 8).length := ⟨_, rfl⟩
      obtain ⟨nK, hnK⟩ : ∃ q, q = (skinds (F K[i]) 8).length := ⟨_, rfl⟩
      rw [← hnD] at CU y2
      rw [← hnK] at CB y3
      rw [← hpx] at y0
      rw [← hpy] at y1
      replace y0 := cl_kept HQ.out.2 y0
      replace y1 := cl_kept HQ.out.2 y1
      replace y2 := cl_kept HQ.out.2 y2
      replace y3 := cl_kept HQ.out.2 y3
      have zg : g < wr.heap.size := World.block_lt_of_cell? _ _ y0
      clear rD rK hnD hnK hpx hpy hbu hbv hd8 hk8
      go_upto_region 8 with (fail)
      refine wp_named (fun W1 hW1 => ?_)
      obtain ⟨B8, hB8⟩ : ∃ b, b = wr.heap.size := ⟨_, rfl⟩
      have HQ1 : Hid (QT w2 W1 (.slice a6 T.length c6) T) := HQ.out.kept (by rw [hW1]; exact bl_alloc (bl_refl _))
      have x0 : W1.cell? ⟨B8, 0, none⟩ = some (.int .i64 px) := by rw [hW1, hB8]; simp [go_sem]
      have x1 : W1.cell? ⟨B8, 1, none⟩ = some (.int .i64 py) := by rw [hW1, hB8]; simp [go_sem]
      have x2 : W1.cell? ⟨B8, 2, none⟩ = some (.slice dA nD dC) := by rw [hW1, hB8]; simp [go_sem]
      have x3 : W1.cell? ⟨B8, 3, none⟩ = some (.slice kA nK kC) := by rw [hW1, hB8]; simp [go_sem]
      have z8 : B8 < W1.heap.size := World.block_lt_of_cell? _ _ x0
      have HNB : Hid (∀ q, (Value.slice a6 T.length c6).ownBlock = some q → q < B8) := fun q hq => by
        have := (HQ.out.1.lt q hq).2
        rw [hB8]
        exact this
      rw [← hB8]
      clear hW1 hB8 y0 y1 y2 y3 zg
      cases bu
      · go_upto_region 10 with (go_at_call 39; refine (CU.out _ (HQ1.out.2)).mono ?_; rintro e w5 ⟨rfl, hb5⟩; have HQ5 : Hid (QT w2 w5 (.slice a6 T.length c6) T) := HQ1.out.kept hb5; have x0 := cl_kept hb5 x0; have x1 := cl_kept hb5 x1; have x2 := cl_kept hb5 x2; have x3 := cl_kept hb5 x3; have z8 : B8 < w5.heap.size := World.block_lt_of_cell? _ _ x0; clear hb5)
        cases bv
        · go_wp2_with (go_at_call 40; refine (CB.out _ (HQ5.out.2)).mono ?_; rintro e w7 ⟨rfl, hb7⟩; have HQ7 : Hid (QT w2 w7 (.slice a6 T.length c6) (T)) := HQ5.out.kept hb7; have x0 := cl_kept hb7 x0; have x1 := cl_kept hb7 x1; have x2 := cl_kept hb7 x2; have x3 := cl_kept hb7 x3; have z8 : B8 < w7.heap.size := World.block_lt_of_cell? _ _ x0; clear hb7)
          go_roundg (K.length - (i + 1))
          case measure => omega
          case rel =>
            refine ⟨i + 1, T, by omega, rfl, by go_num, ?_, HQ7.out⟩
            rw [List.take_succ_eq_append_getElem h1, List.flatMap_append, ← HT.out]
            simp [HTB.out]
        · go_upto_region 11 with (go_at_call 40; refine (CB.out _ (HQ5.out.2)).mono ?_; rintro e w7 ⟨rfl, hb7⟩; have HQ7 : Hid (QT w2 w7 (.slice a6 T.length c6) (T)) := HQ5.out.kept hb7; have x0 := cl_kept hb7 x0; have x1 := cl_kept hb7 x1; have x2 := cl_kept hb7 x2; have x3 := cl_kept hb7 x3; have z8 : B8 < w7.heap.size := World.block_lt_of_cell? _ _ x0; clear hb7)
          have HQ8 : Hid (QT w2 (w7.alloc (.cells #[.int .i64 px, .int .i64 py, .int .i64 2] 52)) (.slice a6 T.length c6) (T)) := HQ7.out.kept (bl_alloc (bl_refl _))
          go_wp2_with (at_builtin; refine wpList_append_own_at _ rfl (.tmp 35) (.tmp 39) 47 rfl w2.heap.size 52 iT (.agg #[.int .i64 0, .int .i64 0, .int .i64 0]) 3 24 Tryd.underlying47 HI.out.1 HI.out.2.1 HI.out.2.2.1 HI.out.2.2.2 rfl (by decide) (.slice a6 T.length c6) T.length _ rfl HQ8.out.1 ⟨w7.heap.size, 0, none⟩ 1 1 [.int .i64 px, .int .i64 py, .int .i64 2] rfl rfl (cell_three_trb _ _ _ _) (three_trb _ _ _) (by unfold maxLen; omega) (by omega) (by have := HQ8.out.2.size; omega) ?growB)
          case growB =>
            intro v2 w9 hown2 hgrow2 _ _
            have HQ9 : Hid (QT w2 w9 v2 (T ++ [(px, py, 2)])) := HQ8.out.more hgrow2 hown2
            obtain ⟨a9, c9, rfl⟩ := own_slice HQ9.out.1
            clear hown2 hgrow2 HQ8
            go_wp2
            go_roundg (K.length - (i + 1))
            case measure => omega
            case rel =>
              refine ⟨i + 1, T ++ [(px, py, 2)], by omega, rfl, by go_num, ?_, HQ9.out⟩
              rw [List.take_succ_eq_append_getElem h1, List.flatMap_append, ← HT.out]
              simp [HTB.out]
      · go_upto_region 9 with (go_at_call 39; refine (CU.out _ (HQ1.out.2)).mono ?_; rintro e w5 ⟨rfl, hb5⟩; have HQ5 : Hid (QT w2 w5 (.slice a6 T.length c6) T) := HQ1.out.kept hb5; have x0 := cl_kept hb5 x0; have x1 := cl_kept hb5 x1; have x2 := cl_kept hb5 x2; have x3 := cl_kept hb5 x3; have z8 : B8 < w5.heap.size := World.block_lt_of_cell? _ _ x0; clear hb5)
        have HQ6 : Hid (QT w2 (w5.alloc (.cells #[.int .i64 px, .int .i64 py, .int .i64 1] 52)) (.slice a6 T.length c6) T) := HQ5.out.kept (bl_alloc (bl_refl _))
        go_wp2_with (at_builtin; refine wpList_append_own_at _ rfl (.tmp 26) (.tmp 30) 47 rfl w2.heap.size 52 iT (.agg #[.int .i64 0, .int .i64 0, .int .i64 0]) 3 24 Tryd.underlying47 HI.out.1 HI.out.2.1 HI.out.2.2.1 HI.out.2.2.2 rfl (by decide) (.slice a6 T.length c6) T.length _ rfl HQ6.out.1 ⟨w5.heap.size, 0, none⟩ 1 1 [.int .i64 px, .int .i64 py, .int .i64 1] rfl rfl (cell_three_trb _ _ _ _) (three_trb _ _ _) (by unfold maxLen; omega) (by omega) (by have := HQ6.out.2.size; omega) ?growA)
        case growA =>
          intro v1 w6 hown1 hgrow1 _ _
          have HQA : Hid (QT w2 w6 v1 (T ++ [(px, py, 1)])) := HQ6.out.more hgrow1 hown1
          have hne : some B8 ≠ (Value.slice a6 T.length c6).ownBlock := fun e => by
            have := HNB.out B8 e.symm
            omega
          replace x0 := hgrow1.cell (al_old (o := .cells #[.int .i64 px, .int .i64 py, .int .i64 1] 52) x0) hne
          replace x1 := hgrow1.cell (al_old (o := .cells #[.int .i64 px, .int .i64 py, .int .i64 1] 52) x1) hne
          replace x2 := hgrow1.cell (al_old (o := .cells #[.int .i64 px, .int .i64 py, .int .i64 1] 52) x2) hne
          replace x3 := hgrow1.cell (al_old (o := .cells #[.int .i64 px, .int .i64 py, .int .i64 1] 52) x3) hne
          have z8 : B8 < w6.heap.size := World.block_lt_of_cell? _ _ x0
          obtain ⟨T1, hT1⟩ : ∃ q, q = T ++ [(px, py, 1)] := ⟨_, rfl⟩
          rw [← hT1] at HQA
          obtain ⟨a7, c7, rfl⟩ := own_slice HQA.out.1
          have HT1 : Hid (T1 = T ++ [(px, py, 1)]) := hT1
          have hT19 : T1.length ≤ 1601 := by rw [hT1, List.length_append]; simp; omega
          clear hown1 hgrow1 HQ6 HQ5 hne hT1
          go_upto_region 10 with (fail)
          cases bv
          · go_wp2_with (go_at_call 40; refine (CB.out _ (HQA.out.2)).mono ?_; rintro e w7 ⟨rfl, hb7⟩; have HQ7 : Hid (QT w2 w7 (.slice a7 T1.length c7) (T1)) := HQA.out.kept hb7; have x0 := cl_kept hb7 x0; have x1 := cl_kept hb7 x1; have x2 := cl_kept hb7 x2; have x3 := cl_kept hb7 x3; have z8 : B8 < w7.heap.size := World.block_lt_of_cell? _ _ x0; clear hb7)
            go_roundg (K.length - (i + 1))
            case measure => omega
            case rel =>
              refine ⟨i + 1, T1, by omega, rfl, by go_num, ?_, HQ7.out⟩
              rw [List.take_succ_eq_append_getElem h1, List.flatMap_append, ← HT.out]
              simp [HTB.out, HT1.out]
          · go_upto_region 11 with (go_at_call 40; refine (CB.out _ (HQA.out.2)).mono ?_; rintro e w7 ⟨rfl, hb7⟩; have HQ7 : Hid (QT w2 w7 (.slice a7 T1.length c7) (T1)) := HQA.out.kept hb7; have x0 := cl_kept hb7 x0; have x1 := cl_kept hb7 x1; have x2 := cl_kept hb7 x2; have x3 := cl_kept hb7 x3; have z8 : B8 < w7.heap.size := World.block_lt_of_cell? _ _ x0; clear hb7)
            have HQ8 : Hid (QT w2 (w7.alloc (.cells #[.int .i64 px, .int .i64 py, .int .i64 2] 52)) (.slice a7 T1.length c7) (T1)) := HQ7.out.kept (bl_alloc (bl_refl _))
            go_wp2_with (at_builtin; refine wpList_append_own_at _ rfl (.tmp 35) (.tmp 39) 47 rfl w2.heap.size 52 iT (.agg #[.int .i64 0, .int .i64 0, .int .i64 0]) 3 24 Tryd.underlying47 HI.out.1 HI.out.2.1 HI.out.2.2.1 HI.out.2.2.2 rfl (by decide) (.slice a7 T1.length c7) T1.length _ rfl HQ8.out.1 ⟨w7.heap.size, 0, none⟩ 1 1 [.int .i64 px, .int .i64 py, .int .i64 2] rfl rfl (cell_three_trb _ _ _ _) (three_trb _ _ _) (by unfold maxLen; omega) (by omega) (by have := HQ8.out.2.size; omega) ?growB)
            case growB =>
              intro v2 w9 hown2 hgrow2 _ _
              have HQ9 : Hid (QT w2 w9 v2 (T1 ++ [(px, py, 2)])) := HQ8.out.more hgrow2 hown2
              obtain ⟨a9, c9, rfl⟩ := own_slice HQ9.out.1
              clear hown2 hgrow2 HQ8
              go_wp2
              go_roundg (K.length - (i + 1))
              case measure => omega
              case rel =>
                refine ⟨i + 1, T1 ++ [(px, py, 2)], by omega, rfl, by go_num, ?_, HQ9.out⟩
                rw [List.take_succ_eq_append_getElem h1, List.flatMap_append, ← HT.out]
                simp [HTB.out, HT1.out]
    · have i1 : ¬ (i : Int) < (K.length : Int) := by omega
      obtain rfl : i = K.length := by omega
      have HT2 : T = TT := by
        have h9 := HT.out
        rw [List.take_length] at h9
        rw [HTT.out]
        exact h9
      subst HT2
      obtain ⟨a9, c9, e9, hrow⟩ := HQ.out.row
      have HRW : Hid (TRow wr a6 T) := by
        simp only [Value.slice.injEq] at e9
        rw [e9.1]
        exact hrow
      clear e9 hrow
      go_wp2
      exact bodyPost_ret (v := .tuple #[.slice a6 T.length c6, .int .i64 0]) (by simp [results, Tryd.results17, go_sem]) rfl ⟨a6, ⟨c6, rfl⟩, HRW.out, bl_via HS.out.2 HQ.out.2⟩
set_option maxRecDepth 100000 in
set_option maxHeartbeats 3200000 in
theorem refTroubles_any (W H : Int) (a c : Option Addr) (n1 n2 ca cc : Nat) (w : World) (K : List (Int × Int)) (F : Int × Int → Nat → Int) (hK : K.length ≤ 800) (hcall : ∀ W' : World, Below w.heap.size w W' → Calls Tryd.prog 15 #[.agg #[.int .i64 W, .int .i64 H, .slice a n1 ca, .slice c n2 cc]] W' fun e w' => ∃ a3 c3, e = .returned (.slice a3 K.length c3) ∧ SRk w' a3 K F ∧ Below W'.heap.size W' w') :
    Calls Tryd.prog 18 #[.agg #[.int .i64 W, .int .i64 H, .slice a n1 ca, .slice c n2 cc]] w fun e w' => ∃ a4 c4, e = .returned (.slice a4 (K.flatMap (trob F)).length c4) ∧ TRow w' a4 (K.flatMap (trob F)) ∧ Below w.heap.size w w' := by
  have HC : Hid (∀ W' : World, Below w.heap.size w W' → Calls Tryd.prog 15 #[.agg #[.int .i64 W, .int .i64 H, .slice a n1 ca, .slice c n2 cc]] W' fun e w' => ∃ a3 c3, e = .returned (.slice a3 K.length c3) ∧ SRk w' a3 K F ∧ Below W'.heap.size W' w') := hcall
  clear hcall
  obtain ⟨TT, hTT⟩ : ∃ q, q = K.flatMap (trob F) := ⟨_, rfl⟩
  have HTT : Hid (TT = K.flatMap (trob F)) := hTT
  rw [← hTT]
  clear hTT
  obtain ⟨iT, hI⟩ := info_parts infTr
  have HI : Hid (Tryd.prog.info? 52 = some iT ∧ iT.zero = some (.agg #[.int .i64 0, .int .i64 0, .int .i64 0]) ∧ iT.size = 3 ∧ iT.bytes = 24) := hI
  clear hI
  go_enter Tryd.func18, Tryd.ntmps18
  go_wp2_with (go_at_call 15; refine (HC.out _ (by with_reducible exact bl_alloc (bl_refl _))).mono ?_; rintro e w2 ⟨a3, c3, rfl, hS, hb⟩; have HS : Hid (SRk w2 a3 K F ∧ Below w.heap.size w w2) := ⟨hS, bl_via (bl_alloc (bl_refl _)) hb⟩; clear hS hb)
  go_loopg [4, 5] K.length (fun gk s4 s5 wx => ∃ (i : Nat) (T : List (Int × Int × Int)), i ≤ K.length ∧ gk = K.length - i ∧ s5 = .int .i64 (i : Int) ∧ T = (K.take i).flatMap (trob F) ∧ QT w2 wx s4 T)
  case atStart => exact ⟨0, [], by omega, rfl, rfl, by simp, QT.start w2⟩
  case round =>
    obtain ⟨i, T, hi, rfl, rfl, hT, hQ⟩ := hrel
    obtain ⟨a4, c4, rfl⟩ := own_slice hQ.1
    have HQ : Hid (QT w2 wr (.slice a4 T.length c4) T) := hQ
    have HT : Hid (T = (K.take i).flatMap (trob F)) := hT
    have hT9 : T.length ≤ 1600 := by
      have h8 := trob_all F (K.take i)
      rw [← hT, List.length_take] at h8
      omega
    clear hT hQ
    by_cases h1 : i < K.length
    · have i1 : (i : Int) < (K.length : Int) := by omega
      have i0 : (0 : Int) ≤ (i : Int) := by omega
      obtain ⟨g, dA, dC, kA, kC, ea, y0, y1, y2, y3, rD, rK⟩ := HS.out.1 i h1
      subst ea
      have hd8 := (sdirs_len (F K[i]) 8).2
      have hk8 : (skinds (F K[i]) 8).length ≤ 8 := by rw [← (sdirs_len (F K[i]) 8).1]; exact hd8
      obtain ⟨bu, hbu⟩ : ∃ q, q = unevB (sdirs (F K[i]) 8) := ⟨_, rfl⟩
      obtain ⟨px, hpx⟩ : ∃ q, q = K[i].1 := ⟨_, rfl⟩
      obtain ⟨py, hpy⟩ : ∃ q, q = K[i].2 := ⟨_, rfl⟩
      obtain ⟨lk, hlk⟩ : ∃ q, q = skinds (F K[i]) 8 := ⟨_, rfl⟩
      obtain ⟨nD, hnD⟩ : ∃ q, q = (sdirs (F K[i]) 8).length := ⟨_, rfl⟩
      obtain ⟨nK, hnK⟩ : ∃ q, q = lk.length := ⟨_, rfl⟩
      obtain ⟨bv, hbv⟩ : ∃ q, q = unbB lk := ⟨_, rfl⟩
      rw [← hlk] at hk8 rK y3
      have CU : Hid (∀ W' : World, Below w2.heap.size w2 W' → Calls Tryd.prog 41 #[.agg #[.int .i64 px, .int .i64 py, .slice dA nD dC, .slice kA nK kC]] W' fun e w' => e = .returned (.bool bu) ∧ Below W'.heap.size W' w') := fun W' hW' => by
        rw [hbu, hnD]
        exact unevenIs_any dA kA dC nK kC px py _ W' (rD.kept hW') hd8 (sdirs_bd _)
      have HRK : Hid (∀ W' : World, Below w2.heap.size w2 W' → Row W' kA lk) := fun W' hW' => rK.kept hW'
      have HBV : Hid (bv = unbB lk) := hbv
      have HNK : Hid (nK = lk.length) := hnK
      have hnk8 : nK ≤ 8 := by omega
      have HTB : Hid (trob F K[i] = (if bu = true then [(px, py, 1)] else []) ++ (if bv = true then [(px, py, 2)] else [])) := by
        have : trob F K[i] = (if bu = true then [(px, py, 1)] else []) ++ (if bv = true then [(px, py, 2)] else []) := by rw [hbu, hbv, hlk, hpx, hpy]; rfl
        exact this
      rw [← hnD] at y2
      rw [← hnK] at y3
      rw [← hpx] at y0
      rw [← hpy] at y1
      replace y0 := cl_kept HQ.out.2 y0
      replace y1 := cl_kept HQ.out.2 y1
      replace y2 := cl_kept HQ.out.2 y2
      replace y3 := cl_kept HQ.out.2 y3
      have zg : g < wr.heap.size := World.block_lt_of_cell? _ _ y0
      have HNB : Hid (g < w2.heap.size) := by
        obtain ⟨g', _, _, _, _, e', y', _⟩ := HS.out.1 i h1
        simp only [Option.some.injEq, Addr.mk.injEq, and_true] at e'
        have := World.block_lt_of_cell? _ _ y'
        rw [← e'] at this
        exact this
      clear rD rK hnD hnK hpx hpy hbu hbv hlk hd8 hk8
      cases bu
      · go_upto_region 8 with (go_at_call 41; refine (CU.out _ (HQ.out.2)).mono ?_; rintro e w5 ⟨rfl, hb5⟩; have HQ5 : Hid (QT w2 w5 (.slice a4 T.length c4) T) := HQ.out.kept hb5; have y0 := cl_kept hb5 y0; have y1 := cl_kept hb5 y1; have y2 := cl_kept hb5 y2; have y3 := cl_kept hb5 y3; have zg : g < w5.heap.size := World.block_lt_of_cell? _ _ y0; clear hb5)
        go_wp2
        go_loopg [6, 7] nK (fun gk s6 s7 wx => ∃ k : Nat, k ≤ nK ∧ gk = nK - k ∧ s6 = .int .i64 (kbal lk k) ∧ s7 = .int .i64 (k : Int) ∧ wx = w5)
        case atStart => exact ⟨0, by omega, rfl, rfl, rfl, rfl⟩
        case round =>
          obtain ⟨k, hk, rfl, rfl, rfl, rfl⟩ := hrel
          have hts := kbal_bd lk k
          obtain ⟨ts, hts2⟩ : ∃ z, z = kbal lk k := ⟨_, rfl⟩
          rw [← hts2] at hts
          rw [← hts2]
          have HTS : Hid (ts = kbal lk k) := hts2
          clear hts2
          by_cases hk1 : k < nK
          · have ik1 : (k : Int) < (nK : Int) := by omega
            have ik0 : (0 : Int) ≤ (k : Int) := by omega
            obtain ⟨gk2, ok2, rfl, c0⟩ := (HRK.out _ HQ5.out.2) k (by have := HNK.out; omega)
            rw [getD_at] at c0
            obtain ⟨x0, hx0⟩ : ∃ z, z = lk.getD k 0 := ⟨_, rfl⟩
            have HNX : Hid (kbal lk (k + 1) = ts + if x0 = 1 then 1 else -1) := by
              have : kbal lk (k + 1) = ts + if x0 = 1 then 1 else -1 := by rw [HTS.out, hx0]; rfl
              exact this
            rw [← hx0] at c0
            have zk : gk2 < wr.heap.size := World.block_lt_of_cell? _ _ c0
            clear hx0
            by_cases q : x0 = 1
            · have qb : (x0 == 1) = true := by simpa using q
              have HN2 : Hid (kbal lk (k + 1) = ts + 1) := by
                have : kbal lk (k + 1) = ts + 1 := by rw [HNX.out, if_pos q]
                exact this
              clear q
              go_wp2
              go_roundg (nK - (k + 1))
              case measure => omega
              case rel => exact ⟨k + 1, by omega, rfl, by rw [HN2.out], by go_num, rfl⟩
            · have qb : (x0 == 1) = false := by simpa using q
              have HN2 : Hid (kbal lk (k + 1) = ts - 1) := by
                have : kbal lk (k + 1) = ts - 1 := by rw [HNX.out, if_neg q]; omega
                exact this
              clear q
              go_wp2
              go_roundg (nK - (k + 1))
              case measure => omega
              case rel => exact ⟨k + 1, by omega, rfl, by rw [HN2.out], by go_num, rfl⟩
          · have ik1 : ¬ (k : Int) < (nK : Int) := by omega
            obtain rfl : k = nK := by omega
            have hbv2 : bv = (decide (ts ≠ 2) && decide (ts ≠ -2)) := by rw [HBV.out, unbB, ← HNK.out, ← HTS.out]
            by_cases q2 : ts = 2
            · have qq : (ts != 2) = false := by simpa using q2
              obtain rfl : bv = false := by rw [hbv2]; simp [q2]
              clear q2 hbv2
              go_wp2
              go_roundg (K.length - (i + 1))
              case measure => omega
              case rel =>
                refine ⟨i + 1, T, by omega, rfl, by go_num, ?_, HQ5.out⟩
                rw [List.take_succ_eq_append_getElem h1, List.flatMap_append, ← HT.out]
                simp [HTB.out]
            · have qq : (ts != 2) = true := by simpa using q2
              by_cases q3 : ts = -2
              · have qr : (ts != -2) = false := by simpa using q3
                obtain rfl : bv = false := by rw [hbv2]; simp [q3]
                clear q2 q3 hbv2
                go_wp2
                go_roundg (K.length - (i + 1))
                case measure => omega
                case rel =>
                  refine ⟨i + 1, T, by omega, rfl, by go_num, ?_, HQ5.out⟩
                  rw [List.take_succ_eq_append_getElem h1, List.flatMap_append, ← HT.out]
                  simp [HTB.out]
              · have qr : (ts != -2) = true := by simpa using q3
                obtain rfl : bv = true := by rw [hbv2]; simp [q2, q3]
                clear q2 q3 hbv2
                go_upto_region 16 with (fail)
                have HQ8 : Hid (QT w2 (wr.alloc (.cells #[.int .i64 px, .int .i64 py, .int .i64 2] 52)) (.slice a4 T.length c4) (T)) := HQ5.out.kept (bl_alloc (bl_refl _))
                go_wp2_with (at_builtin; refine wpList_append_own_at _ rfl (.tmp 59) (.tmp 66) 47 rfl w2.heap.size 52 iT (.agg #[.int .i64 0, .int .i64 0, .int .i64 0]) 3 24 Tryd.underlying47 HI.out.1 HI.out.2.1 HI.out.2.2.1 HI.out.2.2.2 rfl (by decide) (.slice a4 T.length c4) T.length _ rfl HQ8.out.1 ⟨wr.heap.size, 0, none⟩ 1 1 [.int .i64 px, .int .i64 py, .int .i64 2] rfl rfl (cell_three_trb _ _ _ _) (three_trb _ _ _) (by unfold maxLen; omega) (by omega) (by have := HQ8.out.2.size; omega) ?growB)
                case growB =>
                  intro v2 w9 hown2 hgrow2 _ _
                  have HQ9 : Hid (QT w2 w9 v2 (T ++ [(px, py, 2)])) := HQ8.out.more hgrow2 hown2
                  obtain ⟨a9, c9, rfl⟩ := own_slice HQ9.out.1
                  clear hown2 hgrow2 HQ8
                  go_wp2
                  go_roundg (K.length - (i + 1))
                  case measure => omega
                  case rel =>
                    refine ⟨i + 1, T ++ [(px, py, 2)], by omega, rfl, by go_num, ?_, HQ9.out⟩
                    rw [List.take_succ_eq_append_getElem h1, List.flatMap_append, ← HT.out]
                    simp [HTB.out]
      · go_upto_region 7 with (go_at_call 41; refine (CU.out _ (HQ.out.2)).mono ?_; rintro e w5 ⟨rfl, hb5⟩; have HQ5 : Hid (QT w2 w5 (.slice a4 T.length c4) T) := HQ.out.kept hb5; have y0 := cl_kept hb5 y0; have y1 := cl_kept hb5 y1; have y2 := cl_kept hb5 y2; have y3 := cl_kept hb5 y3; have zg : g < w5.heap.size := World.block_lt_of_cell? _ _ y0; clear hb5)
        have HQ6 : Hid (QT w2 (w5.alloc (.cells #[.int .i64 px, .int .i64 py, .int .i64 1] 52)) (.slice a4 T.length c4) T) := HQ5.out.kept (bl_alloc (bl_refl _))
        go_wp2_with (at_builtin; refine wpList_append_own_at _ rfl (.tmp 21) (.tmp 28) 47 rfl w2.heap.size 52 iT (.agg #[.int .i64 0, .int .i64 0, .int .i64 0]) 3 24 Tryd.underlying47 HI.out.1 HI.out.2.1 HI.out.2.2.1 HI.out.2.2.2 rfl (by decide) (.slice a4 T.length c4) T.length _ rfl HQ6.out.1 ⟨w5.heap.size, 0, none⟩ 1 1 [.int .i64 px, .int .i64 py, .int .i64 1] rfl rfl (cell_three_trb _ _ _ _) (three_trb _ _ _) (by unfold maxLen; omega) (by omega) (by have := HQ6.out.2.size; omega) ?growA)
        case growA =>
          intro v1 w6 hown1 hgrow1 _ _
          have HQA : Hid (QT w2 w6 v1 (T ++ [(px, py, 1)])) := HQ6.out.more hgrow1 hown1
          have hne : some g ≠ (Value.slice a4 T.length c4).ownBlock := fun e => by
            have := own_base HQ6.out.1 g e.symm
            have := HNB.out
            omega
          replace y0 := hgrow1.cell (al_old (o := .cells #[.int .i64 px, .int .i64 py, .int .i64 1] 52) y0) hne
          replace y1 := hgrow1.cell (al_old (o := .cells #[.int .i64 px, .int .i64 py, .int .i64 1] 52) y1) hne
          replace y2 := hgrow1.cell (al_old (o := .cells #[.int .i64 px, .int .i64 py, .int .i64 1] 52) y2) hne
          replace y3 := hgrow1.cell (al_old (o := .cells #[.int .i64 px, .int .i64 py, .int .i64 1] 52) y3) hne
          have zg : g < w6.heap.size := World.block_lt_of_cell? _ _ y0
          obtain ⟨T1, hT1⟩ : ∃ q, q = T ++ [(px, py, 1)] := ⟨_, rfl⟩
          rw [← hT1] at HQA
          obtain ⟨a7, c7, rfl⟩ := own_slice HQA.out.1
          have HT1 : Hid (T1 = T ++ [(px, py, 1)]) := hT1
          have hT19 : T1.length ≤ 1601 := by rw [hT1, List.length_append]; simp; omega
          clear hown1 hgrow1 HQ6 HQ5 hne hT1
          go_wp2
          go_loopg [6, 7] nK (fun gk s6 s7 wx => ∃ k : Nat, k ≤ nK ∧ gk = nK - k ∧ s6 = .int .i64 (kbal lk k) ∧ s7 = .int .i64 (k : Int) ∧ wx = w6)
          case atStart => exact ⟨0, by omega, rfl, rfl, rfl, rfl⟩
          case round =>
            obtain ⟨k, hk, rfl, rfl, rfl, rfl⟩ := hrel
            have hts := kbal_bd lk k
            obtain ⟨ts, hts2⟩ : ∃ z, z = kbal lk k := ⟨_, rfl⟩
            rw [← hts2] at hts
            rw [← hts2]
            have HTS : Hid (ts = kbal lk k) := hts2
            clear hts2
            by_cases hk1 : k < nK
            · have ik1 : (k : Int) < (nK : Int) := by omega
              have ik0 : (0 : Int) ≤ (k : Int) := by omega
              obtain ⟨gk2, ok2, rfl, c0⟩ := (HRK.out _ HQA.out.2) k (by have := HNK.out; omega)
              rw [getD_at] at c0
              obtain ⟨x0, hx0⟩ : ∃ z, z = lk.getD k 0 := ⟨_, rfl⟩
              have HNX : Hid (kbal lk (k + 1) = ts + if x0 = 1 then 1 else -1) := by
                have : kbal lk (k + 1) = ts + if x0 = 1 then 1 else -1 := by rw [HTS.out, hx0]; rfl
                exact this
              rw [← hx0] at c0
              have zk : gk2 < wr.heap.size := World.block_lt_of_cell? _ _ c0
              clear hx0
              by_cases q : x0 = 1
              · have qb : (x0 == 1) = true := by simpa using q
                have HN2 : Hid (kbal lk (k + 1) = ts + 1) := by
                  have : kbal lk (k + 1) = ts + 1 := by rw [HNX.out, if_pos q]
                  exact this
                clear q
                go_wp2
                go_roundg (nK - (k + 1))
                case measure => omega
                case rel => exact ⟨k + 1, by omega, rfl, by rw [HN2.out], by go_num, rfl⟩
              · have qb : (x0 == 1) = false := by simpa using q
                have HN2 : Hid (kbal lk (k + 1) = ts - 1) := by
                  have : kbal lk (k + 1) = ts - 1 := by rw [HNX.out, if_neg q]; omega
                  exact this
                clear q
                go_wp2
                go_roundg (nK - (k + 1))
                case measure => omega
                case rel => exact ⟨k + 1, by omega, rfl, by rw [HN2.out], by go_num, rfl⟩
            · have ik1 : ¬ (k : Int) < (nK : Int) := by omega
              obtain rfl : k = nK := by omega
              have hbv2 : bv = (decide (ts ≠ 2) && decide (ts ≠ -2)) := by rw [HBV.out, unbB, ← HNK.out, ← HTS.out]
              by_cases q2 : ts = 2
              · have qq : (ts != 2) = false := by simpa using q2
                obtain rfl : bv = false := by rw [hbv2]; simp [q2]
                clear q2 hbv2
                go_wp2
                go_roundg (K.length - (i + 1))
                case measure => omega
                case rel =>
                  refine ⟨i + 1, T1, by omega, rfl, by go_num, ?_, HQA.out⟩
                  rw [List.take_succ_eq_append_getElem h1, List.flatMap_append, ← HT.out]
                  simp [HTB.out, HT1.out]
              · have qq : (ts != 2) = true := by simpa using q2
                by_cases q3 : ts = -2
                · have qr : (ts != -2) = false := by simpa using q3
                  obtain rfl : bv = false := by rw [hbv2]; simp [q3]
                  clear q2 q3 hbv2
                  go_wp2
                  go_roundg (K.length - (i + 1))
                  case measure => omega
                  case rel =>
                    refine ⟨i + 1, T1, by omega, rfl, by go_num, ?_, HQA.out⟩
                    rw [List.take_succ_eq_append_getElem h1, List.flatMap_append, ← HT.out]
                    simp [HTB.out, HT1.out]
                · have qr : (ts != -2) = true := by simpa using q3
                  obtain rfl : bv = true := by rw [hbv2]; simp [q2, q3]
                  clear q2 q3 hbv2
                  go_upto_region 16 with (fail)
                  have HQ8 : Hid (QT w2 (wr.alloc (.cells #[.int .i64 px, .int .i64 py, .int .i64 2] 52)) (.slice a7 T1.length c7) (T1)) := HQA.out.kept (bl_alloc (bl_refl _))
                  go_wp2_with (at_builtin; refine wpList_append_own_at _ rfl (.tmp 59) (.tmp 66) 47 rfl w2.heap.size 52 iT (.agg #[.int .i64 0, .int .i64 0, .int .i64 0]) 3 24 Tryd.underlying47 HI.out.1 HI.out.2.1 HI.out.2.2.1 HI.out.2.2.2 rfl (by decide) (.slice a7 T1.length c7) T1.length _ rfl HQ8.out.1 ⟨wr.heap.size, 0, none⟩ 1 1 [.int .i64 px, .int .i64 py, .int .i64 2] rfl rfl (cell_three_trb _ _ _ _) (three_trb _ _ _) (by unfold maxLen; omega) (by omega) (by have := HQ8.out.2.size; omega) ?growB)
                  case growB =>
                    intro v2 w9 hown2 hgrow2 _ _
                    have HQ9 : Hid (QT w2 w9 v2 (T1 ++ [(px, py, 2)])) := HQ8.out.more hgrow2 hown2
                    obtain ⟨a9, c9, rfl⟩ := own_slice HQ9.out.1
                    clear hown2 hgrow2 HQ8
                    go_wp2
                    go_roundg (K.length - (i + 1))
                    case measure => omega
                    case rel =>
                      refine ⟨i + 1, T1 ++ [(px, py, 2)], by omega, rfl, by go_num, ?_, HQ9.out⟩
                      rw [List.take_succ_eq_append_getElem h1, List.flatMap_append, ← HT.out]
                      simp [HTB.out, HT1.out]
    · have i1 : ¬ (i : Int) < (K.length : Int) := by omega
      obtain rfl : i = K.length := by omega
      have HT2 : T = TT := by
        have h9 := HT.out
        rw [List.take_length] at h9
        rw [HTT.out]
        exact h9
      subst HT2
      obtain ⟨a9, c9, e9, hrow⟩ := HQ.out.row
      have HRW : Hid (TRow wr a4 T) := by
        simp only [Value.slice.injEq] at e9
        rw [e9.1]
        exact hrow
      clear e9 hrow
      go_wp2
      go_ret
      exact ⟨a4, ⟨c4, rfl⟩, HRW.out, bl_via HS.out.2 HQ.out.2⟩
end Go.Proofs.YtmjneoaciopioaaDoor
