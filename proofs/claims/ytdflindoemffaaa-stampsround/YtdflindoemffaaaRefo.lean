/- The reference's OrdersOf. -/
import Derived.Test.YtdflindoemffaaaThos
namespace Go.Proofs.Ytdflindoemffaaa
open Go.RowKit

/-- append(nil, x...), x empty or not. -/
theorem wpList_copy (w : World) {ops : Array Oper} {rest : List Oper} {o : Oper} {a : Act} {Q : Exit → Act → World → Prop} (hgd : o.guard = none) (s x : Operand)
    (ho : o.op = .call { callee := .builtin .append, args := #[s, x], argTypes := #[22, 22] }) (hs : a.eval s = .slice none 0 0) (ad : Option Addr) (c : Nat) (b : List Int) (hx : a.eval x = .slice ad b.length c)
    (hR : ∀ i, i < b.length → ∃ g off, ad = some ⟨g, off, none⟩ ∧ w.cell? ⟨g, off + i, none⟩ = some (.int .i64 (gt b i))) (h8 : b.length ≤ 8)
    (h : ∀ cv w', w'.ownsRow w.heap.size 3 1 cv b.length (rowI b) → Below w.heap.size w w' → wpList Try.prog ops Q rest (a.put o.dst cv) w') : wpList Try.prog ops Q (o :: rest) a w := by
  obtain ⟨i3, hI⟩ := info_parts inf3
  by_cases h0 : b.length = 0
  · have e0 : b = [] := List.length_eq_zero_iff.1 h0
    subst e0
    exact wpList_append_nothing w hgd s x 22 ho 3 i3 Try.underlying22 hI.1 ad c hs hx (h _ w ⟨rfl, Or.inl ⟨rfl, rfl⟩⟩ (bl_refl w))
  · obtain ⟨g, off, rfl, _⟩ := hR 0 (by omega)
    refine wpList_append_lies w hgd s x 22 ho w.heap.size 3 i3 (.int .i64 0) 1 8 Try.underlying22 hI.1 hI.2.1 hI.2.2.1 hI.2.2.2 rfl (by decide) (.slice none 0 0) 0 [] hs ⟨rfl, Or.inl ⟨rfl, rfl⟩⟩ ⟨g, off, none⟩ b.length c (rowI b) hx (by simp [rowI]) (fun j u hu => ?_) (rowI_one b) (by omega) (by unfold maxLen; omega) (by omega) (Nat.le_refl _) _ rfl (fun g' cap w' hown hgr _ _ => ?_)
    · have hj : j < b.length := by
        rcases Nat.lt_or_ge j b.length with h | h
        · exact h
        · rw [List.getElem?_eq_none (by simpa [rowI] using h)] at hu
          cases hu
      obtain ⟨g', off', e', h'⟩ := hR j hj
      cases e'
      rw [show (⟨g, off, none⟩ : Addr).add j = ⟨g, off + j, none⟩ from by simp [Addr.add], h', gt_lt hj]
      simp [rowI, hj] at hu
      rw [hu]
    · rw [Nat.zero_add] at hown ⊢
      exact h _ w' (by simpa using hown) (bl_grown_none (by simpa [Value.ownBlock] using hgr))
/-- append(out, more...), more empty or not. -/
theorem wpList_append_out (w : World) {ops : Array Oper} {rest : List Oper} {o : Oper} {a : Act} {Q : Exit → Act → World → Prop} (hgd : o.guard = none) (s x : Operand)
    (ho : o.op = .call { callee := .builtin .append, args := #[s, x], argTypes := #[32, 32] }) (base base2 : Nat) (v u : Value) (es es2 : List (Nat × Nat × List Int)) (hs : a.eval s = v) (hx : a.eval x = u) (hO : OutS w base v es) (hU : OutS w base2 u es2) (hb : base ≤ base2)
    (hb2 : ∀ j, v.ownBlock = some j → j < base2) (hbase : base ≤ w.heap.size) (hlen : es.length + es2.length ≤ 20000000)
    (h : ∀ v' w', OutS w' base v' (es ++ es2) → w.grownBy w' v.ownBlock → wpList Try.prog ops Q rest (a.put o.dst v') w') : wpList Try.prog ops Q (o :: rest) a w := by
  obtain ⟨iv, hJ⟩ := info_parts infV
  by_cases h0 : es2 = []
  · have hu := hU.2.1 h0
    subst h0
    rw [hu] at hx
    exact wpList_append_own_none hgd s x 32 ho base 22 iv 1 Try.underlying32 hJ.1 v es.length (es.map sv) hs hO.1 hx (h v w (by rw [List.append_nil]; exact hO) ⟨rfl, rfl, rfl, Nat.le_refl _, fun _ _ _ => rfl⟩)
  · have hp : 0 < es2.length := List.length_pos_iff.2 h0
    obtain ⟨g2, c2, rfl, _, _⟩ := hU.1.form hp
    refine wpList_append_lies w hgd s x 32 ho base 22 iv (.slice none 0 0) 1 24 Try.underlying32 hJ.1 hJ.2.1 hJ.2.2.1 hJ.2.2.2 rfl (by decide) v es.length (es.map sv) hs hO.1 ⟨g2, 0, none⟩ es2.length c2 (es2.map sv) hx (by simp) (hU.1.cells (g := g2) rfl) (sv_one es2) hp (by unfold maxLen; omega) (by omega) hbase _ rfl (fun g' cap w' hown hgr hat _ => ?_)
    rcases hO.more (ns := es2) (fun e he => by
      obtain ⟨a1, a2, a3, _⟩ := hU.2.2 e he
      refine ⟨a1, a2, by omega, fun e1 => ?_⟩
      have := hb2 _ e1.symm
      omega) hown hgr hat with hm | hm
    · exact h _ w' hm hgr
    · exact absurd (List.append_eq_nil_iff.1 hm).2 h0
theorem out_first (w : World) (base gc cc : Nat) (b : List Int) (hb : base ≤ w.heap.size) (hr : Rw w gc b) (h0 : 0 < b.length) (hg : base ≤ gc) (hcc : b.length ≤ cc) :
    OutS (w.alloc (.cells #[.slice (some ⟨gc, 0, none⟩) b.length cc] 22)) base (.slice (some ⟨w.heap.size, 0, none⟩) 1 1) [(gc, cc, b)] := by
  refine ⟨⟨rfl, .inr ⟨w.heap.size, 1, _, rfl, hb, heap_alloc_new w _, Nat.le_refl _, by unfold maxLen; omega, by simp, by simp [sv]⟩⟩, fun e => by simp at e, fun e he => ?_⟩
  simp at he
  subst he
  refine ⟨hr.kept (bl_alloc (bl_refl w)), ⟨h0, hcc⟩, hg, fun e => ?_⟩
  simp only [Value.ownBlock, Option.some.injEq] at e
  have := hr.lt h0
  omega
theorem len_bound {n f i : Nat} {b : List Int} {es es2 : List (Nat × Nat × List Int)} (hP : n ^ (f + 1) ≤ 20000000) (hi : i < n) (hc : b.contains ((i : Int) + 1) = false) (h1 : lsO es = pre gdB n f b i) (h2 : lsO es2 = ords gdB n f (b ++ [(i : Int) + 1])) : es.length + es2.length ≤ 20000000 := by
  have a0 := pre_len (b := b) (ords_len gdB n f) (i + 1)
  rw [pre_new hc, ← h1, ← h2, List.length_append] at a0
  have a3 : (i + 1) * n ^ f ≤ n * n ^ f := Nat.mul_le_mul_right _ (by omega)
  rw [Nat.pow_succ, Nat.mul_comm] at hP
  simp [lsO] at a0
  omega
set_option maxRecDepth 100000 in
set_option maxHeartbeats 1600000 in
theorem orders_any (n : Nat) (h1 : 1 ≤ n) (h8 : n ≤ 8) : ∀ (f : Nat) (b : List Int) (v : Value) (W : World), b.length + f = n → Pp n b → Sg W v b →
    Calls Try.prog 17 #[v, .int .i64 (n : Int)] W fun e w' => ∃ u es, e = .returned u ∧ OutS w' W.heap.size u es ∧ lsO es = ords gdB n f b ∧ Below W.heap.size W w'
  | 0, b, v, W, hf, hp, hv => by
    have hl : b.length = n := by omega
    have CG : Hid (Calls Try.prog 12 #[v] W fun e w' => e = .returned (.bool (gdB b)) ∧ Below W.heap.size W w') := orderGood_any v b W hv (hp.prm hl) (by omega)
    obtain ⟨a, c, rfl, hR⟩ := hv
    have HRD : Hid (∀ i, i < b.length → ∃ g off, a = some ⟨g, off, none⟩ ∧ W.cell? ⟨g, off + i, none⟩ = some (.int .i64 (gt b i))) := hR
    obtain ⟨gb, hgb⟩ : ∃ x, x = gdB b := ⟨_, rfl⟩
    have HG : Hid (gdB b = gb) := hgb.symm
    rw [← hgb] at CG
    have q : ((b.length : Int) == (n : Int)) = true := by rw [hl]; simp
    have b1 : 1 ≤ b.length := by omega
    have b8 : b.length ≤ 8 := by omega
    clear hR hgb hp hf hl
    cases gb
    · go_enter Try.func17, Try.ntmps17
      go_wp2_with (go_at_call 12; refine CG.out.mono ?_; rintro e w1 ⟨rfl, hb⟩)
      go_ret
      exact ⟨_, [], rfl, OutS.nil _ _, by rw [ords, HG.out]; rfl, hb⟩
    · go_enter Try.func17, Try.ntmps17
      go_wp2_with (first | (go_at_call 12; refine CG.out.mono ?_; rintro e w1 ⟨rfl, hb⟩; have HB1 : Hid (Below W.heap.size W w1) := hb; clear hb) | (at_builtin; refine wpList_copy _ rfl (.const (.slice none 0 0)) (.tmp 14) rfl rfl a c b rfl (fun i hi => by obtain ⟨g, off, e, h⟩ := HRD.out i hi; exact ⟨g, off, e, cl_kept HB1.out h⟩) (by omega) ?cp))
      case cp =>
        intro cv w2 hown hb2
        obtain ⟨gc, cc, rfl, hge, hlt⟩ := hown.form (by omega)
        have HX : Hid (OutS (w2.alloc (.cells #[.slice (some ⟨gc, 0, none⟩) b.length cc] 22)) W.heap.size (.slice (some ⟨w2.heap.size, 0, none⟩) 1 1) [(gc, cc, b)] ∧ Below W.heap.size W (w2.alloc (.cells #[.slice (some ⟨gc, 0, none⟩) b.length cc] 22))) := by
          have h5 := HB1.out.size
          have h6 := hb2.size
          exact ⟨out_first w2 _ gc cc b (by omega) (own_rw hown) (by omega) (by omega) (own_cap hown), bl_alloc (bl_via HB1.out hb2)⟩
        clear hown hb2 hge hlt
        go_wp2
        go_ret
        exact ⟨_, _, rfl, HX.out.1, by rw [ords, HG.out]; rfl, HX.out.2⟩
  | f + 1, b, v, W, hf, hp, hv => by
    have HR : Hid (∀ (b' : List Int) (v' : Value) (W' : World), b'.length = b.length + 1 → Pp n b' → Sg W' v' b' → Calls Try.prog 17 #[v', .int .i64 (n : Int)] W' fun e w' => ∃ u es, e = .returned u ∧ OutS w' W'.heap.size u es ∧ lsO es = ords gdB n f b' ∧ Below W'.heap.size W' w') := fun b' v' W' hl hp' hv' => orders_any n h1 h8 f b' v' W' (by omega) hp' hv'
    have CW : Hid (∀ (s : Int) (W' : World), Below W.heap.size W W' → Calls Try.prog 25 #[v, .int .i64 s] W' fun e w' => e = .returned (.bool (b.contains s)) ∧ Below W'.heap.size W' w') := fun s W' hW => within_any v b s W' (hv.kept hW) (by omega)
    have hlt : b.length < n := by omega
    have hf7 : f ≤ 8 := by omega
    obtain ⟨a, c, rfl, hR⟩ := hv
    have HRD : Hid (∀ i, i < b.length → ∃ g off, a = some ⟨g, off, none⟩ ∧ W.cell? ⟨g, off + i, none⟩ = some (.int .i64 (gt b i))) := hR
    have HP : Hid (Pp n b) := hp
    have HPW : Hid (n ^ (f + 1) ≤ 20000000) := pow_bd h8 (by omega)
    obtain ⟨i3, hI⟩ := info_parts inf3
    have HI : Hid (Try.prog.info? 3 = some i3 ∧ i3.zero = some (.int .i64 0) ∧ i3.size = 1 ∧ i3.bytes = 8) := hI
    obtain ⟨iv, hJ⟩ := info_parts infV
    have HJ : Hid (Try.prog.info? 22 = some iv ∧ iv.zero = some (.slice none 0 0) ∧ iv.size = 1 ∧ iv.bytes = 24) := hJ
    have q : ((b.length : Int) == (n : Int)) = false := by rw [beq_eq_false_iff_ne]; omega
    rw [ords_succ]
    clear hR hp hf hI hJ
    go_enter Try.func17, Try.ntmps17
    go_wp2
    go_loopg [5, 6] n (fun gk s5 s6 wx => ∃ (i : Nat) (es : List (Nat × Nat × List Int)), i ≤ n ∧ gk = n - i ∧ s6 = .int .i64 ((i : Int) + 1) ∧ OutS wx W.heap.size s5 es ∧ lsO es = pre gdB n f b i ∧ Below W.heap.size W wx)
    case atStart => exact ⟨0, [], by omega, rfl, rfl, OutS.nil _ _, rfl, bl_refl _⟩
    case round =>
      obtain ⟨i, es, hi, rfl, rfl, hO, hls, hB⟩ := hrel
      have HO : Hid (OutS wr W.heap.size u5 es ∧ lsO es = pre gdB n f b i) := ⟨hO, hls⟩
      have HB : Hid (Below W.heap.size W wr) := hB
      clear hO hls hB
      by_cases h2 : i < n
      · have i1 : (i : Int) + 1 ≤ (n : Int) := by omega
        have C1 := CW.out ((i : Int) + 1) wr HB.out
        obtain ⟨cb, hcb⟩ : ∃ x, x = b.contains ((i : Int) + 1) := ⟨_, rfl⟩
        have HCB : Hid (b.contains ((i : Int) + 1) = cb) := hcb.symm
        rw [← hcb] at C1
        have CH : Hid (Calls Try.prog 25 #[.slice a b.length c, .int .i64 ((i : Int) + 1)] wr fun e w' => e = .returned (.bool cb) ∧ Below wr.heap.size wr w') := C1
        clear C1 hcb
        cases cb
        · go_wp2_with (first | (go_at_call 25; refine CH.out.mono ?_; rintro e w1 ⟨rfl, hb⟩; have HB1 : Hid (Below wr.heap.size wr w1) := hb; clear hb) | (at_builtin; refine wpList_copy _ rfl (.const (.slice none 0 0)) (.tmp 26) rfl rfl a c b rfl (fun i hi => by obtain ⟨g, off, e, h⟩ := HRD.out i hi; exact ⟨g, off, e, cl_kept (bl_via HB.out HB1.out) h⟩) (by omega) ?cp2))
          case cp2 =>
            intro cv w2 hown hb2
            have HB2 : Hid (w2.ownsRow w1.heap.size 3 1 cv b.length (rowI b) ∧ Below w1.heap.size w1 w2) := ⟨hown, hb2⟩
            clear hown hb2
            go_wp2_with (at_builtin; refine wpList_append_lies _ rfl (.tmp 27) (.tmp 29) 22 rfl w1.heap.size 3 i3 (.int .i64 0) 1 8 Try.underlying22 HI.out.1 HI.out.2.1 HI.out.2.2.1 HI.out.2.2.2 rfl (by decide) cv b.length (rowI b) rfl (own_below HB2.out.1 (bl_alloc (bl_refl _))) ⟨w2.heap.size, 0, none⟩ 1 1 [.int .i64 ((i : Int) + 1)] rfl rfl (cell_one _ (by simp [go_sem])) (one_cell _) (by decide) (by unfold maxLen; omega) (by omega) (by have := HB2.out.2.size; simp; omega) _ rfl ?ap2)
            case ap2 =>
              intro g3 cap3 w3 hown hgr hat hlt3
              have HB3 : Hid (Below wr.heap.size wr w3) := by
                have h5 : Below w1.heap.size w1 w3 := (bl_alloc HB2.out.2).grown hgr (by have := HB2.out.2.size; simp; omega) (fun k hk => own_base HB2.out.1 k hk)
                exact bl_via HB1.out h5
              have hsg : Sg w3 (.slice (some ⟨g3, 0, none⟩) (b.length + 1) cap3) (b ++ [(i : Int) + 1]) := by
                have := rw_sg (c := cap3) (own_rw (l := b ++ [(i : Int) + 1]) (by rw [rowI_add]; exact hown))
                rwa [List.length_append, List.length_singleton] at this
              have CP : Hid (Calls Try.prog 17 #[.slice (some ⟨g3, 0, none⟩) (b.length + 1) cap3, .int .i64 (n : Int)] w3 fun e w' => ∃ u es2, e = .returned u ∧ OutS w' w3.heap.size u es2 ∧ lsO es2 = ords gdB n f (b ++ [(i : Int) + 1]) ∧ Below w3.heap.size w3 w') := HR.out _ _ w3 (by simp) (HP.out.more h2 HCB.out) hsg
              clear hown hgr hat hlt3 hsg
              go_wp2_with (first | (go_at_call 17; refine CP.out.mono ?_; rintro e w4 ⟨u4, es2, rfl, hO2, hls2, hb4⟩; have H4 : Hid (OutS w4 w3.heap.size u4 es2 ∧ lsO es2 = ords gdB n f (b ++ [(i : Int) + 1]) ∧ Below wr.heap.size wr w4) := ⟨hO2, hls2, bl_via HB3.out hb4⟩; have HB34 : Hid (Below w3.heap.size w3 w4) := hb4; have HLN : Hid (es.length + es2.length ≤ 20000000) := len_bound HPW.out h2 HCB.out HO.out.2 hls2; clear hO2 hls2 hb4) | (at_builtin; refine wpList_append_out _ rfl (.tmp 33) (.tmp 34) rfl W.heap.size w3.heap.size u5 u4 es es2 rfl rfl (HO.out.1.kept H4.out.2.2) H4.out.1 (by have := HB.out.size; have := HB3.out.size; omega) (fun j hj => by have := (HO.out.1.1.lt j hj).2; have := HB3.out.size; omega) (by have := HB.out.size; have := H4.out.2.2.size; omega) HLN.out ?ap3))
              case ap3 =>
                intro v5 w5 hO5 hgr5
                have H5 : Hid (OutS w5 W.heap.size v5 (es ++ es2) ∧ Below W.heap.size W w5) := ⟨hO5, (bl_via HB.out H4.out.2.2).grown hgr5 (Nat.le_trans HB.out.size H4.out.2.2.size) (fun k hk => (HO.out.1.1.lt k hk).1)⟩
                clear hO5 hgr5
                go_wp2
                go_roundg (n - (i + 1))
                case measure => omega
                case rel => exact ⟨i + 1, es ++ es2, by omega, rfl, by go_num, H5.out.1, by rw [lsO_app, HO.out.2, H4.out.2.1, pre_new HCB.out], H5.out.2⟩
        · go_wp2_with (go_at_call 25; refine CH.out.mono ?_; rintro e w1 ⟨rfl, hb⟩)
          go_roundg (n - (i + 1))
          case measure => omega
          case rel => exact ⟨i + 1, es, by omega, rfl, by go_num, HO.out.1.kept hb, by rw [HO.out.2, pre_has HCB.out], bl_via HB.out hb⟩
      · have i1 : ¬ (i : Int) + 1 ≤ (n : Int) := by omega
        obtain rfl : i = n := by omega
        go_wp2
        go_ret
        exact ⟨_, rfl, es, HO.out.1, HO.out.2, HB.out⟩
end Go.Proofs.Ytdflindoemffaaa
