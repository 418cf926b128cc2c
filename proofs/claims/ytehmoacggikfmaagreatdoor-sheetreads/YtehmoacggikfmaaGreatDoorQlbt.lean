/- The sheet that was read. -/
import Derived.Test.YtehmoacggikfmaaGreatDoorQlbp
import Derived.Test.YtehmoacggikfmaaGreatDoorQlbs
import Derived.Test.YtehmoacggikfmaaGreatDoorQlae
namespace Go.Proofs.YtehmoacggikfmaaGreatDoor
open Go.RowKit Go.ChangeMaps

theorem wp_append_run {P : Program} {o : Oper} {a : Act} {w : World} {K : Act → World → Prop} {Q : Exit → Act → World → Prop} (s x : Operand) (t : TypeId) (ho : o.op = .call { callee := .builtin .append, args := #[s, x], argTypes := #[t, t] }) (vs vx v' : Value) (w' : World) (hs : a.eval s = vs) (hx : a.eval x = vx) (hr : (Builtin.append_ #[t, t] o.type #[vs, vx]).run P w = .ok v' w') (hK : K (a.put o.dst v') w') : Oper.wp P o a w K Q := by
  unfold Oper.wp execOp
  simp only [ho, resolve, invoke, builtin, Sem.run_bind, Sem.run_pure, Result.andThen_ok, List.map_toArray, List.map_cons, List.map_nil, hs, hx, hr]
  exact hK
/-- A sheet while its creases are laid. -/
structure SI (w wx : World) (B W H : Nat) (mk v : Value) (a8 : Option Addr) (es : List E4) (l : List C5) : Prop where
  t0 : wx.cell? ⟨w.heap.size, 0, none⟩ = some (.int .i64 0)
  t1 : wx.cell? ⟨w.heap.size, 1, none⟩ = some (.int .i64 0)
  t2 : wx.cell? ⟨w.heap.size, 2, none⟩ = some (.slice none 0 0)
  t3 : wx.cell? ⟨w.heap.size, 3, none⟩ = some (.slice none 0 0)
  s0 : wx.cell? ⟨w.heap.size + 1, 0, none⟩ = some (.int .i64 (W : Int))
  s1 : wx.cell? ⟨w.heap.size + 1, 1, none⟩ = some (.int .i64 (H : Int))
  s2 : wx.cell? ⟨w.heap.size + 1, 2, none⟩ = some mk
  s3 : wx.cell? ⟨w.heap.size + 1, 3, none⟩ = some v
  ft : ∀ o, wx.frozen? ⟨w.heap.size, o, none⟩ = false
  fs : ∀ o, wx.frozen? ⟨w.heap.size + 1, o, none⟩ = false
  own : wx.ownsRow B 55 5 v l.length (flatJ l)
  er : ER wx a8 es
  eg : es ≠ [] → ∀ g, a8 = some ⟨g, 0, none⟩ → g < B ∧ w.heap.size + 2 ≤ g
  bl : Below w.heap.size w wx
  sz : B ≤ wx.heap.size
  szB : w.heap.size + 2 ≤ B
theorem ER.grownO {w wx : World} {a : Option Addr} {l : List E4} {row : Option Nat} (h : ER w a l) (hg : w.grownBy wx row) (hne : l ≠ [] → ∀ g, a = some ⟨g, 0, none⟩ → some g ≠ row) : ER wx a l := fun i hi => by
  obtain ⟨g, e, h0, h1, h2, h3⟩ := h i hi
  have q := hne (fun e => by rw [e] at hi; simp at hi) g e
  exact ⟨g, e, grown_co hg q h0, grown_co hg q h1, grown_co hg q h2, grown_co hg q h3⟩
theorem frz_grown {w wx : World} {row : Option Nat} {b o : Nat} (h : w.frozen? ⟨b, o, none⟩ = false) (hg : w.grownBy wx row) (hb : b < w.heap.size) (hne : some b ≠ row) : wx.frozen? ⟨b, o, none⟩ = false := grown_fo hg hne hb h
theorem own_set {w : World} {base e size n b o : Nat} {v x : Value} {xs : List Value} (h : w.ownsRow base e size v n xs) (hb : b < base) : (w.setCell ⟨b, o, none⟩ x).ownsRow base e size v n xs := by
  refine h.kept (grown_cell w b o x) ?_
  cases e : v.ownBlock with
  | none => exact Or.inl rfl
  | some q => exact Or.inr (fun e2 => by have h9 := h.lt q e; simp only [Option.some.injEq] at e2; omega)
theorem own_set4 {w : World} {base e size n b : Nat} {v x0 x1 x2 x3 : Value} {xs : List Value} (h : w.ownsRow base e size v n xs) (hb : b < base) : ((((w.setCell ⟨b, 0, none⟩ x0).setCell ⟨b, 1, none⟩ x1).setCell ⟨b, 2, none⟩ x2).setCell ⟨b, 3, none⟩ x3).ownsRow base e size v n xs := own_set (own_set (own_set (own_set h hb) hb) hb) hb
theorem si_start {w w4 : World} {W H : Nat} {mk m8 : Value} {a8 : Option Addr} {es : List E4} {ls : EL} (h4 : SrtTo (((w.alloc (.cells #[.int .i64 0, .int .i64 0, .slice none 0 0, .slice none 0 0] 25)).alloc (.cells #[.int .i64 (W : Int), .int .i64 (H : Int), mk, .slice none 0 0] 25)).alloc (.cells #[m8] 37)).drew w4 ls a8 es) :
    SI w w4 w4.heap.size W H mk (.slice none 0 0) a8 es [] ∧ es.Perm (ls.map fun x => x.1) ∧ es.Pairwise (fun x y => ltE y x = false) := by
  obtain ⟨p1, p2, p3, p4, p5⟩ := h4
  have hz := p5.size
  have hbw : Below w.heap.size w w4 := bl_via (bl_drew (bl_alloc (bl_alloc (bl_alloc (bl_refl w))))) p5
  have hz : w.heap.size + 1 + 1 + 1 ≤ w4.heap.size := by simpa using hz
  refine ⟨{ t0 := cl_kept p5 (by simp [go_sem]), t1 := cl_kept p5 (by simp [go_sem]), t2 := cl_kept p5 (by simp [go_sem]), t3 := cl_kept p5 (by simp [go_sem]), s0 := cl_kept p5 (by simp [go_sem]), s1 := cl_kept p5 (by simp [go_sem]), s2 := cl_kept p5 (by simp [go_sem]), s3 := cl_kept p5 (by simp [go_sem]), ft := fun o => (p5.frozen (p := ⟨w.heap.size, o, none⟩) (by simp; omega)).trans (by simp [go_sem]), fs := fun o => (p5.frozen (p := ⟨w.heap.size + 1, o, none⟩) (by simp)).trans (by simp [go_sem]), own := World.ownsRow_nil _ _ _ _, er := p3, eg := fun hne g e => ?_, bl := hbw, sz := Nat.le_refl _, szB := by omega }, p1, p2⟩
  have h9 : w.heap.size + 1 + 1 + 1 ≤ g := by have := p4 g e; simpa using this
  obtain ⟨g', e', hc, _⟩ := p3 0 (List.length_pos_iff.2 hne)
  rw [e] at e'
  simp only [Option.some.injEq, Addr.mk.injEq] at e'
  have h8 : g' < w4.heap.size := World.block_lt_of_cell? _ _ hc
  omega
theorem si_next {w wr w10 w11 : World} {B W H : Nat} {mk va v' : Value} {a8 : Option Addr} {es : List E4} {l : List C5} {d : C5} (h : SI w wr B W H mk va a8 es l) (hb : Below wr.heap.size wr w10) (ho : w11.ownsRow B 55 5 v' (l.length + 1) (flatJ l ++ [.int .i64 d.1.1, .int .i64 d.1.2.1, .int .i64 d.1.2.2.1, .int .i64 d.1.2.2.2, .int .i64 d.2])) (hg : w10.grownBy w11 va.ownBlock) (hne : ∀ b, b < B ∨ wr.heap.size ≤ b → some b ≠ va.ownBlock) (hB : w.heap.size + 1 < B) :
    SI w (w11.setCell ⟨w.heap.size + 1, 3, none⟩ v') B W H mk v' a8 es (l ++ [d]) := by
  have hz := h.sz
  have hz2 := hb.size
  have hz3 := hg.size
  have k : ∀ b o v, b < B → wr.cell? ⟨b, o, none⟩ = some v → w11.cell? ⟨b, o, none⟩ = some v := fun b o v hbB hv => grown_co hg (hne b (Or.inl hbB)) (cl_kept hb hv)
  have f : ∀ b o, b < B → wr.frozen? ⟨b, o, none⟩ = false → w11.frozen? ⟨b, o, none⟩ = false := fun b o hbB hv => frz_grown ((hb.frozen (p := ⟨b, o, none⟩) (by dsimp only; omega)).trans hv) hg (by omega) (hne b (Or.inl hbB))
  have st : ∀ b o v, (b ≠ w.heap.size + 1 ∨ o ≠ 3) → w11.cell? ⟨b, o, none⟩ = some v → (w11.setCell ⟨w.heap.size + 1, 3, none⟩ v').cell? ⟨b, o, none⟩ = some v := fun b o v hn hv => by
    rw [World.cell?_setCell_other _ _ _ _ (by simp only [ne_eq, Addr.mk.injEq]; omega)]
    exact hv
  have hbw : Below w.heap.size w w10 := bl_via h.bl hb
  have hbw11 : Below w.heap.size w w11 := hbw.grown hg hbw.size (fun r e => by have := h.own.lt r e; omega)
  refine { t0 := st _ _ _ (by omega) (k _ _ _ (by omega) h.t0), t1 := st _ _ _ (by omega) (k _ _ _ (by omega) h.t1), t2 := st _ _ _ (by omega) (k _ _ _ (by omega) h.t2), t3 := st _ _ _ (by omega) (k _ _ _ (by omega) h.t3), s0 := st _ _ _ (by omega) (k _ _ _ (by omega) h.s0), s1 := st _ _ _ (by omega) (k _ _ _ (by omega) h.s1), s2 := st _ _ _ (by omega) (k _ _ _ (by omega) h.s2), s3 := World.cell?_setCell_same _ _ _ (k _ _ _ (by omega) h.s3), ft := fun o => ?_, fs := fun o => ?_, own := ?_, er := ?_, eg := h.eg, bl := bl_set hbw11 (by dsimp only; omega), sz := ?_, szB := h.szB }
  · rw [World.frozen?_setCell]
    exact f _ _ (by omega) (h.ft o)
  · rw [World.frozen?_setCell]
    exact f _ _ (by omega) (h.fs o)
  · have h1 : w11.ownsRow B 55 5 v' (l ++ [d]).length (flatJ (l ++ [d])) := by
      rw [flatJ_add, List.length_append]
      exact ho
    refine h1.kept (grown_cell w11 (w.heap.size + 1) 3 v') ?_
    cases e : v'.ownBlock with
    | none => exact Or.inl rfl
    | some q => exact Or.inr (fun e2 => by have h9 := h1.lt q e; simp only [Option.some.injEq] at e2; omega)
  · have h1 : ER w11 a8 es := (h.er.kept hb).grownO hg (fun hn g e => hne g (Or.inl (h.eg hn g e).1))
    exact h1.grownO (grown_cell w11 (w.heap.size + 1) 3 v') (fun hn g e => by have := (h.eg hn g e).2; simp only [ne_eq, Option.some.injEq]; omega)
  · simp
    omega
set_option maxRecDepth 100000 in
set_option maxHeartbeats 3200000 in
theorem sheet_any (rb kb W H mb N : Nat) (cs : List C5) (w : World) (hc2 : w.cell? ⟨rb, 2, none⟩ = some (.int .i64 (W : Int))) (hc3 : w.cell? ⟨rb, 3, none⟩ = some (.int .i64 (H : Int))) (hc4 : w.cell? ⟨rb, 4, none⟩ = some (.slice (some ⟨mb, 0, none⟩) N N)) (hc8 : w.cell? ⟨rb, 8, none⟩ = some (.map (some kb))) (hKM : KM w kb cs) (hco : CsOk cs) (hl : cs.length ≤ 100000) :
    Calls Tryz.prog 13 #[.pointer (some ⟨rb, 0, none⟩)] w fun e w' => ∃ v, e = .returned (.agg #[.int .i64 (W : Int), .int .i64 (H : Int), .slice (some ⟨mb, 0, none⟩) N N, v]) ∧ ∃ base, w'.ownsRow base 55 5 v cs.length (flatJ cs) ∧ w.heap.size ≤ base ∧ Below w.heap.size w w' := by
  obtain ⟨ls, c, hem, hG, hkr⟩ := hKM
  have hll : ls.length ≤ 100000 := Nat.le_trans (KM.length hG hkr hco) hl
  obtain ⟨i0, hi, hz0, hz1, hz2⟩ := info_parts inf55
  have HI : Hid (Tryz.prog.info? 55 = some i0 ∧ i0.zero = some (.agg #[.int .i64 0, .int .i64 0, .int .i64 0, .int .i64 0, .int .i64 0]) ∧ i0.size = 5 ∧ i0.bytes = 40) := ⟨hi, hz0, hz1, hz2⟩
  clear hi hz0 hz1 hz2
  have zr : rb < w.heap.size := World.block_lt_of_cell? _ _ hc2
  have C32 : Hid (∀ (V : World) (Bm : Nat), Below w.heap.size w V → V.cell? ⟨Bm, 0, none⟩ = some (.map (some kb)) → Calls Tryz.prog 32 #[.func (.func 54) #[] #[.pointer (some ⟨Bm, 0, none⟩)], .func (.func 34) #[] #[]] V fun e w' => ∃ a8 c8 es, e = .returned (.slice a8 es.length c8) ∧ SrtTo V w' ls a8 es) := fun V Bm hb hd => sortedKeys_any V Bm kb c ls hG hll hd (hem.grown (bl_grown hb) (by simp))
  have HES : Hid (∀ es : List E4, es.Perm (ls.map fun x => x.1) → es.Pairwise (fun x y => ltE y x = false) → es.map (fun e => (e, kdc cs e)) = cs) := fun es h1 h2 => srt_cs hG hkr hco h1 h2
  have HM : Hid (EM w kb ls c ∧ Good ls c ∧ KR ls cs ∧ cs.length ≤ 100000 ∧ w.cell? ⟨rb, 8, none⟩ = some (.map (some kb))) := ⟨hem, hG, hkr, hl, hc8⟩
  clear hem hG hkr hco hll
  go_enter Tryz.func13, Tryz.ntmps13
  go_wp2
  go_region_held3 (fun w' => w'.cell? ⟨rb, 2, none⟩ = some (.int .i64 (W : Int)) ∧ w'.cell? ⟨rb, 3, none⟩ = some (.int .i64 (H : Int)) ∧ w'.cell? ⟨rb, 4, none⟩ = some (.slice (some ⟨mb, 0, none⟩) N N))
    (first | exact ⟨dr_old (al_old hc2), dr_old (al_old hc3), dr_old (al_old hc4)⟩ | exact ⟨al_old (dr_old (al_old hc2)), al_old (dr_old (al_old hc3)), al_old (dr_old (al_old hc4))⟩ | (refine ⟨?_, ?_, ?_⟩ <;> (simp [go_sem, *]; done)))
    (fail)
  go_wp2_with (first
    | (go_at_call 33; (with_reducible refine (keys_any kb _).mono ?_); rintro e w2 ⟨rfl, hw2⟩)
    | (go_at_call 32; (with_reducible refine (C32.out _ _ (bl_drew (bl_alloc (bl_alloc (bl_alloc (bl_refl w))))) (by simp [go_sem])).mono ?_); rintro e w4 ⟨a8, c8, es, rfl, h4⟩; have H4 := si_start h4; clear h4)
    | fail)
  clear hw2 hc2 hc3 hc4 hc8 C32
  obtain ⟨B, hB⟩ : ∃ B, B = w4.heap.size := ⟨_, rfl⟩
  have HS0 : Hid (SI w w4 B W H (.slice (some ⟨mb, 0, none⟩) N N) (.slice none 0 0) a8 es ((es.map fun e => (e, kdc cs e)).take 0)) := by rw [hB, List.take_zero]; exact H4.1
  have HCS : Hid (es.map (fun e => (e, kdc cs e)) = cs) := HES.out es H4.2.1 H4.2.2
  have hlen : es.length ≤ 100000 := by
    have h9 := congrArg List.length HCS.out
    rw [List.length_map] at h9
    have := HM.out.2.2.2.1
    omega
  clear H4 hB hl
  go_loopg [26] es.length (fun gk s26 wx => ∃ (i : Nat) (va : Value), i ≤ es.length ∧ es.length - i = gk ∧ s26 = .int .i64 (i : Int) ∧ SI w wx B W H (.slice (some ⟨mb, 0, none⟩) N N) va a8 es ((es.map fun e => (e, kdc cs e)).take i))
  case atStart => exact ⟨0, _, by omega, rfl, rfl, HS0.out⟩
  case round =>
    clear HS0
    obtain ⟨i, va, hi, rfl, rfl, hS⟩ := hrel
    have HS : Hid (SI w wr B W H (.slice (some ⟨mb, 0, none⟩) N N) va a8 es ((es.map fun e => (e, kdc cs e)).take i)) := hS
    have zB := hS.szB
    have zw := hS.sz
    clear hS
    have hlt : ((es.map fun e => (e, kdc cs e)).take i).length = i := by rw [List.length_take, List.length_map]; omega
    by_cases h1 : i < es.length
    · have i1 : (i : Int) < (es.length : Int) := by omega
      have i0' : (0 : Int) ≤ (i : Int) := by omega
      obtain ⟨g9, hg9, t0, t1, t2, t3⟩ := HS.out.er i h1
      have hge := HS.out.eg (fun e => by rw [e] at h1; simp at h1) g9 hg9
      subst hg9
      obtain ⟨⟨e0, e1, e2, e3⟩, he⟩ : ∃ e : E4, e = es[i] := ⟨_, rfl⟩
      rw [← he] at t0 t1 t2 t3
      dsimp only at t0 t1 t2 t3
      have zg : g9 < wr.heap.size := World.block_lt_of_cell? _ _ t0
      obtain ⟨kv, hkv⟩ : ∃ kv, kv = kdc cs es[i] := ⟨_, rfl⟩
      have hem : EM wr kb ls c := HM.out.1.grown (bl_grown HS.out.bl) (by simp)
      have HLk : Hid (∀ V : World, EM V kb ls c → (Instr.lookup 37 (.map (some kb)) (.agg #[.int .i64 e0, .int .i64 e1, .int .i64 e2, .int .i64 e3]) false).run Tryz.prog V = .ok (.int .i64 kv) V) := fun V h => by
        have h9 := lookup27 Tryz.underlying37 zeroR3 h HM.out.2.1 (e0, e1, e2, e3)
        rw [HM.out.2.2.1.get, he, ← hkv] at h9
        have h8 : ek es[i] = .agg #[.int .i64 e0, .int .i64 e1, .int .i64 e2, .int .i64 e3] := by rw [← he]; rfl
        rw [h8] at h9
        exact h9
      have HNX : Hid ((es.map fun e => (e, kdc cs e)).take (i + 1) = (es.map fun e => (e, kdc cs e)).take i ++ [((e0, e1, e2, e3), kv)]) := by
        show (es.map fun e => (e, kdc cs e)).take (i + 1) = _
        rw [List.take_succ_eq_append_getElem (by simpa using h1), List.getElem_map, ← he, hkv, ← he]
      have d8 := cl_kept HS.out.bl HM.out.2.2.2.2
      have s3 := HS.out.s3
      have f3 := HS.out.fs 3
      have zr2 : rb < wr.heap.size := Nat.lt_of_lt_of_le zr HS.out.bl.size
      clear he hkv
      go_wp2
      refine wp_named (fun WE hWE => ?_)
      have bE : Below wr.heap.size wr WE := by rw [hWE]; exact bl_alloc (bl_refl _)
      have y0 : WE.cell? ⟨wr.heap.size, 0, none⟩ = some (.int .i64 e0) := by rw [hWE]; simp
      have y1 : WE.cell? ⟨wr.heap.size, 1, none⟩ = some (.int .i64 e1) := by rw [hWE]; simp
      have y2 : WE.cell? ⟨wr.heap.size, 2, none⟩ = some (.int .i64 e2) := by rw [hWE]; simp
      have y3 : WE.cell? ⟨wr.heap.size, 3, none⟩ = some (.int .i64 e3) := by rw [hWE]; simp
      have zE : WE.heap.size = wr.heap.size + 1 := by rw [hWE]; simp
      clear hWE
      have d8E := cl_kept bE d8
      have s3E := cl_kept bE s3
      have f3E : WE.frozen? ⟨w.heap.size + 1, 3, none⟩ = false := (bE.frozen (p := ⟨w.heap.size + 1, 3, none⟩) (by dsimp only; omega)).trans f3
      have hemE : EM WE kb ls c := hem.grown (bl_grown bE) (by simp)
      have HSX : Hid (∀ V : World, Below WE.heap.size WE V → (fun w' : World => EM w' kb ls c ∧ w'.cell? ⟨rb, 8, none⟩ = some (.map (some kb)) ∧ w'.cell? ⟨w.heap.size + 1, 3, none⟩ = some va ∧ w'.cell? ⟨wr.heap.size, 0, none⟩ = some (.int .i64 e0) ∧ w'.cell? ⟨wr.heap.size, 1, none⟩ = some (.int .i64 e1) ∧ w'.cell? ⟨wr.heap.size, 2, none⟩ = some (.int .i64 e2) ∧ w'.cell? ⟨wr.heap.size, 3, none⟩ = some (.int .i64 e3)) V) := fun V hV => ⟨hemE.grown (bl_grown hV) (by simp), cl_kept hV d8E, cl_kept hV s3E, cl_kept hV y0, cl_kept hV y1, cl_kept hV y2, cl_kept hV y3⟩
      refine wp_region_late (S := fun w' => EM w' kb ls c ∧ w'.cell? ⟨rb, 8, none⟩ = some (.map (some kb)) ∧ w'.cell? ⟨w.heap.size + 1, 3, none⟩ = some va ∧ w'.cell? ⟨wr.heap.size, 0, none⟩ = some (.int .i64 e0) ∧ w'.cell? ⟨wr.heap.size, 1, none⟩ = some (.int .i64 e1) ∧ w'.cell? ⟨wr.heap.size, 2, none⟩ = some (.int .i64 e2) ∧ w'.cell? ⟨wr.heap.size, 3, none⟩ = some (.int .i64 e3)) (late := fun j => decide (j = 13)) (by kernel_rfl) ?_
      have HS0 := HSX.out _ (bl_drew (bl_refl WE))
      refine Lt.take (i := 0) (v := .pointer (some ⟨w.heap.size + 1, 3, none⟩)) rfl (by kernel_rfl) (by kernel_rfl) (by kernel_rfl) rfl (by kernel_rfl) (by kernel_rfl) (fun _ _ _ h => h) (Or.inl ⟨by rfl, ?hyy⟩) HS0 ?_
      case hyy => (intro w' hSw; (try dsimp only at hSw); go_simp)
      try simp only [Act.put, List.getElem_toArray, List.getElem_cons_zero, List.setIfInBounds_toArray, List.set_cons_zero, List.set_cons_succ]
      refine Lt.take (i := 1) (v := va) rfl (by kernel_rfl) (by kernel_rfl) (by kernel_rfl) rfl (by kernel_rfl) (by kernel_rfl) (fun _ _ _ h => h) (Or.inl ⟨by rfl, ?hyy⟩) HS0 ?_
      case hyy => (intro w' hSw; (try dsimp only at hSw); go_simp)
      try simp only [Act.put, List.getElem_toArray, List.getElem_cons_succ, List.getElem_cons_zero, List.setIfInBounds_toArray, List.set_cons_zero, List.set_cons_succ]
      refine Lt.take (i := 2) (v := .agg #[.int .i64 e0, .int .i64 e1, .int .i64 e2, .int .i64 e3]) rfl (by kernel_rfl) (by kernel_rfl) (by kernel_rfl) rfl (by kernel_rfl) (by kernel_rfl) (fun _ _ _ h => h) (Or.inl ⟨by rfl, ?hyy⟩) HS0 ?_
      case hyy => (intro w' hSw; (try dsimp only at hSw); go_simp)
      try simp only [Act.put, List.getElem_toArray, List.getElem_cons_succ, List.getElem_cons_zero, List.setIfInBounds_toArray, List.set_cons_zero, List.set_cons_succ]
      refine Lt.take (i := 3) (v := .pointer (some ⟨rb, 0, none⟩)) rfl (by kernel_rfl) (by kernel_rfl) (by kernel_rfl) rfl (by kernel_rfl) (by kernel_rfl) (fun _ _ _ h => h) (Or.inl ⟨by rfl, ?hyy⟩) HS0 ?_
      case hyy => (intro w' hSw; (try dsimp only at hSw); go_simp)
      try simp only [Act.put, List.getElem_toArray, List.getElem_cons_succ, List.getElem_cons_zero, List.setIfInBounds_toArray, List.set_cons_zero, List.set_cons_succ]
      refine Lt.take (i := 4) (v := .pointer (some ⟨rb, 0, none⟩)) rfl (by kernel_rfl) (by kernel_rfl) (by kernel_rfl) rfl (by kernel_rfl) (by kernel_rfl) (fun _ _ _ h => h) (Or.inl ⟨by rfl, ?hyy⟩) HS0 ?_
      case hyy => (intro w' hSw; (try dsimp only at hSw); go_simp)
      try simp only [Act.put, List.getElem_toArray, List.getElem_cons_succ, List.getElem_cons_zero, List.setIfInBounds_toArray, List.set_cons_zero, List.set_cons_succ]
      refine Lt.take (i := 5) (v := .pointer (some ⟨rb, 8, none⟩)) rfl (by kernel_rfl) (by kernel_rfl) (by kernel_rfl) rfl (by kernel_rfl) (by kernel_rfl) (fun _ _ _ h => h) (Or.inl ⟨by rfl, ?hyy⟩) HS0 ?_
      case hyy => (intro w' hSw; (try dsimp only at hSw); go_simp)
      try simp only [Act.put, List.getElem_toArray, List.getElem_cons_succ, List.getElem_cons_zero, List.setIfInBounds_toArray, List.set_cons_zero, List.set_cons_succ]
      refine Lt.take (i := 6) (v := .map (some kb)) rfl (by kernel_rfl) (by kernel_rfl) (by kernel_rfl) rfl (by kernel_rfl) (by kernel_rfl) (fun _ _ _ h => h) (Or.inl ⟨by rfl, ?hyy⟩) HS0 ?_
      case hyy => (intro w' hSw; (try dsimp only at hSw); go_simp)
      try simp only [Act.put, List.getElem_toArray, List.getElem_cons_succ, List.getElem_cons_zero, List.setIfInBounds_toArray, List.set_cons_zero, List.set_cons_succ]
      refine Lt.take (i := 7) (v := .agg #[.int .i64 e0, .int .i64 e1, .int .i64 e2, .int .i64 e3]) rfl (by kernel_rfl) (by kernel_rfl) (by kernel_rfl) rfl (by kernel_rfl) (by kernel_rfl) (fun _ _ _ h => h) (Or.inl ⟨by rfl, ?hyy⟩) HS0 ?_
      case hyy => (intro w' hSw; (try dsimp only at hSw); go_simp)
      try simp only [Act.put, List.getElem_toArray, List.getElem_cons_succ, List.getElem_cons_zero, List.setIfInBounds_toArray, List.set_cons_zero, List.set_cons_succ]
      refine Lt.take (i := 8) (v := .int .i64 kv) rfl (by kernel_rfl) (by kernel_rfl) (by kernel_rfl) rfl (by kernel_rfl) (by kernel_rfl) (fun _ _ _ h => h) (Or.inl ⟨by rfl, ?hyy⟩) HS0 ?_
      case hyy => (intro w' hSw; (try dsimp only at hSw); have hlk := HLk.out w' hSw.1; go_simp)
      try simp only [Act.put, List.getElem_toArray, List.getElem_cons_succ, List.getElem_cons_zero, List.setIfInBounds_toArray, List.set_cons_zero, List.set_cons_succ]
      refine Lt.take (i := 9) (v := .agg #[.int .i64 e0, .int .i64 e1, .int .i64 e2, .int .i64 e3, .int .i64 kv]) rfl (by kernel_rfl) (by kernel_rfl) (by kernel_rfl) rfl (by kernel_rfl) (by kernel_rfl) (fun _ _ _ h => h) (Or.inl ⟨by rfl, ?hyy⟩) HS0 ?_
      case hyy => (intro w' hSw; (try dsimp only at hSw); go_simp)
      try simp only [Act.put, List.getElem_toArray, List.getElem_cons_succ, List.getElem_cons_zero, List.setIfInBounds_toArray, List.set_cons_zero, List.set_cons_succ]
      refine Lt.one (i := 10) (by kernel_rfl) rfl rfl ?_
      go_simp
      have hq := HSX.out ((WE.alloc (.cells #[.int .i64 e0, .int .i64 e1, .int .i64 e2, .int .i64 e3, .int .i64 kv] 55)).drew) (bl_drew (bl_alloc (bl_refl _)))
      refine ⟨⟨hq.1, hq.2.2.1⟩, ?_⟩
      have hb10 := bl_via bE (bl_drew (bl_alloc (o := .cells #[.int .i64 e0, .int .i64 e1, .int .i64 e2, .int .i64 e3, .int .i64 kv] 55) (bl_refl WE)))
      obtain ⟨v', w11, hr, ho, hg, _, _⟩ := run_append_own_at (P := Tryz.prog) (WE.alloc (.cells #[.int .i64 e0, .int .i64 e1, .int .i64 e2, .int .i64 e3, .int .i64 kv] 55)).drew B 23 23 55 i0 (.agg #[.int .i64 0, .int .i64 0, .int .i64 0, .int .i64 0, .int .i64 0]) 5 40 Tryz.underlying23 HI.out.1 HI.out.2.1 HI.out.2.2.1 HI.out.2.2.2 rfl (by decide) va ((es.map fun e => (e, kdc cs e)).take i).length (flatJ ((es.map fun e => (e, kdc cs e)).take i)) (own_below HS.out.own hb10) ⟨wr.heap.size + 1, 0, none⟩ 1 1 [.int .i64 e0, .int .i64 e1, .int .i64 e2, .int .i64 e3, .int .i64 kv] rfl (fun j x h => dr_old (five_new WE _ _ _ _ _ _ zE.symm j x h)) (five_one _ _ _ _ _) (by rw [hlt]; unfold maxLen; omega) (by rw [hlt]; omega) (by simp; omega)
      have hne : ∀ b, b < B ∨ wr.heap.size ≤ b → some b ≠ va.ownBlock := fun b hb e => by
        have := HS.out.own.lt b e.symm
        omega
      have zk : kb < B := by have := HM.out.1.lt; omega
      have HS11 : (fun w' : World => EM w' kb ls c ∧ w'.cell? ⟨rb, 8, none⟩ = some (.map (some kb)) ∧ w'.cell? ⟨w.heap.size + 1, 3, none⟩ = some va ∧ w'.cell? ⟨wr.heap.size, 0, none⟩ = some (.int .i64 e0) ∧ w'.cell? ⟨wr.heap.size, 1, none⟩ = some (.int .i64 e1) ∧ w'.cell? ⟨wr.heap.size, 2, none⟩ = some (.int .i64 e2) ∧ w'.cell? ⟨wr.heap.size, 3, none⟩ = some (.int .i64 e3)) w11 := by
        obtain ⟨q0, q1, q2, q3, q4, q5, q6⟩ := HSX.out _ (bl_drew (bl_alloc (o := .cells #[.int .i64 e0, .int .i64 e1, .int .i64 e2, .int .i64 e3, .int .i64 kv] 55) (bl_refl WE)))
        exact ⟨q0.grown hg (hne _ (Or.inl zk)), hg.cell q1 (hne _ (by dsimp only; omega)), hg.cell q2 (hne _ (by dsimp only; omega)), hg.cell q3 (hne _ (by dsimp only; omega)), hg.cell q4 (hne _ (by dsimp only; omega)), hg.cell q5 (hne _ (by dsimp only; omega)), hg.cell q6 (hne _ (by dsimp only; omega))⟩
      have em : w11.cell? ⟨w.heap.size + 1, 3, none⟩ = some va := HS11.2.2.1
      have eg : w11.frozen? ⟨w.heap.size + 1, 3, none⟩ = false := frz_grown (((bl_drew (bl_alloc (o := .cells #[.int .i64 e0, .int .i64 e1, .int .i64 e2, .int .i64 e3, .int .i64 kv] 55) (bl_refl WE))).frozen (p := ⟨w.heap.size + 1, 3, none⟩) (by dsimp only; omega)).trans f3E) hg (by simp; omega) (hne _ (by omega))
      have HN : Hid (SI w (w11.setCell ⟨w.heap.size + 1, 3, none⟩ v') B W H (.slice (some ⟨mb, 0, none⟩) N N) v' (some ⟨g9, 0, none⟩) es ((es.map fun e => (e, kdc cs e)).take (i + 1))) := by
        rw [show Hid _ = _ from rfl]
        rw [HNX.out]
        exact si_next HS.out hb10 (by simpa using ho) hg hne (by omega)
      obtain ⟨a7, n7, c7, rfl⟩ : ∃ a n q, v' = .slice a n q := by
        rcases ho.2 with ⟨rfl, _⟩ | ⟨_, _, _, rfl, _⟩ <;> exact ⟨_, _, _, rfl⟩
      try simp only [Act.put, List.getElem_toArray, List.getElem_cons_succ, List.getElem_cons_zero, List.setIfInBounds_toArray, List.set_cons_zero, List.set_cons_succ]
      refine Lt.one (i := 11) (by kernel_rfl) rfl rfl ?_
      refine wp_append_run (.tmp 31) (.tmp 40) 23 rfl _ _ (.slice a7 n7 c7) w11 rfl rfl hr ?_
      refine ⟨fun _ => HS11, ?_⟩
      try simp only [Act.put, List.getElem_toArray, List.getElem_cons_succ, List.getElem_cons_zero, List.setIfInBounds_toArray, List.set_cons_zero, List.set_cons_succ]
      refine Lt.take (i := 12) (v := .pointer (some ⟨w.heap.size + 1, 3, none⟩)) rfl (by kernel_rfl) (by kernel_rfl) (by kernel_rfl) rfl (by kernel_rfl) (by kernel_rfl) (fun _ _ _ h => h) (Or.inl ⟨by rfl, ?hyy⟩) HS11 ?_
      case hyy => (intro w' hSw; (try dsimp only at hSw); go_simp)
      try simp only [Act.put, List.getElem_toArray, List.getElem_cons_succ, List.getElem_cons_zero, List.setIfInBounds_toArray, List.set_cons_zero, List.set_cons_succ]
      refine Lt.one (i := 13) (by kernel_rfl) rfl rfl ?_
      refine skip_step (w' := w11.setCell ⟨w.heap.size + 1, 3, none⟩ (.slice a7 n7 c7)) (by first | go_simp | simp [go_sem, em, eg]) ?_
      refine ⟨fun h => absurd h (by decide), ?_⟩
      try simp only [Act.put, List.getElem_toArray, List.getElem_cons_succ, List.getElem_cons_zero]
      refine Lt.done (by kernel_rfl) ?_
      clear hr ho hg HS11 em eg
      go_wp2
      go_roundg (es.length - (i + 1))
      case measure => omega
      case rel => exact ⟨i + 1, _, by omega, rfl, by go_num, HN.out⟩
    · obtain rfl : i = es.length := by omega
      have i1 : ¬ (es.length : Int) < (es.length : Int) := by omega
      have hsi := HS.out
      rw [List.take_of_length_le (by simp), HCS.out] at hsi
      have q0 := hsi.t0
      have q1 := hsi.t1
      have q2 := hsi.t2
      have q3 := hsi.t3
      have r0 := hsi.s0
      have r1 := hsi.s1
      have r2 := hsi.s2
      have r3 := hsi.s3
      have f0 := hsi.ft 0
      have f1 := hsi.ft 1
      have f2 := hsi.ft 2
      have f3 := hsi.ft 3
      have HO : Hid (wr.ownsRow B 55 5 va cs.length (flatJ cs) ∧ Below w.heap.size w wr) := ⟨hsi.own, hsi.bl⟩
      obtain ⟨a7, n7, c7, rfl⟩ : ∃ a n q, va = .slice a n q := by
        rcases hsi.own.2 with ⟨rfl, _⟩ | ⟨_, _, _, rfl, _⟩ <;> exact ⟨_, _, _, rfl⟩
      clear hsi HS
      go_wp2
      refine bodyPost_ret (v := .agg #[.int .i64 (W : Int), .int .i64 (H : Int), .slice (some ⟨mb, 0, none⟩) N N, .slice a7 n7 c7]) (by simp [results, Tryz.results13, go_sem, *]) rfl ⟨_, rfl, B, ?_, by omega, ?_⟩
      · exact own_set4 HO.out.1 (by omega)
      · repeat' (first | exact HO.out.2 | (refine bl_set ?_ (by (try dsimp only); omega)))
end Go.Proofs.YtehmoacggikfmaaGreatDoor
