/- A crease is put into its place: the reference's way. -/
import Derived.Test.YtehmoacggikfmaaGreatDoorQlbh
import Derived.Test.YtehmoacggikfmaaGreatDoorQlay
import Derived.Test.YtehmoacggikfmaaGreatDoorQlbi
namespace Go.Proofs.YtehmoacggikfmaaGreatDoor
open Go.RowKit

theorem inf55 : (Tryz.prog.info? 55).map (fun i => (i.zero, i.size, i.bytes)) = some (some (.agg #[.int .i64 0, .int .i64 0, .int .i64 0, .int .i64 0, .int .i64 0]), 5, 40) := by kernel_rfl
theorem lessE_ltE (a b c d p q r s : Int) : lessE a b c d p q r s = ltE (a, b, c, d) (p, q, r, s) := by
  rw [Bool.eq_iff_iff, ltE_iff]
  simp only [lessE, lessB, Bool.or_eq_true, Bool.and_eq_true, decide_eq_true_eq]
  omega
theorem five_new (w : World) (p q r s k : Int) (g : Nat) (hg : g = w.heap.size) : ∀ j x, ([Value.int .i64 p, .int .i64 q, .int .i64 r, .int .i64 s, .int .i64 k])[j]? = some x → (w.alloc (.cells #[.int .i64 p, .int .i64 q, .int .i64 r, .int .i64 s, .int .i64 k] 55)).cell? ((⟨g, 0, none⟩ : Addr).add j) = some x := by
  subst hg
  intro j x hx
  match j, hx with
  | 0, hx => simp at hx; subst hx; simp [go_sem, Addr.add]
  | 1, hx => simp at hx; subst hx; simp [go_sem, Addr.add]
  | 2, hx => simp at hx; subst hx; simp [go_sem, Addr.add]
  | 3, hx => simp at hx; subst hx; simp [go_sem, Addr.add]
  | 4, hx => simp at hx; subst hx; simp [go_sem, Addr.add]
theorem five_one (p q r s k : Int) : ∀ x ∈ [Value.int .i64 p, .int .i64 q, .int .i64 r, .int .i64 s, .int .i64 k], x.oneCell' = true := by
  intro x hx
  simp at hx
  rcases hx with rfl | rfl | rfl | rfl | rfl <;> rfl
/-- What PutCrease keeps in memory. -/
structure PI (w wx : World) (c : C5) (v : Value) (out : List C5) : Prop where
  own : wx.ownsRow (w.heap.size + 1) 55 5 v out.length (flatJ out)
  b0 : wx.cell? ⟨w.heap.size, 0, none⟩ = some (.int .i64 c.1.1)
  b1 : wx.cell? ⟨w.heap.size, 1, none⟩ = some (.int .i64 c.1.2.1)
  b2 : wx.cell? ⟨w.heap.size, 2, none⟩ = some (.int .i64 c.1.2.2.1)
  b3 : wx.cell? ⟨w.heap.size, 3, none⟩ = some (.int .i64 c.1.2.2.2)
  b4 : wx.cell? ⟨w.heap.size, 4, none⟩ = some (.int .i64 c.2)
  b : Below w.heap.size w wx
theorem PI.kept {w wr wx : World} {c : C5} {v : Value} {out : List C5} (h : PI w wr c v out) (hb : Below wr.heap.size wr wx) : PI w wx c v out :=
  { own := own_below h.own hb, b0 := cl_kept hb h.b0, b1 := cl_kept hb h.b1, b2 := cl_kept hb h.b2, b3 := cl_kept hb h.b3, b4 := cl_kept hb h.b4, b := bl_via h.b hb }
theorem PI.push {w wr w3 : World} {c d : C5} {v v' : Value} {out : List C5} {o : Obj} (h : PI w wr c v out) (ho : w3.ownsRow (w.heap.size + 1) 55 5 v' (out.length + 1) (flatJ out ++ [.int .i64 d.1.1, .int .i64 d.1.2.1, .int .i64 d.1.2.2.1, .int .i64 d.1.2.2.2, .int .i64 d.2])) (hg : (wr.alloc o).grownBy w3 v.ownBlock) : PI w w3 c v' (out ++ [d]) := by
  have hk := h.kept (bl_alloc (o := o) (bl_refl _))
  have hne : some w.heap.size ≠ v.ownBlock := fun e => by have := (h.own.lt _ e.symm).1; omega
  refine { own := ?_, b0 := grown_co hg hne hk.b0, b1 := grown_co hg hne hk.b1, b2 := grown_co hg hne hk.b2, b3 := grown_co hg hne hk.b3, b4 := grown_co hg hne hk.b4, b := hk.b.grown hg hk.b.size (fun g hg2 => by have := (h.own.lt g hg2).1; omega) }
  rw [flatJ_add, List.length_append]
  exact ho
set_option maxRecDepth 100000 in
set_option maxHeartbeats 6400000 in
theorem putCrease_any (n : Nat) (cap : Nat) (sa : Option Addr) (l : List C5) (p q r s k : Int) (w : World) (hn : l.length = n) (hl : n ≤ 100000) (hr : JRow w sa l) :
    Calls Tryz.prog 38 #[.slice sa n cap, .agg #[.int .i64 p, .int .i64 q, .int .i64 r, .int .i64 s, .int .i64 k]] w fun e w' => ∃ v, e = .returned v ∧ PI w w' ((p, q, r, s), k) v (putC l ((p, q, r, s), k)) := by
  obtain ⟨i0, hi, hz0, hz1, hz2⟩ := info_parts inf55
  have HI : Hid (Tryz.prog.info? 55 = some i0 ∧ i0.zero = some (.agg #[.int .i64 0, .int .i64 0, .int .i64 0, .int .i64 0, .int .i64 0]) ∧ i0.size = 5 ∧ i0.bytes = 40) := ⟨hi, hz0, hz1, hz2⟩
  have HR : Hid (JRow w sa l) := hr
  have HLN : Hid (l.length = n) := hn
  clear hi hz0 hz1 hz2 hr hn
  have HP0 : Hid (PI w (w.alloc (.cells #[.int .i64 p, .int .i64 q, .int .i64 r, .int .i64 s, .int .i64 k] 55)) ((p, q, r, s), k) (.slice none 0 0) []) := ⟨by simpa [flatJ] using World.ownsRow_nil _ _ _ _, by simp [go_sem], by simp [go_sem], by simp [go_sem], by simp [go_sem], by simp [go_sem], bl_alloc (bl_refl _)⟩
  go_enter Tryz.func38, Tryz.ntmps38
  go_wp2
  go_loopg [5, 6, 7] n (fun g s5 s6 s7 wx => ∃ (i : Nat) (dn : Bool) (out : List C5), i ≤ n ∧ n - i = g ∧ s7 = .int .i64 (i : Int) ∧ s6 = .bool dn ∧ out.length ≤ (if dn then i + 1 else i) ∧ out ++ (if dn then l.drop i else putC (l.drop i) ((p, q, r, s), k)) = putC l ((p, q, r, s), k) ∧ PI w wx ((p, q, r, s), k) s5 out)
  case atStart => exact ⟨0, false, [], by omega, rfl, rfl, rfl, by simp, by simp, HP0.out⟩
  case round =>
    obtain ⟨i, dn, out, hi, rfl, rfl, rfl, ho, hE, hT⟩ := hrel
    obtain ⟨va, hva⟩ : ∃ x, x = u5 := ⟨_, rfl⟩
    subst hva
    have HT : Hid (PI w wr ((p, q, r, s), k) va out) := hT
    have HE : Hid (out ++ (if dn then l.drop i else putC (l.drop i) ((p, q, r, s), k)) = putC l ((p, q, r, s), k)) := hE
    have HL : Hid (out.length ≤ i + 1 ∧ i ≤ n ∧ n ≤ 100000 ∧ (dn = false → out.length ≤ i)) := ⟨by split at ho <;> omega, hi, hl, fun h => by rw [h] at ho; simpa using ho⟩
    clear ho
    clear hT hE HP0
    have b0 := HT.out.b0
    have b1 := HT.out.b1
    have b2 := HT.out.b2
    have b3 := HT.out.b3
    have b4 := HT.out.b4
    have y0 : w.heap.size < wr.heap.size := World.block_lt_of_cell? _ _ b0
    by_cases h1 : i < n
    · have i1 : (i : Int) < (n : Int) := by omega
      have i0' : (0 : Int) ≤ (i : Int) := by omega
      have hil : i < l.length := by rw [HLN.out]; exact h1
      obtain ⟨g, rfl, h0, h2, h3, h4, h5⟩ := HR.out i hil
      have HGL : Hid (g < w.heap.size) := World.block_lt_of_cell? _ _ h0
      have HD : Hid (l.drop i = l[i] :: l.drop (i + 1)) := List.drop_eq_getElem_cons hil
      have k0 := cl_kept HT.out.b h0
      have k1 := cl_kept HT.out.b h2
      have k2 := cl_kept HT.out.b h3
      have k3 := cl_kept HT.out.b h4
      have k4 := cl_kept HT.out.b h5
      have HE2 : Hid (out ++ (if dn then l[i] :: l.drop (i + 1) else putC (l[i] :: l.drop (i + 1)) ((p, q, r, s), k)) = putC l ((p, q, r, s), k)) := by
        have h9 := HE.out
        rw [HD.out] at h9
        exact h9
      clear h0 h2 h3 h4 h5 HD HE
      generalize l[i] = X at *
      obtain ⟨⟨a, b, c, d⟩, e⟩ := X
      dsimp only at k0 k1 k2 k3 k4
      cases dn with
      | true =>
        have HQ : Hid ((out ++ [((a, b, c, d), e)]) ++ (if true then l.drop (i + 1) else putC (l.drop (i + 1)) ((p, q, r, s), k)) = putC l ((p, q, r, s), k)) := by
          have h9 := HE2.out
          rw [if_pos rfl] at h9
          show (out ++ [((a, b, c, d), e)]) ++ (if true then l.drop (i + 1) else putC (l.drop (i + 1)) ((p, q, r, s), k)) = putC l ((p, q, r, s), k)
          rw [if_pos rfl, List.append_assoc]
          exact h9
        have HTd : Hid (PI w wr.drew ((p, q, r, s), k) va out) := HT.out.kept (bl_drew (bl_refl _))
        go_wp2
        refine wp_region_held_drew (S := fun _ => True) (by kernel_rfl) trivial (fun hHeld => ?_)
        try simp only [Act.put, List.getElem_toArray, List.getElem_cons_succ, List.getElem_cons_zero, List.setIfInBounds_toArray, List.set_cons_zero, List.set_cons_succ]
        refine wpAnyH_take (i := 0) (v := .bool true) rfl (by kernel_rfl) (by kernel_rfl) (by kernel_rfl) (fun _ _ _ h => h) (Or.inl ⟨by rfl, ?hyy⟩) (by assumption) ?_
        case hyy => (intro w' hSw; (try dsimp only at hSw); go_simp)
        try simp only [Act.put, List.getElem_toArray, List.getElem_cons_zero, List.setIfInBounds_toArray, List.set_cons_zero, List.set_cons_succ]
        refine wpAnyH_take (i := 1) (v := .bool false) rfl (by kernel_rfl) (by kernel_rfl) (by kernel_rfl) (fun _ _ _ h => h) (Or.inl ⟨by rfl, ?hyy⟩) (by assumption) ?_
        case hyy => (intro w' hSw; (try dsimp only at hSw); go_simp)
        try simp only [Act.put, List.getElem_toArray, List.getElem_cons_succ, List.getElem_cons_zero, List.setIfInBounds_toArray, List.set_cons_zero, List.set_cons_succ]
        refine wpAnyH_take (i := 2) (v := .bool false) rfl (by kernel_rfl) (by kernel_rfl) (by kernel_rfl) (fun _ _ _ h => h) (Or.inl ⟨by rfl, ?hyy⟩) (by assumption) ?_
        case hyy => (intro w' hSw; (try dsimp only at hSw); go_simp)
        try simp only [Act.put, List.getElem_toArray, List.getElem_cons_succ, List.getElem_cons_zero, List.setIfInBounds_toArray, List.set_cons_zero, List.set_cons_succ]
        refine wpAnyH_take (i := 3) (v := undef) rfl (by kernel_rfl) (by kernel_rfl) (by kernel_rfl) (fun _ _ _ h => h) (Or.inr ⟨by rfl, rfl⟩) (by assumption) ?_
        try simp only [Act.put, List.getElem_toArray, List.getElem_cons_succ, List.getElem_cons_zero, List.setIfInBounds_toArray, List.set_cons_zero, List.set_cons_succ]
        refine wpAnyH_take (i := 4) (v := undef) rfl (by kernel_rfl) (by kernel_rfl) (by kernel_rfl) (fun _ _ _ h => h) (Or.inr ⟨by rfl, rfl⟩) (by assumption) ?_
        try simp only [Act.put, List.getElem_toArray, List.getElem_cons_succ, List.getElem_cons_zero, List.setIfInBounds_toArray, List.set_cons_zero, List.set_cons_succ]
        refine wpAnyH_take (i := 5) (v := undef) rfl (by kernel_rfl) (by kernel_rfl) (by kernel_rfl) (fun _ _ _ h => h) (Or.inr ⟨by rfl, rfl⟩) (by assumption) ?_
        try simp only [Act.put, List.getElem_toArray, List.getElem_cons_succ, List.getElem_cons_zero, List.setIfInBounds_toArray, List.set_cons_zero, List.set_cons_succ]
        refine wpAnyH_take (i := 6) (v := undef) rfl (by kernel_rfl) (by kernel_rfl) (by kernel_rfl) (fun _ _ _ h => h) (Or.inr ⟨by rfl, rfl⟩) (by assumption) ?_
        try simp only [Act.put, List.getElem_toArray, List.getElem_cons_succ, List.getElem_cons_zero, List.setIfInBounds_toArray, List.set_cons_zero, List.set_cons_succ]
        refine wpAnyH_take (i := 7) (v := undef) rfl (by kernel_rfl) (by kernel_rfl) (by kernel_rfl) (fun _ _ _ h => h) (Or.inr ⟨by rfl, rfl⟩) (by assumption) ?_
        try simp only [Act.put, List.getElem_toArray, List.getElem_cons_succ, List.getElem_cons_zero, List.setIfInBounds_toArray, List.set_cons_zero, List.set_cons_succ]
        refine wpAnyH_take (i := 8) (v := undef) rfl (by kernel_rfl) (by kernel_rfl) (by kernel_rfl) (fun _ _ _ h => h) (Or.inr ⟨by rfl, rfl⟩) (by assumption) ?_
        try simp only [Act.put, List.getElem_toArray, List.getElem_cons_succ, List.getElem_cons_zero, List.setIfInBounds_toArray, List.set_cons_zero, List.set_cons_succ]
        refine wpAnyH_take (i := 9) (v := undef) rfl (by kernel_rfl) (by kernel_rfl) (by kernel_rfl) (fun _ _ _ h => h) (Or.inr ⟨by rfl, rfl⟩) (by assumption) ?_
        try simp only [Act.put, List.getElem_toArray, List.getElem_cons_succ, List.getElem_cons_zero, List.setIfInBounds_toArray, List.set_cons_zero, List.set_cons_succ]
        refine wpAnyH_take (i := 10) (v := undef) rfl (by kernel_rfl) (by kernel_rfl) (by kernel_rfl) (fun _ _ _ h => h) (Or.inr ⟨by rfl, rfl⟩) (by assumption) ?_
        try simp only [Act.put, List.getElem_toArray, List.getElem_cons_succ, List.getElem_cons_zero, List.setIfInBounds_toArray, List.set_cons_zero, List.set_cons_succ]
        refine wpAnyH_take (i := 11) (v := .bool false) rfl (by kernel_rfl) (by kernel_rfl) (by kernel_rfl) (fun _ _ _ h => h) (Or.inl ⟨by rfl, ?hyy⟩) (by assumption) ?_
        case hyy => (intro w' hSw; (try dsimp only at hSw); go_simp)
        try simp only [Act.put, List.getElem_toArray, List.getElem_cons_succ, List.getElem_cons_zero, List.setIfInBounds_toArray, List.set_cons_zero, List.set_cons_succ]
        refine wpAnyH_done (by kernel_rfl) ?_ _
        go_wp2_with (at_builtin; refine wpList_append_own _ rfl (.tmp 30) (.tmp 35) 23 rfl (w.heap.size + 1) 55 i0 (.agg #[.int .i64 0, .int .i64 0, .int .i64 0, .int .i64 0, .int .i64 0]) 5 40 Tryz.underlying23 HI.out.1 HI.out.2.1 HI.out.2.2.1 HI.out.2.2.2 rfl (by decide) va out.length (flatJ out) rfl (own_below HTd.out.own (bl_alloc (bl_refl _))) ⟨wr.heap.size, 0, none⟩ 1 1 [.int .i64 a, .int .i64 b, .int .i64 c, .int .i64 d, .int .i64 e] rfl rfl (five_new _ _ _ _ _ _ _ rfl) (five_one _ _ _ _ _) (by have := HL.out; simp; unfold maxLen; omega) (by have := HL.out; simp; omega) (by simp; omega) ?gB)
        case gB =>
          intro v' w3 ho2 hg _
          have HT2 : Hid (PI w w3 ((p, q, r, s), k) v' (out ++ [((a, b, c, d), e)])) := HTd.out.push (d := ((a, b, c, d), e)) (by first | exact ho2 | (rw [List.length_append]; exact ho2)) hg
          clear ho2 hg
          go_wp2
          go_roundg (n - (i + 1))
          case measure => omega
          case rel => exact ⟨i + 1, true, out ++ [((a, b, c, d), e)], by omega, rfl, by go_num, rfl, by have h7 := HL.out; have h8 := h7.2.2.2; simp at h8 ⊢; omega, HQ.out, HT2.out⟩
      | false =>
        have C60 : Hid (∀ V : World, Calls Tryz.prog 60 #[.agg #[.int .i64 p, .int .i64 q, .int .i64 r, .int .i64 s], .agg #[.int .i64 a, .int .i64 b, .int .i64 c, .int .i64 d]] V fun e w' => e = .returned (.bool (ltE (p, q, r, s) (a, b, c, d))) ∧ Below V.heap.size V w') := fun V => by
          have h9 := lessEdge_any p q r s a b c d V
          rw [lessE_ltE] at h9
          exact h9
        cases hlt : ltE (p, q, r, s) (a, b, c, d) with
        | true =>
          rw [hlt] at C60
          have HQ : Hid (((out ++ [((p, q, r, s), k)]) ++ [((a, b, c, d), e)]) ++ (if true then l.drop (i + 1) else putC (l.drop (i + 1)) ((p, q, r, s), k)) = putC l ((p, q, r, s), k)) := by
            have h9 := HE2.out
            rw [if_neg (by decide), putC, if_pos hlt] at h9
            show ((out ++ [((p, q, r, s), k)]) ++ [((a, b, c, d), e)]) ++ (if true then l.drop (i + 1) else putC (l.drop (i + 1)) ((p, q, r, s), k)) = putC l ((p, q, r, s), k)
            rw [if_pos rfl, List.append_assoc, List.append_assoc]
            exact h9
          clear hlt HE2
          go_wp2
          go_region_held3 (fun w' => w'.cell? ⟨w.heap.size, 0, none⟩ = some (.int .i64 p) ∧ w'.cell? ⟨w.heap.size, 1, none⟩ = some (.int .i64 q) ∧ w'.cell? ⟨w.heap.size, 2, none⟩ = some (.int .i64 r) ∧ w'.cell? ⟨w.heap.size, 3, none⟩ = some (.int .i64 s) ∧ w'.cell? ⟨g, i * 5, none⟩ = some (.int .i64 a) ∧ w'.cell? ⟨g, i * 5 + 1, none⟩ = some (.int .i64 b) ∧ w'.cell? ⟨g, i * 5 + 2, none⟩ = some (.int .i64 c) ∧ w'.cell? ⟨g, i * 5 + 3, none⟩ = some (.int .i64 d))
            (first | exact ⟨dr_old b0, dr_old b1, dr_old b2, dr_old b3, dr_old k0, dr_old k1, dr_old k2, dr_old k3⟩ | exact ⟨B0, B1, B2, B3, K0, K1, K2, K3⟩)
            (first | ((go_at_call 60; (with_reducible refine (C60.out _).mono ?_); rintro ee w5 ⟨rfl, hb⟩; have hb5 := bl_via (bl_drew (bl_refl _)) hb; clear hb; have B0 := cl_kept hb5 b0; have B1 := cl_kept hb5 b1; have B2 := cl_kept hb5 b2; have B3 := cl_kept hb5 b3; have B4 := cl_kept hb5 b4; have K0 := cl_kept hb5 k0; have K1 := cl_kept hb5 k1; have K2 := cl_kept hb5 k2; have K3 := cl_kept hb5 k3; have K4 := cl_kept hb5 k4; have y5 : w.heap.size < w5.heap.size := World.block_lt_of_cell? _ _ B0; have HT5 : Hid (PI w w5 ((p, q, r, s), k) va out) := HT.out.kept hb5; clear hb5)) | fail)
          clear b0 b1 b2 b3 b4 k0 k1 k2 k3 k4
          go_wp2_with (at_builtin; refine wpList_append_own _ rfl (.tmp 26) (.tmp 28) 23 rfl (w.heap.size + 1) 55 i0 (.agg #[.int .i64 0, .int .i64 0, .int .i64 0, .int .i64 0, .int .i64 0]) 5 40 Tryz.underlying23 HI.out.1 HI.out.2.1 HI.out.2.2.1 HI.out.2.2.2 rfl (by decide) va out.length (flatJ out) rfl (own_below HT5.out.own (bl_alloc (bl_refl _))) ⟨w5.heap.size, 0, none⟩ 1 1 [.int .i64 p, .int .i64 q, .int .i64 r, .int .i64 s, .int .i64 k] rfl rfl (five_new _ _ _ _ _ _ _ rfl) (five_one _ _ _ _ _) (by have := HL.out; simp; unfold maxLen; omega) (by have := HL.out; simp; omega) (by simp; omega) ?gA)
          case gA =>
            intro v1 w4 ho2 hg _
            have hob : ∀ gg, va.ownBlock = some gg → w.heap.size + 1 ≤ gg := fun gg h => (HT5.out.own.lt gg h).1
            have hng : some g ≠ va.ownBlock := fun h => by have h8 := hob _ h.symm; have h7 : g < w.heap.size := HGL.out; omega
            have L0 := grown_co hg hng (cl_kept (bl_alloc (bl_refl _)) K0)
            have L1 := grown_co hg hng (cl_kept (bl_alloc (bl_refl _)) K1)
            have L2 := grown_co hg hng (cl_kept (bl_alloc (bl_refl _)) K2)
            have L3 := grown_co hg hng (cl_kept (bl_alloc (bl_refl _)) K3)
            have L4 := grown_co hg hng (cl_kept (bl_alloc (bl_refl _)) K4)
            have y4 : w5.heap.size < w4.heap.size := by have := hg.size; simp at this; omega
            have HT4 : Hid (PI w w4 ((p, q, r, s), k) v1 (out ++ [((p, q, r, s), k)])) := HT5.out.push (d := ((p, q, r, s), k)) ho2 hg
            clear ho2 hg K0 K1 K2 K3 K4 B0 B1 B2 B3 B4
            go_wp2_with (at_builtin; refine wpList_append_own _ rfl (.tmp 30) (.tmp 35) 23 rfl (w.heap.size + 1) 55 i0 (.agg #[.int .i64 0, .int .i64 0, .int .i64 0, .int .i64 0, .int .i64 0]) 5 40 Tryz.underlying23 HI.out.1 HI.out.2.1 HI.out.2.2.1 HI.out.2.2.2 rfl (by decide) v1 (out ++ [((p, q, r, s), k)]).length (flatJ (out ++ [((p, q, r, s), k)])) rfl (own_below HT4.out.own (bl_alloc (bl_refl _))) ⟨w4.heap.size, 0, none⟩ 1 1 [.int .i64 a, .int .i64 b, .int .i64 c, .int .i64 d, .int .i64 e] rfl rfl (five_new _ _ _ _ _ _ _ rfl) (five_one _ _ _ _ _) (by have := HL.out; simp; unfold maxLen; omega) (by have := HL.out; simp; omega) (by simp; omega) ?gB)
            case gB =>
              intro v' w3 ho2 hg _
              have HT2 : Hid (PI w w3 ((p, q, r, s), k) v' ((out ++ [((p, q, r, s), k)]) ++ [((a, b, c, d), e)])) := HT4.out.push (d := ((a, b, c, d), e)) (by first | exact ho2 | (rw [List.length_append]; exact ho2)) hg
              clear ho2 hg
              go_wp2
              go_roundg (n - (i + 1))
              case measure => omega
              case rel => exact ⟨i + 1, true, (out ++ [((p, q, r, s), k)]) ++ [((a, b, c, d), e)], by omega, rfl, by go_num, rfl, by have h7 := HL.out; have h8 := h7.2.2.2; simp at h8 ⊢; omega, HQ.out, HT2.out⟩
        | false =>
          rw [hlt] at C60
          have HQ : Hid ((out ++ [((a, b, c, d), e)]) ++ (if false then l.drop (i + 1) else putC (l.drop (i + 1)) ((p, q, r, s), k)) = putC l ((p, q, r, s), k)) := by
            have h9 := HE2.out
            rw [if_neg (by decide), putC, if_neg (by rw [hlt]; decide)] at h9
            show (out ++ [((a, b, c, d), e)]) ++ (if false then l.drop (i + 1) else putC (l.drop (i + 1)) ((p, q, r, s), k)) = putC l ((p, q, r, s), k)
            rw [if_neg (by decide), List.append_assoc]
            exact h9
          clear hlt HE2
          go_wp2
          go_region_held3 (fun w' => w'.cell? ⟨w.heap.size, 0, none⟩ = some (.int .i64 p) ∧ w'.cell? ⟨w.heap.size, 1, none⟩ = some (.int .i64 q) ∧ w'.cell? ⟨w.heap.size, 2, none⟩ = some (.int .i64 r) ∧ w'.cell? ⟨w.heap.size, 3, none⟩ = some (.int .i64 s) ∧ w'.cell? ⟨g, i * 5, none⟩ = some (.int .i64 a) ∧ w'.cell? ⟨g, i * 5 + 1, none⟩ = some (.int .i64 b) ∧ w'.cell? ⟨g, i * 5 + 2, none⟩ = some (.int .i64 c) ∧ w'.cell? ⟨g, i * 5 + 3, none⟩ = some (.int .i64 d))
            (first | exact ⟨dr_old b0, dr_old b1, dr_old b2, dr_old b3, dr_old k0, dr_old k1, dr_old k2, dr_old k3⟩ | exact ⟨B0, B1, B2, B3, K0, K1, K2, K3⟩)
            (first | ((go_at_call 60; (with_reducible refine (C60.out _).mono ?_); rintro ee w5 ⟨rfl, hb⟩; have hb5 := bl_via (bl_drew (bl_refl _)) hb; clear hb; have B0 := cl_kept hb5 b0; have B1 := cl_kept hb5 b1; have B2 := cl_kept hb5 b2; have B3 := cl_kept hb5 b3; have B4 := cl_kept hb5 b4; have K0 := cl_kept hb5 k0; have K1 := cl_kept hb5 k1; have K2 := cl_kept hb5 k2; have K3 := cl_kept hb5 k3; have K4 := cl_kept hb5 k4; have y5 : w.heap.size < w5.heap.size := World.block_lt_of_cell? _ _ B0; have HT5 : Hid (PI w w5 ((p, q, r, s), k) va out) := HT.out.kept hb5; clear hb5)) | fail)
          clear b0 b1 b2 b3 b4 k0 k1 k2 k3 k4
          go_wp2_with (at_builtin; refine wpList_append_own _ rfl (.tmp 30) (.tmp 35) 23 rfl (w.heap.size + 1) 55 i0 (.agg #[.int .i64 0, .int .i64 0, .int .i64 0, .int .i64 0, .int .i64 0]) 5 40 Tryz.underlying23 HI.out.1 HI.out.2.1 HI.out.2.2.1 HI.out.2.2.2 rfl (by decide) va out.length (flatJ out) rfl (own_below HT5.out.own (bl_alloc (bl_refl _))) ⟨w5.heap.size, 0, none⟩ 1 1 [.int .i64 a, .int .i64 b, .int .i64 c, .int .i64 d, .int .i64 e] rfl rfl (five_new _ _ _ _ _ _ _ rfl) (five_one _ _ _ _ _) (by have := HL.out; simp; unfold maxLen; omega) (by have := HL.out; simp; omega) (by simp; omega) ?gB)
          case gB =>
            intro v' w3 ho2 hg _
            have HT2 : Hid (PI w w3 ((p, q, r, s), k) v' (out ++ [((a, b, c, d), e)])) := HT5.out.push (d := ((a, b, c, d), e)) (by first | exact ho2 | (rw [List.length_append]; exact ho2)) hg
            clear ho2 hg
            go_wp2
            go_roundg (n - (i + 1))
            case measure => omega
            case rel => exact ⟨i + 1, false, out ++ [((a, b, c, d), e)], by omega, rfl, by go_num, rfl, by have h7 := HL.out; have h8 := h7.2.2.2; simp at h8 ⊢; omega, HQ.out, HT2.out⟩
    · obtain rfl : i = n := by omega
      have i1 : ¬ (i : Int) < (i : Int) := by omega
      have hd : l.drop i = [] := List.drop_eq_nil_of_le (by rw [HLN.out]; exact Nat.le_refl _)
      have HE2 := HE.out
      rw [hd] at HE2
      cases dn with
      | true =>
        have HF : Hid (out = putC l ((p, q, r, s), k)) := (by simpa using HE2 : out = putC l ((p, q, r, s), k))
        clear HE2 HE
        go_wp2_with (fail)
        go_ret
        exact ⟨va, rfl, by rw [← HF.out]; exact HT.out⟩
      | false =>
        have HF : Hid (out ++ [((p, q, r, s), k)] = putC l ((p, q, r, s), k)) := (by simpa [putC] using HE2 : out ++ [((p, q, r, s), k)] = putC l ((p, q, r, s), k))
        clear HE2 HE
        go_wp2_with (at_builtin; refine wpList_append_own _ rfl (.tmp 39) (.tmp 41) 23 rfl (w.heap.size + 1) 55 i0 (.agg #[.int .i64 0, .int .i64 0, .int .i64 0, .int .i64 0, .int .i64 0]) 5 40 Tryz.underlying23 HI.out.1 HI.out.2.1 HI.out.2.2.1 HI.out.2.2.2 rfl (by decide) va out.length (flatJ out) rfl (own_below HT.out.own (bl_alloc (bl_refl _))) ⟨wr.heap.size, 0, none⟩ 1 1 [.int .i64 p, .int .i64 q, .int .i64 r, .int .i64 s, .int .i64 k] rfl rfl (five_new _ _ _ _ _ _ _ rfl) (five_one _ _ _ _ _) (by have := HL.out; simp; unfold maxLen; omega) (by have := HL.out; simp; omega) (by simp; omega) ?gA)
        case gA =>
          intro v' w3 ho2 hg _
          have HT2 : Hid (PI w w3 ((p, q, r, s), k) v' (out ++ [((p, q, r, s), k)])) := HT.out.push (d := ((p, q, r, s), k)) ho2 hg
          clear ho2 hg
          go_wp2
          go_ret
          exact ⟨v', rfl, by rw [← HF.out]; exact HT2.out⟩
end Go.Proofs.YtehmoacggikfmaaGreatDoor
