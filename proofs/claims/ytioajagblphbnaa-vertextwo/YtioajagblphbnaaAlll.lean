/- All lists that go, and how many: what All and Count tell. -/
import Derived.Test.YtioajagblphbnaaApps
import Derived.Test.YtioajagblphbnaaLawv
namespace Go.Proofs.Ytioajagblphbnaa
open Go.RowKit

theorem lst_gt {n k i : Nat} (h : i < n) : gt (lst n k) i = lstK n k i := by simp [gt, lst, h]
theorem numK_lst {n k : Nat} (hk : k < 2 ^ n) : ∀ i, i ≤ n → numK (lst n k) i = ((k / 2 ^ (n - i) : Nat) : Int)
  | 0, _ => by
    rw [numK, Nat.sub_zero, Nat.div_eq_of_lt hk]
    rfl
  | i + 1, hi => by
    have ih := numK_lst hk i (by omega)
    rw [numK, ih, lst_gt (by omega)]
    have e : n - i = (n - 1 - i) + 1 := by omega
    have e2 : n - (i + 1) = n - 1 - i := by omega
    rw [e, e2, Nat.pow_succ, ← Nat.div_div_eq_div_mul]
    unfold lstK
    generalize k / 2 ^ (n - 1 - i) = q
    split <;> omega
theorem lst_kinds (n k : Nat) : (lst n k).any p11 = false := by
  rw [List.any_eq_false]
  intro x hx
  obtain ⟨j, _, rfl⟩ := List.mem_map.1 hx
  unfold lstK
  split <;> simp [p11]
theorem lst_two {n k i : Nat} (h : i < n) : gt (lst n k) i = 1 ∨ gt (lst n k) i = 2 := by
  rw [lst_gt h]
  unfold lstK
  split
  · exact Or.inr rfl
  · exact Or.inl rfl
theorem KL_at (X : List Int) : ∀ N m, m < N → goB X m = true → cnt X m < cnt X N ∧ (KL X N).getD (cnt X m) [] = lst X.length m
  | 0, m, h, _ => by omega
  | N + 1, m, h, hg => by
    by_cases e : m = N
    · subst e
      have e1 : KL X (m + 1) = KL X m ++ [lst X.length m] := by rw [KL, if_pos hg]
      refine ⟨by rw [show cnt X (m + 1) = cnt X m + 1 by rw [cnt, if_pos hg]]; omega, ?_⟩
      rw [e1, ← KL_len, List.getD_eq_getElem?_getD, List.getElem?_append_right (Nat.le_refl _)]
      simp
    · obtain ⟨h1, h2⟩ := KL_at X N m (by omega) hg
      refine ⟨Nat.lt_of_lt_of_le h1 (by rw [cnt]; omega), ?_⟩
      rw [KL, List.getD_eq_getElem?_getD, List.getElem?_append_left (by rw [KL_len]; exact h1), ← List.getD_eq_getElem?_getD]
      exact h2
/-- The law's order and the code's way are one. -/
theorem goB_ord {l : List Int} (hw : wrongV l = 0) {k : Nat} (hk : k < 2 ^ l.length) : goB (dsk l) k = true ↔ Ord (plc l l.length) l.length (k : Int) := by
  have h := same_told (ks := lst l.length k) hw (lst_kinds _ _) (lst_len _ _)
  rw [numK_lst hk l.length (Nat.le_refl _)] at h
  unfold goB
  rw [dsk_len]
  simpa using h
/-- Lists in memory, to be read. -/
def GR (W : World) (a : Option Addr) (gs : List Nat) (X : List Int) (Ls : List (List Int)) : Prop := (∀ i, i < gs.length → ∃ ga, a = some ⟨ga, 0, none⟩ ∧ W.cell? ⟨ga, i, none⟩ = some (sv X (gs.getD i 0))) ∧ KR W gs Ls
theorem GR.kept {W W' : World} {a : Option Addr} {gs : List Nat} {X : List Int} {Ls : List (List Int)} (h : GR W a gs X Ls) (hb : Below W.heap.size W W') : GR W' a gs X Ls := by
  refine ⟨fun i hi => ?_, h.2.1, fun i hi => (h.2.2 i hi).kept hb⟩
  obtain ⟨ga, e, hc⟩ := h.1 i hi
  exact ⟨ga, e, cl_kept hb hc⟩
theorem Gath.read {w w' : World} {X : List Int} {Ls : List (List Int)} {v : Value} (h : Gath w w' X Ls v) : ∃ a c gs, v = .slice a (List.length gs) c ∧ GR w' a gs X Ls ∧ Below w.heap.size w w' := by
  obtain ⟨gs, h1, h2, h3⟩ := h
  rcases h1.2 with ⟨rfl, h0⟩ | ⟨g, cap, cur, rfl, _⟩
  · exact ⟨none, 0, gs, by rw [h0], ⟨fun i hi => by omega, h2⟩, h3⟩
  · refine ⟨some ⟨g, 0, none⟩, cap, gs, rfl, ⟨fun i hi => ⟨g, rfl, ?_⟩, h2⟩, h3⟩
    rw [h1.cellAt i (by omega), List.getElem?_map, List.getElem?_eq_getElem hi, List.getD_eq_getElem?_getD, List.getElem?_eq_getElem hi]
    rfl
theorem collect_any (X : List Int) (n2 : 2 ≤ X.length) (n8 : X.length ≤ 8) (Bd gd cap : Nat) (w : World) (hd : w.cell? ⟨Bd, 0, none⟩ = some (.slice (some ⟨gd, 0, none⟩) X.length cap)) (hr : Rw w gd X) :
    Calls Try.prog 12 #[.func (.func 18) #[] #[.pointer (some ⟨Bd, 0, none⟩)]] w fun e w' => ∃ v, e = .returned v ∧ Gath w w' X (KL X (2 ^ X.length)) v := by
  have C : Hid (Calls Try.prog 20 #[.slice none 0 0, .func (.func 18) #[] #[.pointer (some ⟨Bd, 0, none⟩)]] w fun e w' => ∃ v, e = .returned v ∧ Gath w w' X (KL X (2 ^ X.length)) v) := appendSeq_any X n2 n8 Bd gd cap w hd hr
  clear hd hr
  go_enter Try.func12, Try.ntmps12
  go_wp2_with (go_at_call 20; refine C.out.mono ?_; rintro e w1 ⟨v, rfl, hG⟩; have HG : Hid (Gath w w1 X (KL X (2 ^ X.length)) v) := hG; clear hG)
  go_ret
  exact ⟨_, rfl, HG.out⟩
theorem Gath.mono {w0 w w' : World} {X : List Int} {Ls : List (List Int)} {v : Value} (h : Gath w w' X Ls v) (hb : Below w0.heap.size w0 w) : Gath w0 w' X Ls v := by
  obtain ⟨gs, h1, h2, h3⟩ := h
  refine ⟨gs, ⟨h1.1, h1.2.imp id ?_⟩, h2, bl_via hb h3⟩
  rintro ⟨g, cap, cur, q1, q2, q3⟩
  exact ⟨g, cap, cur, q1, Nat.le_trans hb.size q2, q3⟩
set_option maxRecDepth 100000 in
set_option maxHeartbeats 400000 in
theorem all_ok (v : Value) (l : List Int) (w : World) (hv : Sg w v l) (hm : l.length ≤ 17592186044416) (q : wrongV l = 0) :
    Calls Try.prog 6 #[v] w fun e w' => ∃ a c gs, e = .returned (.tuple #[.slice a (List.length gs) c, .int .i64 0]) ∧ GR w' a gs (dsk l) (KL (dsk l) (2 ^ l.length)) ∧ Below w.heap.size w w' := by
  obtain ⟨n2, n8, ne⟩ := bad_none (wrong_none q).1
  have CW : Hid (∀ W : World, Below w.heap.size w W → Calls Try.prog 9 #[v] W fun e w' => e = .returned (.int .i64 0) ∧ Below W.heap.size W w') := fun W hW => by
    have := wrong_any v l W (hv.kept hW) hm
    rw [q] at this
    exact this
  have CL : Hid (∀ W : World, Below w.heap.size w W → Calls Try.prog 10 #[v] W fun e w' => ∃ g cap, e = .returned (.slice (some ⟨g, 0, none⟩) (dsk l).length cap) ∧ Rw w' g (dsk l) ∧ Below W.heap.size W w') := fun W hW => lay_any v l W (hv.kept hW) n8 (p16_bd (wrong_none q).2.1)
  obtain ⟨a, c, rfl, hrow⟩ := sg_meet hv
  clear hrow hv q
  have hXl := dsk_len l
  obtain ⟨X, hX⟩ : ∃ X, X = dsk l := ⟨_, rfl⟩
  rw [← hX] at hXl CL ⊢
  rw [← hXl] at n2 n8 CW CL ⊢
  clear hX hXl hm ne
  have CC' : Hid (∀ (W : World) (Bd gd cap : Nat), W.cell? ⟨Bd, 0, none⟩ = some (.slice (some ⟨gd, 0, none⟩) X.length cap) → Rw W gd X → Calls Try.prog 12 #[.func (.func 18) #[] #[.pointer (some ⟨Bd, 0, none⟩)]] W fun e w' => ∃ v, e = .returned v ∧ Gath W w' X (KL X (2 ^ X.length)) v) := fun W Bd gd cap h1 h2 => collect_any X n2 n8 Bd gd cap W h1 h2
  obtain ⟨Ls, hLs⟩ : ∃ Ls, Ls = KL X (2 ^ X.length) := ⟨_, rfl⟩
  rw [← hLs] at CC' ⊢
  clear hLs
  go_enter Try.func6, Try.ntmps6
  go_wp2_with (first
    | (go_at_call 9; refine (CW.out _ (bl_refl _)).mono ?_; rintro e w1 ⟨rfl, hb1⟩; have HB1 : Hid (Below w.heap.size w w1) := hb1; clear hb1)
    | (go_at_call 10; refine (CL.out _ HB1.out).mono ?_; rintro e w2 ⟨g, cap, rfl, hr, hb2⟩; have HB2 : Hid (Below w.heap.size w w2 ∧ Rw w2 g X) := ⟨bl_via HB1.out hb2, hr⟩; clear hb2 hr)
    | (go_at_call 11; refine (ways_any _ _ _ _).mono ?_; rintro e w3 ⟨rfl, rfl⟩)
    | (go_at_call 12; refine (CC'.out _ _ g cap (by simp [go_sem]) (HB2.out.2.kept (bl_alloc (bl_refl _)))).mono ?_; rintro e w4 ⟨u, rfl, hG⟩; obtain ⟨a4, c4, gs, rfl, hGR, hb4⟩ := hG.read; have HG : Hid (GR w4 a4 gs X Ls ∧ Below w.heap.size w w4) := ⟨hGR, bl_via (bl_via HB2.out.1 (bl_alloc (bl_refl _))) hb4⟩; clear hG hGR hb4))
  exact bodyPost_ret (v := .tuple #[.slice a4 gs.length c4, .int .i64 0]) (by simp [results, Try.results6, go_sem]) rfl ⟨a4, c4, gs, rfl, HG.out.1, HG.out.2⟩
set_option maxRecDepth 100000 in
theorem all_bad (v : Value) (l : List Int) (w : World) (hv : Sg w v l) (hm : l.length ≤ 17592186044416) (q : wrongV l ≠ 0) :
    Calls Try.prog 6 #[v] w fun e w' => e = .returned (.tuple #[.slice none 0 0, .int .i64 (wrongV l)]) ∧ Below w.heap.size w w' := by
  have CW : Hid (Calls Try.prog 9 #[v] w fun e w' => e = .returned (.int .i64 (wrongV l)) ∧ Below w.heap.size w w') := wrong_any v l w hv hm
  obtain ⟨a, c, rfl, hrow⟩ := sg_meet hv
  have qb : (wrongV l != 0) = true := by simpa using q
  obtain ⟨z, hz⟩ : ∃ z, z = wrongV l := ⟨_, rfl⟩
  rw [← hz] at CW qb ⊢
  clear hrow hv q hz hm
  go_enter Try.func6, Try.ntmps6
  go_wp2_with (go_at_call 9; refine CW.out.mono ?_; rintro e w1 ⟨rfl, hb1⟩; have HB1 : Hid (Below w.heap.size w w1) := hb1; clear hb1)
  exact bodyPost_ret (v := .tuple #[.slice none 0 0, .int .i64 z]) (by simp [results, Try.results6, go_sem]) rfl ⟨rfl, HB1.out⟩
set_option maxRecDepth 100000 in
theorem count_bad (v : Value) (l : List Int) (w : World) (hv : Sg w v l) (hm : l.length ≤ 17592186044416) (q : wrongV l ≠ 0) :
    Calls Try.prog 5 #[v] w fun e w' => e = .returned (.tuple #[.int .i64 0, .int .i64 (wrongV l)]) ∧ Below w.heap.size w w' := by
  have CW : Hid (Calls Try.prog 9 #[v] w fun e w' => e = .returned (.int .i64 (wrongV l)) ∧ Below w.heap.size w w') := wrong_any v l w hv hm
  obtain ⟨a, c, rfl, hrow⟩ := sg_meet hv
  have qb : (wrongV l != 0) = true := by simpa using q
  obtain ⟨z, hz⟩ : ∃ z, z = wrongV l := ⟨_, rfl⟩
  rw [← hz] at CW qb ⊢
  clear hrow hv q hz hm
  go_enter Try.func5, Try.ntmps5
  go_wp2_with (go_at_call 9; refine CW.out.mono ?_; rintro e w1 ⟨rfl, hb1⟩; have HB1 : Hid (Below w.heap.size w w1) := hb1; clear hb1)
  exact bodyPost_ret (v := .tuple #[.int .i64 0, .int .i64 z]) (by simp [results, Try.results5, go_sem]) rfl ⟨rfl, HB1.out⟩
end Go.Proofs.Ytioajagblphbnaa
