/- Path; the reference's PathOf. -/
import Derived.Test.YtblagffijppgjaaWalk
namespace Go.Proofs.Ytblagffijppgjaa
open Go.RowKit

def pathR (fs : List Int) : List (Int × Int) := if fmay fs = 0 then pthL (opn fs) else []
theorem pathR_len (fs : List Int) : (pathR fs).length ≤ 1025 := by
  unfold pathR
  split
  · rename_i h
    have := opn_small (fmay_ok.1 h).1 fs.length
    rw [List.take_length] at this
    rw [pthL_len]
    omega
  · simp
set_option maxRecDepth 100000 in
theorem path9 (v : Value) (fs : List Int) (w : World) (hv : Sg w v fs) (hl : fs.length ≤ 17592186044416) :
    Calls Try.prog 9 #[v] w fun e w' => ∃ u, e = .returned (.tuple #[u, .int .i64 (fmay fs)]) ∧ PR w' u (pathR fs) ∧ Below w.heap.size w w' := by
  have CW : Hid (Calls Try.prog 7 #[v] w fun e w' => ∃ u, e = .returned (.tuple #[u, .int .i64 (fmay fs)]) ∧ Sl w' u (wordR fs) ∧ Below w.heap.size w w') := word7 v fs w hv hl
  have CK : Hid (∀ (u : Value) (ws : List Int) (W : World), Sg W u ws → ws.length ≤ 1023 → Calls Try.prog 20 #[u] W fun e w' => ∃ u, e = .returned u ∧ PR w' u (pthL ws) ∧ Below W.heap.size W w') := fun u ws W h1 h2 => walked20 u ws W h1 h2
  obtain ⟨a, c, rfl, hR⟩ := hv
  clear hR
  obtain ⟨fm, hfm⟩ : ∃ x, x = fmay fs := ⟨_, rfl⟩
  rw [← hfm] at CW ⊢
  by_cases q : fm = 0
  · have HP : Hid (pathR fs = pthL (opn fs) ∧ wordR fs = opn fs ∧ (opn fs).length ≤ 1023) := by
      rw [hfm] at q
      have h2 := opn_small (fmay_ok.1 q).1 fs.length
      rw [List.take_length] at h2
      exact ⟨by rw [pathR, if_pos q], by rw [wordR, if_pos q], h2⟩
    clear hfm
    subst q
    go_enter Try.func9, Try.ntmps9
    go_wp2_with (first | (go_at_call 7; refine CW.out.mono ?_; rintro e w1 ⟨u, rfl, hs, hb⟩; have H1 : Hid (Sg w1 u (opn fs) ∧ Below w.heap.size w w1) := ⟨by rw [← HP.out.2.1]; exact hs.sg, hb⟩; clear hs hb) | (go_at_call 20; refine (CK.out _ _ _ H1.out.1 HP.out.2.2).mono ?_; rintro e w2 ⟨u2, rfl, hp, hb⟩; have H2 : Hid (PR w2 u2 (pthL (opn fs)) ∧ Below w.heap.size w w2) := ⟨hp, bl_via H1.out.2 hb⟩; clear hp hb))
    go_ret2
    exact ⟨_, rfl, by rw [HP.out.1]; exact H2.out.1, H2.out.2⟩
  · have HP : Hid (pathR fs = []) := by
      rw [hfm] at q
      have : pathR fs = [] := by rw [pathR, if_neg q]
      exact this
    have qb : (fm != 0) = true := by simpa using q
    clear hfm CK
    go_enter Try.func9, Try.ntmps9
    go_wp2_with (go_at_call 7; refine CW.out.mono ?_; rintro e w1 ⟨u, rfl, hs, hb⟩)
    go_ret2
    exact ⟨_, rfl, by rw [HP.out]; exact ⟨none, 0, rfl, fun i hi => by simp at hi⟩, hb⟩
/-- Directions by numbers. -/
def dxL : List Int := [1, 0, -1, 0]
def dyL : List Int := [0, 1, 0, -1]
def dk (k : Nat) : Int × Int := (gt dxL k, gt dyL k)
theorem dk_tn {k : Nat} (hk : k < 4) (c : Int) : tn (dk k) c = dk (if c = 2 then (k + 1) % 4 else (k + 3) % 4) := by
  have : k = 0 ∨ k = 1 ∨ k = 2 ∨ k = 3 := by omega
  unfold tn
  by_cases q : c = 2
  · rw [if_pos q, if_pos q]
    rcases this with rfl | rfl | rfl | rfl <;> rfl
  · rw [if_neg q, if_neg q]
    rcases this with rfl | rfl | rfl | rfl <;> rfl
theorem dk_small {k : Nat} (hk : k < 4) : (-1 ≤ gt dxL k ∧ gt dxL k ≤ 1) ∧ -1 ≤ gt dyL k ∧ gt dyL k ≤ 1 := by
  have : k = 0 ∨ k = 1 ∨ k = 2 ∨ k = 3 := by omega
  rcases this with rfl | rfl | rfl | rfl <;> simp [dxL, dyL, gt]
def prefP (ws : List Int) (n : Nat) : List (Int × Int) := (List.range n).map (pw ws)
theorem prefP_succ (ws : List Int) (n : Nat) : prefP ws (n + 1) = prefP ws n ++ [pw ws n] := by simp [prefP, List.range_succ]
theorem prefP_len (ws : List Int) (n : Nat) : (prefP ws n).length = n := by simp [prefP]
set_option maxRecDepth 100000 in
set_option maxHeartbeats 4000000 in
theorem pathOf11 (v : Value) (fs : List Int) (w : World) (hv : Sg w v fs) (hl : fs.length ≤ 10) (hk : allK fs = true) :
    Calls Try.prog 11 #[v] w fun e w' => ∃ u, e = .returned u ∧ PR w' u (pthL (opn fs)) ∧ Below w.heap.size w w' := by
  have CW : Hid (Calls Try.prog 13 #[v] w fun e w' => ∃ u, e = .returned u ∧ w'.ownsRow w.heap.size 3 1 u (opn fs).length (rowI (opn fs)) ∧ Below w.heap.size w w') := wordOf13 v fs w hv hl hk
  have hs := opn_small hl fs.length
  rw [List.take_length] at hs
  obtain ⟨ws, hws⟩ : ∃ x, x = opn fs := ⟨_, rfl⟩
  rw [← hws] at CW hs ⊢
  obtain ⟨a, c, rfl, hR⟩ := hv
  clear hR hws hk hl
  obtain ⟨i34, hI⟩ := info_parts inf34
  have HI : Hid (Try.prog.info? 34 = some i34 ∧ i34.zero = some (.agg #[.int .i64 0, .int .i64 0]) ∧ i34.size = 2 ∧ i34.bytes = 16) := hI
  clear hI
  go_enter Try.func11, Try.ntmps11
  go_wp2_with (go_at_call 13; refine CW.out.mono ?_; rintro e w1 ⟨u, rfl, hown, hb⟩; obtain ⟨a1, c1, rfl, hR1⟩ := (own_sl (n := ws.length) (e := 3) hown rfl).sg; have HR : Hid (∀ i, i < ws.length → ∃ g off, a1 = some ⟨g, off, none⟩ ∧ w1.cell? ⟨g, off + i, none⟩ = some (.int .i64 (gt ws i))) := hR1; have HB1 : Hid (Below w.heap.size w w1) := hb; clear hown hb hR1)
  have H0 : Hid (Rw (w1.alloc (.cells #[.int .i64 1, .int .i64 0, .int .i64 (-1), .int .i64 0] 3)) w1.heap.size dxL) := fun j hj => by
    have : j = 0 ∨ j = 1 ∨ j = 2 ∨ j = 3 := by simp [dxL] at hj; omega
    rcases this with rfl | rfl | rfl | rfl <;> simp [go_sem, dxL, gt]
  have H1 : Hid (Rw ((w1.alloc (.cells #[.int .i64 1, .int .i64 0, .int .i64 (-1), .int .i64 0] 3)).alloc (.cells #[.int .i64 0, .int .i64 1, .int .i64 0, .int .i64 (-1)] 3)) (w1.heap.size + 1) dyL) := fun j hj => by
    have : j = 0 ∨ j = 1 ∨ j = 2 ∨ j = 3 := by simp [dyL] at hj; omega
    rcases this with rfl | rfl | rfl | rfl <;> simp [go_sem, dyL, gt]
  obtain ⟨w2, hw2⟩ : ∃ w2, w2 = (w1.alloc (.cells #[.int .i64 1, .int .i64 0, .int .i64 (-1), .int .i64 0] 3)).alloc (.cells #[.int .i64 0, .int .i64 1, .int .i64 0, .int .i64 (-1)] 3) := ⟨_, rfl⟩
  have HS2 : Hid (w2.heap.size = w1.heap.size + 1 + 1 ∧ Rw w2 w1.heap.size dxL ∧ Rw w2 (w1.heap.size + 1) dyL ∧ Below w1.heap.size w1 w2) := by
    rw [hw2]
    exact ⟨by simp [go_sem], H0.out.kept (bl_alloc (bl_refl _)), H1.out, bl_alloc (bl_alloc (bl_refl _))⟩
  have HB : Hid (w1.heap.size + 1 + 1 = w2.heap.size) := HS2.out.1.symm
  rw [← hw2]
  clear H0 H1 hw2
  go_loopg [6, 7, 8] ws.length (fun gk s6 s7 s8 wx => ∃ i n k g cap : Nat, i ≤ ws.length ∧ gk = ws.length - i ∧ s8 = .int .i64 (i : Int) ∧ s6 = .int .i64 (k : Int) ∧ k < 4 ∧ s7 = .slice (some ⟨g, 0, none⟩) (n + 1) cap ∧ Hid (n = i + 1) ∧ Hid (dw ws i = dk k) ∧ Hid (wx.ownsRow w2.heap.size 34 2 (.slice (some ⟨g, 0, none⟩) (n + 1) cap) (n + 1) (rowP (prefP ws (n + 1)))) ∧ Hid (Below w2.heap.size w2 wx))
  case atStart =>
    refine ⟨0, 1, 0, w1.heap.size + 1 + 1, 2, by omega, rfl, rfl, rfl, by omega, rfl, rfl, rfl, ?_, ?_⟩
    · rw [HB.out]
      exact ⟨rfl, Or.inr ⟨w2.heap.size, 2, _, rfl, Nat.le_refl _, heap_alloc_new w2 _, Nat.le_refl _, by unfold maxLen; omega, rfl, rfl⟩⟩
    · exact bl_alloc (bl_refl _)
  case round =>
    obtain ⟨i, n, k, g3, cap3, hi, rfl, rfl, rfl, hk4, rfl, HNI, HDK, HO, HBW⟩ := hrel
    by_cases h1 : i < ws.length
    · have i1 : (i : Int) < (ws.length : Int) := by omega
      have i0 : (0 : Int) ≤ (i : Int) := by omega
      obtain ⟨g, off, rfl, c0⟩ := HR.out i h1
      replace c0 := cl_kept (bl_via HS2.out.2.2.2 HBW.out) c0
      have zg : g < wr.heap.size := World.block_lt_of_cell? _ _ c0
      obtain ⟨vi, hvi⟩ : ∃ v, v = gt ws i := ⟨_, rfl⟩
      rw [← hvi] at c0
      obtain ⟨⟨x, y⟩, hp⟩ : ∃ p, p = pw ws n := ⟨_, rfl⟩
      have hsm := pw_small ws n
      rw [← hp] at hsm
      have hn : n ≤ 1023 := by have := HNI.out; omega
      simp only at hsm
      have hx1 : -1023 ≤ x := by omega
      have hx2 : x ≤ 1023 := by omega
      have hy1 : -1023 ≤ y := by omega
      have hy2 : y ≤ 1023 := by omega
      have hq : pt (prefP ws (n + 1)) n = (x, y) := by
        rw [pt_lt (by rw [prefP_len]; omega)]
        simp [prefP, hp]
      have hcell := rowP_at (prefP ws (n + 1)) n (by rw [prefP_len]; omega)
      rw [hq] at hcell
      have e0 := HO.out.cells (g := g3) rfl (2 * n) _ hcell.1
      have e1 := HO.out.cells (g := g3) rfl (2 * n + 1) _ hcell.2
      rw [add_at, Nat.mul_comm] at e0 e1
      simp only at e0 e1
      have z3 : g3 < wr.heap.size := World.block_lt_of_cell? _ _ e0
      have z1 : w1.heap.size < wr.heap.size := by have h5 := HS2.out.1; have h6 := HBW.out.size; omega
      have z2 : w1.heap.size + 1 < wr.heap.size := by have h5 := HS2.out.1; have h6 := HBW.out.size; omega
      have HT : Hid (∀ k' : Nat, k' = (if vi = 2 then (k + 1) % 4 else (k + 3) % 4) → dw ws (i + 1) = dk k' ∧ pw ws (n + 1) = (x + gt dxL k', y + gt dyL k')) := fun k' hk' => by
        have a1 : dw ws (i + 1) = dk k' := by rw [dw, HDK.out, ← hvi, dk_tn hk4, hk']
        refine ⟨a1, ?_⟩
        have := HNI.out
        rw [pw, ← hp, this, a1]
        rfl
      clear hvi hp hsm hq hcell
      by_cases q : vi = 2
      · obtain ⟨k', hk'⟩ : ∃ k' : Nat, k' = (k + 1) % 4 := ⟨_, rfl⟩
        have ek : ((k : Int) + 1) % 4 = (k' : Int) := by omega
        have et : ((k : Int) + 1).tmod 4 = (k' : Int) := by rw [Int.tmod_eq_emod_of_nonneg (by omega)]; exact ek
        have hk'4 : k' < 4 := by omega
        have HT2 : Hid (dw ws (i + 1) = dk k' ∧ pw ws (n + 1) = (x + gt dxL k', y + gt dyL k')) := HT.out k' (by rw [if_pos q]; exact hk')
        have qb : (vi == 2) = true := (by simpa using q)
        have j0 : (0 : Int) ≤ (k' : Int) := by omega
        have j1 : (k' : Int) < 4 := by omega
        have a0 := cl_kept HBW.out (HS2.out.2.1 k' hk'4)
        have a1 := cl_kept HBW.out (HS2.out.2.2.1 k' hk'4)
        have hsm := dk_small hk'4
        obtain ⟨vx, hvx⟩ : ∃ v, v = gt dxL k' := ⟨_, rfl⟩
        obtain ⟨vy, hvy⟩ : ∃ v, v = gt dyL k' := ⟨_, rfl⟩
        rw [← hvx] at a0 HT2 hsm
        rw [← hvy] at a1 HT2 hsm
        obtain ⟨⟨s1, s2⟩, s3, s4⟩ := hsm
        clear hvx hvy hk' q HT
        have wv1 : IntKind.i64.wrap (x + vx) = x + vx := by rw [IntKind.wrap_i64]; omega
        have wv2 : IntKind.i64.wrap (y + vy) = y + vy := by rw [IntKind.wrap_i64]; omega
        have m1 : ¬ w1.heap.size = g3 := by have h5 := own_base HO.out g3 rfl; have h6 := HS2.out.1; omega
        have m2 : ¬ w1.heap.size + 1 = g3 := by have h5 := own_base HO.out g3 rfl; have h6 := HS2.out.1; omega
        have m3 : ¬ wr.heap.size = g3 := by omega
        go_wp2
        go_region_held3 (fun w' => w'.cell? ⟨wr.heap.size, 0, none⟩ = some (.int .i64 x) ∧ w'.cell? ⟨wr.heap.size, 1, none⟩ = some (.int .i64 y) ∧ w'.cell? ⟨w1.heap.size, k', none⟩ = some (.int .i64 vx) ∧ w'.cell? ⟨w1.heap.size + 1, k', none⟩ = some (.int .i64 vy)) ((first | (refine ⟨p0, p1, p2, p3⟩; done) | (simp [go_sem, *]; done))) ((refine step_append_lies _ (by rfl) (.tmp 40) (.tmp 56) 27 (by rfl) w2.heap.size 34 i34 (.agg #[.int .i64 0, .int .i64 0]) 2 16 Try.underlying27 HI.out.1 HI.out.2.1 HI.out.2.2.1 HI.out.2.2.2 rfl (by decide) (.slice (some ⟨g3, 0, none⟩) (n + 1) cap3) (n + 1) (rowP (prefP ws (n + 1))) (by rfl) (own_below HO.out (by with_reducible repeat (first | exact bl_refl _ | refine bl_drew ?_ | refine bl_alloc ?_))) ⟨wr.heap.size + 1, 0, none⟩ 1 1 [.int .i64 (x + vx), .int .i64 (y + vy)] (by rfl) rfl (two_cells _ _ (by simp [go_sem]) (by simp [go_sem])) (cell_two _ _) (by decide) (by unfold maxLen; omega) (by omega) (by have := HBW.out.size; simp; omega) _ rfl ?_; intro g4 cap4 w4 hown hgr hat hlt; have H4 : Hid (w4.ownsRow w2.heap.size 34 2 (.slice (some ⟨g4, 0, none⟩) (n + 1 + 1) cap4) (n + 1 + 1) (rowP (prefP ws (n + 1 + 1))) ∧ Below w2.heap.size w2 w4) := ⟨by rw [prefP_succ ws (n + 1), HT2.out.2, rowP_add, rowP_one]; exact hown, bl_own (bl_via HBW.out (by with_reducible repeat (first | exact bl_refl _ | refine bl_drew ?_ | refine bl_alloc ?_))) (own_below HO.out (by with_reducible repeat (first | exact bl_refl _ | refine bl_drew ?_ | refine bl_alloc ?_))) (Nat.le_refl _) hgr⟩; have p0 := hgr.cell (a := ⟨wr.heap.size, 0, none⟩) (v := .int .i64 x) (by simp [go_sem]) (by simp [Value.ownBlock, m3]); have p1 := hgr.cell (a := ⟨wr.heap.size, 1, none⟩) (v := .int .i64 y) (by simp [go_sem]) (by simp [Value.ownBlock, m3]); have p2 := hgr.cell (a := ⟨w1.heap.size, k', none⟩) (v := .int .i64 vx) (cl_kept (by with_reducible repeat (first | exact bl_refl _ | refine bl_drew ?_ | refine bl_alloc ?_)) a0) (by simp [Value.ownBlock, m1]); have p3 := hgr.cell (a := ⟨w1.heap.size + 1, k', none⟩) (v := .int .i64 vy) (cl_kept (by with_reducible repeat (first | exact bl_refl _ | refine bl_drew ?_ | refine bl_alloc ?_)) a1) (by simp [Value.ownBlock, m2]); clear hown hgr hat hlt))
        all_goals
          go_wp2
          go_roundg (ws.length - (i + 1))
          case measure => omega
          case rel => exact ⟨i + 1, n + 1, k', g4, cap4, by omega, rfl, by go_num, by go_num, hk'4, rfl, by have := HNI.out; show n + 1 = i + 1 + 1; omega, HT2.out.1, H4.out.1, H4.out.2⟩
      · obtain ⟨k', hk'⟩ : ∃ k' : Nat, k' = (k + 3) % 4 := ⟨_, rfl⟩
        have ek : ((k : Int) + 3) % 4 = (k' : Int) := by omega
        have et : ((k : Int) + 3).tmod 4 = (k' : Int) := by rw [Int.tmod_eq_emod_of_nonneg (by omega)]; exact ek
        have hk'4 : k' < 4 := by omega
        have HT2 : Hid (dw ws (i + 1) = dk k' ∧ pw ws (n + 1) = (x + gt dxL k', y + gt dyL k')) := HT.out k' (by rw [if_neg q]; exact hk')
        have qb : (vi == 2) = false := (by simpa using q)
        have j0 : (0 : Int) ≤ (k' : Int) := by omega
        have j1 : (k' : Int) < 4 := by omega
        have a0 := cl_kept HBW.out (HS2.out.2.1 k' hk'4)
        have a1 := cl_kept HBW.out (HS2.out.2.2.1 k' hk'4)
        have hsm := dk_small hk'4
        obtain ⟨vx, hvx⟩ : ∃ v, v = gt dxL k' := ⟨_, rfl⟩
        obtain ⟨vy, hvy⟩ : ∃ v, v = gt dyL k' := ⟨_, rfl⟩
        rw [← hvx] at a0 HT2 hsm
        rw [← hvy] at a1 HT2 hsm
        obtain ⟨⟨s1, s2⟩, s3, s4⟩ := hsm
        clear hvx hvy hk' q HT
        have wv1 : IntKind.i64.wrap (x + vx) = x + vx := by rw [IntKind.wrap_i64]; omega
        have wv2 : IntKind.i64.wrap (y + vy) = y + vy := by rw [IntKind.wrap_i64]; omega
        have m1 : ¬ w1.heap.size = g3 := by have h5 := own_base HO.out g3 rfl; have h6 := HS2.out.1; omega
        have m2 : ¬ w1.heap.size + 1 = g3 := by have h5 := own_base HO.out g3 rfl; have h6 := HS2.out.1; omega
        have m3 : ¬ wr.heap.size = g3 := by omega
        go_wp2
        go_region_held3 (fun w' => w'.cell? ⟨wr.heap.size, 0, none⟩ = some (.int .i64 x) ∧ w'.cell? ⟨wr.heap.size, 1, none⟩ = some (.int .i64 y) ∧ w'.cell? ⟨w1.heap.size, k', none⟩ = some (.int .i64 vx) ∧ w'.cell? ⟨w1.heap.size + 1, k', none⟩ = some (.int .i64 vy)) ((first | (refine ⟨p0, p1, p2, p3⟩; done) | (simp [go_sem, *]; done))) ((refine step_append_lies _ (by rfl) (.tmp 40) (.tmp 56) 27 (by rfl) w2.heap.size 34 i34 (.agg #[.int .i64 0, .int .i64 0]) 2 16 Try.underlying27 HI.out.1 HI.out.2.1 HI.out.2.2.1 HI.out.2.2.2 rfl (by decide) (.slice (some ⟨g3, 0, none⟩) (n + 1) cap3) (n + 1) (rowP (prefP ws (n + 1))) (by rfl) (own_below HO.out (by with_reducible repeat (first | exact bl_refl _ | refine bl_drew ?_ | refine bl_alloc ?_))) ⟨wr.heap.size + 1, 0, none⟩ 1 1 [.int .i64 (x + vx), .int .i64 (y + vy)] (by rfl) rfl (two_cells _ _ (by simp [go_sem]) (by simp [go_sem])) (cell_two _ _) (by decide) (by unfold maxLen; omega) (by omega) (by have := HBW.out.size; simp; omega) _ rfl ?_; intro g4 cap4 w4 hown hgr hat hlt; have H4 : Hid (w4.ownsRow w2.heap.size 34 2 (.slice (some ⟨g4, 0, none⟩) (n + 1 + 1) cap4) (n + 1 + 1) (rowP (prefP ws (n + 1 + 1))) ∧ Below w2.heap.size w2 w4) := ⟨by rw [prefP_succ ws (n + 1), HT2.out.2, rowP_add, rowP_one]; exact hown, bl_own (bl_via HBW.out (by with_reducible repeat (first | exact bl_refl _ | refine bl_drew ?_ | refine bl_alloc ?_))) (own_below HO.out (by with_reducible repeat (first | exact bl_refl _ | refine bl_drew ?_ | refine bl_alloc ?_))) (Nat.le_refl _) hgr⟩; have p0 := hgr.cell (a := ⟨wr.heap.size, 0, none⟩) (v := .int .i64 x) (by simp [go_sem]) (by simp [Value.ownBlock, m3]); have p1 := hgr.cell (a := ⟨wr.heap.size, 1, none⟩) (v := .int .i64 y) (by simp [go_sem]) (by simp [Value.ownBlock, m3]); have p2 := hgr.cell (a := ⟨w1.heap.size, k', none⟩) (v := .int .i64 vx) (cl_kept (by with_reducible repeat (first | exact bl_refl _ | refine bl_drew ?_ | refine bl_alloc ?_)) a0) (by simp [Value.ownBlock, m1]); have p3 := hgr.cell (a := ⟨w1.heap.size + 1, k', none⟩) (v := .int .i64 vy) (cl_kept (by with_reducible repeat (first | exact bl_refl _ | refine bl_drew ?_ | refine bl_alloc ?_)) a1) (by simp [Value.ownBlock, m2]); clear hown hgr hat hlt))
        all_goals
          go_wp2
          go_roundg (ws.length - (i + 1))
          case measure => omega
          case rel => exact ⟨i + 1, n + 1, k', g4, cap4, by omega, rfl, by go_num, by go_num, hk'4, rfl, by have := HNI.out; show n + 1 = i + 1 + 1; omega, HT2.out.1, H4.out.1, H4.out.2⟩
    · have i1 : ¬ (i : Int) < (ws.length : Int) := by omega
      obtain rfl : i = ws.length := by omega
      have HF : Hid (PR wr (.slice (some ⟨g3, 0, none⟩) (n + 1) cap3) (pthL ws) ∧ Below w.heap.size w wr) := by
        have h := HO.out
        have e : prefP ws (n + 1) = pthL ws := by rw [HNI.out]; rfl
        rw [e] at h
        have e2 : n + 1 = (pthL ws).length := by rw [pthL_len, HNI.out]
        rw [e2] at h
        exact ⟨by rw [e2]; exact pr_of h, bl_via HB1.out (bl_via HS2.out.2.2.2 HBW.out)⟩
      clear HO HNI HDK
      go_wp2
      go_ret
      exact ⟨_, rfl, HF.out.1, HF.out.2⟩
end Go.Proofs.Ytblagffijppgjaa
