/- A text is read: the reference's way. -/
import Derived.Test.YtehmoacggikfmaaGreatDoorQlbs
import Derived.BigQuiet
namespace Go.Proofs.YtehmoacggikfmaaGreatDoor
open Go.RowKit

/-- What a line of creases answers. -/
abbrev C19 : Prop := ∀ (W H b kc A cap cc : Nat) (zs : List Int) (ca : Option Addr) (cs : List C5) (ws : List (List UInt8)) (w : World), Row w (some ⟨b, 0, none⟩) zs → (1 ≤ W ∧ W ≤ 8) → (1 ≤ H ∧ H ≤ 8) → zs.length = W * H → maskB zs = true → SR w A ws → JRow w ca cs → CsOk cs → cs.length ≤ 90000 →
  Calls Tryz.prog 19 #[.agg #[.int .i64 (W : Int), .int .i64 (H : Int), .slice (some ⟨b, 0, none⟩) zs.length kc, .slice ca cs.length cc], .slice (some ⟨A, 0, none⟩) ws.length cap] w fun e w' => ∃ ca' cc', e = .returned (.tuple #[.agg #[.int .i64 (W : Int), .int .i64 (H : Int), .slice (some ⟨b, 0, none⟩) zs.length kc, .slice ca' (crS W H (innS W H zs) cs ws).2.length cc'], .int .i64 (crS W H (innS W H zs) cs ws).1]) ∧ JRow w' ca' (crS W H (innS W H zs) cs ws).2 ∧ Below w.heap.size w w'
theorem kdW_12y {x : List UInt8} (h : kdW x ≠ 0) : kdW x = 1 ∨ kdW x = 2 := by
  unfold kdW at *
  split
  · exact Or.inl rfl
  · rename_i h1
    rw [if_neg h1] at h
    split
    · exact Or.inr rfl
    · rename_i h2
      rw [if_neg h2] at h
      exact absurd rfl h
theorem crS_csok {W H : Nat} {inn : E4 → Bool} {cs : List C5} {ws : List (List UInt8)} (h : CsOk cs) : CsOk (crS W H inn cs ws).2 := by
  unfold crS
  split
  · exact h
  · rename_i hk
    split
    · split
      · exact h
      · split
        · exact h
        · split
          · exact h
          · rename_i hany
            rename_i a b c d _ _ _ _ _ _
            have hz : ∀ e ∈ egs (a : Int) b c d, kdc cs e = 0 := fun e he => by
              rw [Bool.not_eq_true, List.any_eq_false] at hany
              have h9 := hany e he
              simpa using h9
            have hK : kdW (getW ws 0) = 1 ∨ kdW (getW ws 0) = 2 := kdW_12y (fun e => hk (Or.inr e))
            have h8 := (putA_ok h (egs_nodup _ _ _ _) hz hK (egs (a : Int) b c d).length).1
            rw [List.take_length] at h8
            exact h8
    · exact h
theorem fault_out {w w' : World} {s : ByteArray} {c : Int} {n : Int} {k : Nat} (hf : FltOf s c k ∧ n = (k : Int)) (hb : Below w.heap.size w w') : RsTo w w' s (.returned (.tuple #[.agg #[.int .i64 0, .int .i64 0, .slice none 0 0, .slice none 0 0], .agg #[.int .i64 c, .int .i64 n]])) := by
  obtain ⟨h1, rfl⟩ := hf
  exact Or.inl ⟨c, k, rfl, h1, hb⟩
set_option maxRecDepth 100000 in
theorem qs_start {w w1 w2 : World} {lb : Nat} {Ls : List (List UInt8)} (h2 : SR w1 lb Ls) (hb : Below (w.heap.size + 1 + 1) ((w.alloc (.cells #[.int .i64 0, .int .i64 0, .slice none 0 0, .slice none 0 0] 25)).alloc (.cells #[.int .i64 0, .int .i64 0] 28)) w1) (hw2 : w2 = w1.alloc (.cells #[.int .i64 0, .int .i64 0, .slice none 0 0, .slice none 0 0] 25)) : QI w w2 w1.heap.size lb Ls RS0 := by
  have p2 : Below ((w.alloc (.cells #[.int .i64 0, .int .i64 0, .slice none 0 0, .slice none 0 0] 25)).alloc (.cells #[.int .i64 0, .int .i64 0] 28)).heap.size ((w.alloc (.cells #[.int .i64 0, .int .i64 0, .slice none 0 0, .slice none 0 0] 25)).alloc (.cells #[.int .i64 0, .int .i64 0] 28)) w1 := by simpa using hb
  have q2 : Below ((w.alloc (.cells #[.int .i64 0, .int .i64 0, .slice none 0 0, .slice none 0 0] 25)).alloc (.cells #[.int .i64 0, .int .i64 0] 28)).heap.size ((w.alloc (.cells #[.int .i64 0, .int .i64 0, .slice none 0 0, .slice none 0 0] 25)).alloc (.cells #[.int .i64 0, .int .i64 0] 28)) w2 := by rw [hw2]; exact bl_alloc p2
  have hbw : Below w.heap.size w w2 := bl_via (bl_alloc (bl_alloc (bl_refl w))) q2
  have z1 : w.heap.size + 2 ≤ w1.heap.size := by have h := p2.size; simp at h; omega
  have z2 : w2.heap.size = w1.heap.size + 1 := by rw [hw2]; simp
  have hrf : RF w w2 := { a0 := cl_kept q2 (by simp [go_sem]), a1 := cl_kept q2 (by simp [go_sem]), a2 := cl_kept q2 (by simp [go_sem]), a3 := cl_kept q2 (by simp [go_sem]), b0 := cl_kept q2 (by simp [go_sem]), b1 := cl_kept q2 (by simp [go_sem]), fa := fun o => (q2.frozen (p := ⟨w.heap.size, o, none⟩) (by simp; omega)).trans (by simp [go_sem]), fb := fun o => (q2.frozen (p := ⟨w.heap.size + 1, o, none⟩) (by simp)).trans (by simp [go_sem]), bl := hbw, sz := by omega }
  refine ⟨.slice none 0 0, none, 0, { rf := hrf, b2 := (q2.cell (p := ⟨w.heap.size + 1, 2, none⟩) (by simp)).trans (by simp [go_sem]), c0 := ?_, c1 := ?_, c2 := ?_, c3 := ?_, fz := fun o => ?_, sr := ?_, s2 := z1 }, Or.inl ⟨rfl, rfl⟩, jrow_none _ _⟩
  · rw [hw2]; simp [go_sem, RS0]
  · rw [hw2]; simp [go_sem, RS0]
  · rw [hw2]; simp [go_sem]
  · rw [hw2]; simp [go_sem, RS0]
  · rw [hw2]; simp [go_sem]
  · rw [hw2]; exact h2.kept (bl_alloc (bl_refl _))
set_option maxRecDepth 100000 in
theorem res5 {tm : Array Value} {w : World} {b1 b2 : Nat} {x0 x1 x2 x3 y0 y1 : Value} (ht2 : tm[2]?.getD undef = .pointer (some ⟨b1, 0, none⟩)) (ht3 : tm[3]?.getD undef = .pointer (some ⟨b2, 0, none⟩)) (a0 : w.cell? ⟨b1, 0, none⟩ = some x0) (a1 : w.cell? ⟨b1, 1, none⟩ = some x1) (a2 : w.cell? ⟨b1, 2, none⟩ = some x2) (a3 : w.cell? ⟨b1, 3, none⟩ = some x3) (c0 : w.cell? ⟨b2, 0, none⟩ = some y0) (c1 : w.cell? ⟨b2, 1, none⟩ = some y1) : (results Tryz.f5 tm).run Tryz.prog w = .ok (.tuple #[.agg #[x0, x1, x2, x3], .agg #[y0, y1]]) w := by
  simp [results, Tryz.results5, go_sem, ht2, ht3, a0, a1, a2, a3, c0, c1]
/-- Two results are answered. -/
theorem ret5 {w V : World} {R : Ending → World → Prop} {a : Act} {x0 x1 x2 x3 y0 y1 : Value} (h : RF w V) (ht2 : a.tmps[2]?.getD undef = .pointer (some ⟨w.heap.size, 0, none⟩)) (ht3 : a.tmps[3]?.getD undef = .pointer (some ⟨w.heap.size + 1, 0, none⟩)) (hd : a.defers = [])
    (hR : Below w.heap.size w ((((((V.setCell ⟨w.heap.size, 0, none⟩ x0).setCell ⟨w.heap.size, 1, none⟩ x1).setCell ⟨w.heap.size, 2, none⟩ x2).setCell ⟨w.heap.size, 3, none⟩ x3).setCell ⟨w.heap.size + 1, 0, none⟩ y0).setCell ⟨w.heap.size + 1, 1, none⟩ y1) → R (.returned (.tuple #[.agg #[x0, x1, x2, x3], .agg #[y0, y1]])) ((((((V.setCell ⟨w.heap.size, 0, none⟩ x0).setCell ⟨w.heap.size, 1, none⟩ x1).setCell ⟨w.heap.size, 2, none⟩ x2).setCell ⟨w.heap.size, 3, none⟩ x3).setCell ⟨w.heap.size + 1, 0, none⟩ y0).setCell ⟨w.heap.size + 1, 1, none⟩ y1)) :
    bodyPost Tryz.prog Tryz.f5 R .ret a ((((((V.setCell ⟨w.heap.size, 0, none⟩ x0).setCell ⟨w.heap.size, 1, none⟩ x1).setCell ⟨w.heap.size, 2, none⟩ x2).setCell ⟨w.heap.size, 3, none⟩ x3).setCell ⟨w.heap.size + 1, 0, none⟩ y0).setCell ⟨w.heap.size + 1, 1, none⟩ y1) := by
  have n1 : w.heap.size ≠ w.heap.size + 1 := by omega
  have n2 : w.heap.size + 1 ≠ w.heap.size := by omega
  have e0 := World.cell?_setCell_same V ⟨w.heap.size, 0, none⟩ x0 h.a0
  have e1 := World.cell?_setCell_same (V.setCell ⟨w.heap.size, 0, none⟩ x0) ⟨w.heap.size, 1, none⟩ x1 (set_oth (by decide) h.a1)
  have e2 := World.cell?_setCell_same ((V.setCell ⟨w.heap.size, 0, none⟩ x0).setCell ⟨w.heap.size, 1, none⟩ x1) ⟨w.heap.size, 2, none⟩ x2 (set_oth (by decide) (set_oth (by decide) h.a2))
  have e3 := World.cell?_setCell_same (((V.setCell ⟨w.heap.size, 0, none⟩ x0).setCell ⟨w.heap.size, 1, none⟩ x1).setCell ⟨w.heap.size, 2, none⟩ x2) ⟨w.heap.size, 3, none⟩ x3 (set_oth (by decide) (set_oth (by decide) (set_oth (by decide) h.a3)))
  have d0 := World.cell?_setCell_same ((((V.setCell ⟨w.heap.size, 0, none⟩ x0).setCell ⟨w.heap.size, 1, none⟩ x1).setCell ⟨w.heap.size, 2, none⟩ x2).setCell ⟨w.heap.size, 3, none⟩ x3) ⟨w.heap.size + 1, 0, none⟩ y0 (st_old (st_old (st_old (st_old h.b0 n2) n2) n2) n2)
  have d1 := World.cell?_setCell_same (((((V.setCell ⟨w.heap.size, 0, none⟩ x0).setCell ⟨w.heap.size, 1, none⟩ x1).setCell ⟨w.heap.size, 2, none⟩ x2).setCell ⟨w.heap.size, 3, none⟩ x3).setCell ⟨w.heap.size + 1, 0, none⟩ y0) ⟨w.heap.size + 1, 1, none⟩ y1 (set_oth (by decide) (st_old (st_old (st_old (st_old h.b1 n2) n2) n2) n2))
  refine bodyPost_ret (res5 ht2 ht3 ?_ ?_ ?_ ?_ ?_ ?_) hd (hR (bl_set (bl_set (bl_set (bl_set (bl_set (bl_set h.bl (Nat.le_refl _)) (Nat.le_refl _)) (Nat.le_refl _)) (Nat.le_refl _)) (Nat.le_succ _)) (Nat.le_succ _)))
  · exact st_old (st_old (set_oth (by decide) (set_oth (by decide) (set_oth (by decide) e0))) n1) n1
  · exact st_old (st_old (set_oth (by decide) (set_oth (by decide) e1)) n1) n1
  · exact st_old (st_old (set_oth (by decide) e2) n1) n1
  · exact st_old (st_old e3 n1) n1
  · exact set_oth (by decide) d0
  · exact d1
set_option maxRecDepth 100000 in
set_option maxHeartbeats 1600000 in
theorem readSheet_big (s : ByteArray) (w : World) (hs : 8000 < s.size) : Calls Tryz.prog 5 #[.string s] w fun e w' => RsTo w w' s e := by
  have hz : (8000 : Int) < (s.size : Int) := by omega
  have HF : Hid (FltOf s 2 0 ∧ (0 : Int) = ((0 : Nat) : Int)) := ⟨Or.inl ⟨hs, rfl, rfl⟩, rfl⟩
  clear hs
  go_enter Tryz.func5, Tryz.ntmps5
  go_wp2
  refine bodyPost_ret (v := .tuple #[.agg #[.int .i64 0, .int .i64 0, .slice none 0 0, .slice none 0 0], .agg #[.int .i64 2, .int .i64 0]]) (by simp [results, Tryz.results5, go_sem, *]) rfl ?_
  refine fault_out HF.out ?_
  repeat' (first | exact bl_refl _ | refine bl_alloc ?_ | (refine bl_set ?_ (by (try dsimp only); omega)))
theorem nuI_some' {x : List UInt8} {v : Nat} (h : num x = some v) : nuI x = (v : Int) := by unfold nuI; rw [h]
set_option maxRecDepth 100000 in
set_option maxHeartbeats 12800000 in
theorem readSheet_any (CL : C19) (s : ByteArray) (w : World) (hs : s.size ≤ 8000) : Calls Tryz.prog 5 #[.string s] w fun e w' => RsTo w w' s e := by
  have HCL : Hid C19 := CL
  clear CL
  have hz : ¬ (8000 : Int) < (s.size : Int) := by omega
  obtain ⟨Ls, hLs⟩ : ∃ Ls, Ls = ln s.data.toList := ⟨_, rfl⟩
  have C14 : Hid (∀ V : World, Calls Tryz.prog 14 #[.string s] V fun e w' => ∃ a c A, e = .returned (.slice a Ls.length c) ∧ (Ls ≠ [] → a = some ⟨A, 0, none⟩) ∧ SR w' A Ls ∧ (Ls ≠ [] → V.heap.size ≤ A) ∧ Below V.heap.size V w') := fun V => (refLines_any s V hs).mono (by
    rintro e w' ⟨v, rfl, h⟩
    rw [← hLs] at h
    obtain ⟨a, c, A, rfl, h1, h2, h3, h4⟩ := own_words h
    exact ⟨a, c, A, rfl, h1, h2, h3, h4⟩)
  have hsl : s.data.toList.length = s.size := Array.length_toList
  have HLN : Hid (Ls.length ≤ 8001 ∧ ∀ x ∈ Ls, x.length ≤ 8000) := by
    refine ⟨?_, fun x hx => ?_⟩
    · have := lnF_len s.data.toList []
      rw [hLs]
      unfold ln
      omega
    · rw [hLs] at hx
      have := lnF_sz s.data.toList [] x hx
      simp at this
      omega
  have HFL : Hid (∀ c n st, rdF innS RS0 0 Ls = (c, n, st) → c ≠ 0 → FltOf s c n) := fun c n st h h0 => Or.inr ⟨hs, Or.inl ⟨st, by rw [← hLs]; exact h, h0⟩⟩
  have HFP : Hid (∀ W H m cs, rdF innS RS0 0 Ls = (0, 0, ⟨W, H, H, m, cs⟩) → ¬ Joined (ty m W H) → FltOf s 7 0) := fun W H m cs h hJ => Or.inr ⟨hs, Or.inr ⟨W, H, m, cs, by rw [← hLs]; exact h, hJ, rfl, rfl⟩⟩
  have HSH : Hid (∀ W H m cs, rdF innS RS0 0 Ls = (0, 0, ⟨W, H, H, m, cs⟩) → Joined (ty m W H) → m.length = W * H → (∀ z ∈ m, 0 ≤ z ∧ z ≤ 15) → (1 ≤ W ∧ W ≤ 8) → (1 ≤ H ∧ H ≤ 8) → cs.length ≤ 100000 → ShtOf s W H m cs) := fun W H m cs h hJ h1 h2 h3 h4 h5 => ⟨hs, by rw [← hLs]; exact h, hJ, h1, h2, h3, h4, h5⟩
  clear hs hLs hsl
  go_enter Tryz.func5, Tryz.ntmps5
  go_wp2_with (first
    | (go_at_call 14; (with_reducible refine (C14.out _).mono ?_); rintro e w1 ⟨la, lc, lb, rfl, h1, h2, h3, h4⟩; simp only [World.size_alloc] at h4; have HLA : Hid (Ls ≠ [] → la = some ⟨lb, 0, none⟩) := h1; have H4 : Hid (SR w1 lb Ls ∧ Below (w.heap.size + 1 + 1) ((w.alloc (.cells #[.int .i64 0, .int .i64 0, .slice none 0 0, .slice none 0 0] 25)).alloc (.cells #[.int .i64 0, .int .i64 0] 28)) w1) := ⟨h2, h4⟩; clear h1 h2 h3 h4)
    | fail)
  obtain ⟨w2, hw2⟩ : ∃ V, V = w1.alloc (.cells #[.int .i64 0, .int .i64 0, .slice none 0 0, .slice none 0 0] 25) := ⟨_, rfl⟩
  have HQ0 : Hid (QI w w2 w1.heap.size lb Ls RS0) := qs_start H4.out.1 H4.out.2 hw2
  rw [← hw2]
  clear hw2 H4 C14 hz
  generalize w1.heap.size = sb at *
  go_loopg [6, 7, 8, 9, 10, 11, 12] Ls.length (fun g s6 s7 s8 s9 s10 s11 s12 wx => ∃ (i : Nat) (st : RS), i ≤ Ls.length ∧ Ls.length - i = g ∧ s7 = .int .i64 (i : Int) ∧ s6 = .int .i64 (st.rows : Int) ∧ rdF innS RS0 0 Ls = rdF innS st i (Ls.drop i) ∧ ROk st ∧ QI w wx sb lb Ls st)
  case atStart => exact ⟨0, RS0, Nat.zero_le _, rfl, rfl, rfl, rfl, Or.inl rfl, HQ0.out⟩
  case round =>
    clear HQ0
    obtain ⟨i, st, hi, rfl, rfl, h6, hrd, hok, mv, ca, cc, hqb, hmk, hjr⟩ := hrel
    obtain ⟨W, H, rows, m, cs⟩ := st
    dsimp only at h6 hqb hjr
    subst h6
    have HRD : Hid (rdF innS RS0 0 Ls = rdF innS ⟨W, H, rows, m, cs⟩ i (Ls.drop i)) := hrd
    have HOK : Hid (ROk ⟨W, H, rows, m, cs⟩) := hok
    have HQB : Hid (QB w wr sb lb Ls W H mv (.slice ca cs.length cc)) := hqb
    have HMK : Hid (MK w wr sb ⟨W, H, rows, m, cs⟩ mv) := hmk
    have HJR : Hid (JRow wr ca cs) := hjr
    clear hrd hok hqb hmk hjr
    have hLn := HLN.out.1
    by_cases h1 : i < Ls.length
    · have hne : Ls ≠ [] := fun e => by rw [e] at h1; simp at h1
      have hla := HLA.out hne
      subst hla
      have i1 : (i : Int) < (Ls.length : Int) := by omega
      have i0 : (0 : Int) ≤ (i : Int) := by omega
      have cl : wr.cell? ⟨lb, i, none⟩ = some (.string (bs Ls[i])) := HQB.out.sr i h1
      have hxs : Ls[i].length ≤ 8000 := HLN.out.2 _ (List.getElem_mem h1)
      obtain ⟨D, hD⟩ : ∃ D, D = wd (ahd Ls[i]) := ⟨_, rfl⟩
      obtain ⟨x, hx⟩ : ∃ x, x = Ls[i] := ⟨_, rfl⟩
      have HD : Hid (D = wd (ahd Ls[i])) := hD
      rw [← hx] at cl hxs hD
      have C15' : ∀ V : World, Calls Tryz.prog 15 #[.string (bs x)] V fun e w' => ∃ a c A, e = .returned (.slice a D.length c) ∧ (D ≠ [] → a = some ⟨A, 0, none⟩) ∧ SR w' A D ∧ (D ≠ [] → V.heap.size ≤ A) ∧ Below V.heap.size V w' := fun V => (refWords_any (bs x) V (by rw [bs_size]; exact hxs)).mono (by
        rintro e w' ⟨v, rfl, h⟩
        have h' : LI V w' v D := by rw [hD]; exact h
        obtain ⟨a, c, A, rfl, h1, h2, h3, h4⟩ := own_words h'
        exact ⟨a, c, A, rfl, h1, h2, h3, h4⟩)
      clear hx hxs hD hne
      by_cases hD0 : D = []
      · as_aux_lemma =>
          have C15 : Hid (∀ V : World, Calls Tryz.prog 15 #[.string (bs x)] V fun e w' => ∃ a c, e = .returned (.slice a 0 c) ∧ Below V.heap.size V w') := fun V => (C15' V).mono (by
            rintro e w' ⟨a, c, A, rfl, _, _, _, h4⟩
            exact ⟨a, c, by rw [hD0]; rfl, h4⟩)
          have HRN : Hid (rdF innS RS0 0 Ls = rdF innS ⟨W, H, rows, m, cs⟩ (i + 1) (Ls.drop (i + 1))) := HRD.out.trans (rd_skip innS h1 HD.out hD0)
          clear C15' hD0 HD
          go_wp2_with (first
            | (go_at_call 15; (with_reducible refine (C15.out _).mono ?_); rintro e w3 ⟨wa, wc, rfl, hb3⟩; have H3 : Hid (Below wr.heap.size wr w3) := hb3; clear hb3)
            | fail)
          go_roundg (Ls.length - (i + 1))
          case measure => omega
          case rel => exact ⟨i + 1, ⟨W, H, rows, m, cs⟩, by omega, rfl, by go_num, rfl, HRN.out, HOK.out, mv, ca, cc, HQB.out.kept H3.out, HMK.out.kept H3.out, HJR.out.kept H3.out⟩
      · have C15 : Hid (∀ V : World, Calls Tryz.prog 15 #[.string (bs x)] V fun e w' => ∃ c A, e = .returned (.slice (some ⟨A, 0, none⟩) D.length c) ∧ SR w' A D ∧ Below V.heap.size V w') := fun V => (C15' V).mono (by
          rintro e w' ⟨a, c, A, rfl, h1, h2, _, h4⟩
          exact ⟨c, A, by rw [h1 hD0], h2, h4⟩)
        have k0 : ((D.length : Int) == 0) = false := by
          rw [beq_eq_false_iff_ne]
          intro h
          exact hD0 (List.length_eq_zero_iff.1 (by omega))
        clear C15'
        by_cases hW0 : W = 0
        · obtain ⟨rfl, rfl, rfl, rfl, rfl⟩ : W = 0 ∧ H = 0 ∧ rows = 0 ∧ m = [] ∧ cs = [] := by
            rcases HOK.out with h | h
            · exact ⟨congrArg RS.W h, congrArg RS.H h, congrArg RS.rows h, congrArg RS.mask h, congrArg RS.cs h⟩
            · exact absurd h.1.1 (by dsimp only; omega)
          obtain rfl : mv = .slice none 0 0 := by
            rcases HMK.out with h | h
            · exact h.2
            · exact absurd h.1 (by decide)
          clear HMK HJR HOK hW0
          by_cases h3 : D.length = 3
          · match D, h3, HD, hD0, C15 with
            | [x0, x1, x2], _, HD, hD0, C15 =>
              by_cases hx0 : x0 = sheetW
              · subst hx0
                cases hy : num x1 with
                | none =>
                  as_aux_lemma =>
                    have qx : ((bs sheetW).toList == [115, 104, 101, 101, 116]) = true := by rw [str_beq]; rfl
                    have C16a : Hid (∀ V : World, Calls Tryz.prog 16 #[.string (bs x1)] V fun e w' => e = .returned (.int .i64 (-1)) ∧ w' = V) := fun V => by have h := numberOf_any (bs x1) V; rw [show nuI (bs x1).data.toList = (-1) from nuI_none hy] at h; exact h
                    have HE : Hid (FltOf s 1 (i + 1) ∧ (i : Int) + 1 = ((i + 1 : Nat) : Int)) := ⟨HFL.out _ _ _ (HRD.out.trans (rd_die innS h1 HD.out hD0 (by rw [stp_size, szS_no (Or.inl hy)]) (by decide))) (by decide), by omega⟩
                    clear hy
                    go_wp2_with (first
                      | (go_at_call 15; (with_reducible refine (C15.out _).mono ?_); rintro e w3 ⟨wc, A, rfl, hsr3, hb3⟩; have hq3 := HQB.out.kept hb3; have c0 : w3.cell? ⟨sb, 0, none⟩ = some (.int .i64 0) := hq3.c0; have a0 := hq3.rf.a0; have a1 := hq3.rf.a1; have a2 := hq3.rf.a2; have a3 := hq3.rf.a3; have b0 := hq3.rf.b0; have b1 := hq3.rf.b1; have fa0 := hq3.rf.fa 0; have fa1 := hq3.rf.fa 1; have fa2 := hq3.rf.fa 2; have fa3 := hq3.rf.fa 3; have fb0 := hq3.rf.fb 0; have fb1 := hq3.rf.fb 1; have s0 : w3.cell? ⟨A, 0, none⟩ = some (.string (bs sheetW)) := hsr3 0 (by simp); have s1 : w3.cell? ⟨A, 1, none⟩ = some (.string (bs x1)) := hsr3 1 (by simp); have s2 : w3.cell? ⟨A, 2, none⟩ = some (.string (bs x2)) := hsr3 2 (by simp); have HQ3 : Hid (QB w w3 sb lb Ls 0 0 (.slice none 0 0) (.slice ca 0 cc)) := hq3; have H3 : Hid (SR w3 A [sheetW, x1, x2] ∧ Below wr.heap.size wr w3) := ⟨hsr3, hb3⟩; clear hsr3 hb3 hq3)
                      | (go_at_call 16; (with_reducible refine (C16a.out _).mono ?_); rintro e w5 ⟨rfl, hw5⟩; have hw5b := hw5.symm; clear hw5; subst hw5b)
                      | fail)
                    refine ret5 HQ3.out.rf rfl rfl rfl (fun hbl => ?_)
                    exact fault_out HE.out hbl
                | some a =>
                  cases hz2 : num x2 with
                  | none =>
                    as_aux_lemma =>
                      have qx : ((bs sheetW).toList == [115, 104, 101, 101, 116]) = true := by rw [str_beq]; rfl
                      have C16a : Hid (∀ V : World, Calls Tryz.prog 16 #[.string (bs x1)] V fun e w' => e = .returned (.int .i64 (a : Int)) ∧ w' = V) := fun V => by have h := numberOf_any (bs x1) V; rw [show nuI (bs x1).data.toList = (a : Int) from nuI_some' hy] at h; exact h
                      have C16b : Hid (∀ V : World, Calls Tryz.prog 16 #[.string (bs x2)] V fun e w' => e = .returned (.int .i64 (-1)) ∧ w' = V) := fun V => by have h := numberOf_any (bs x2) V; rw [show nuI (bs x2).data.toList = (-1) from nuI_none hz2] at h; exact h
                      have na : ¬ (a : Int) < 0 := by omega
                      have HE : Hid (FltOf s 1 (i + 1) ∧ (i : Int) + 1 = ((i + 1 : Nat) : Int)) := ⟨HFL.out _ _ _ (HRD.out.trans (rd_die innS h1 HD.out hD0 (by rw [stp_size, szS_no (Or.inr hz2)]) (by decide))) (by decide), by omega⟩
                      clear hy hz2
                      go_wp2_with (first
                        | (go_at_call 15; (with_reducible refine (C15.out _).mono ?_); rintro e w3 ⟨wc, A, rfl, hsr3, hb3⟩; have hq3 := HQB.out.kept hb3; have c0 : w3.cell? ⟨sb, 0, none⟩ = some (.int .i64 0) := hq3.c0; have a0 := hq3.rf.a0; have a1 := hq3.rf.a1; have a2 := hq3.rf.a2; have a3 := hq3.rf.a3; have b0 := hq3.rf.b0; have b1 := hq3.rf.b1; have fa0 := hq3.rf.fa 0; have fa1 := hq3.rf.fa 1; have fa2 := hq3.rf.fa 2; have fa3 := hq3.rf.fa 3; have fb0 := hq3.rf.fb 0; have fb1 := hq3.rf.fb 1; have s0 : w3.cell? ⟨A, 0, none⟩ = some (.string (bs sheetW)) := hsr3 0 (by simp); have s1 : w3.cell? ⟨A, 1, none⟩ = some (.string (bs x1)) := hsr3 1 (by simp); have s2 : w3.cell? ⟨A, 2, none⟩ = some (.string (bs x2)) := hsr3 2 (by simp); have HQ3 : Hid (QB w w3 sb lb Ls 0 0 (.slice none 0 0) (.slice ca 0 cc)) := hq3; have H3 : Hid (SR w3 A [sheetW, x1, x2] ∧ Below wr.heap.size wr w3) := ⟨hsr3, hb3⟩; clear hsr3 hb3 hq3)
                        | (go_at_call 16; (with_reducible refine (C16a.out _).mono ?_); rintro e w5 ⟨rfl, hw5⟩; have hw5b := hw5.symm; clear hw5; subst hw5b)
                        | (go_at_call 16; (with_reducible refine (C16b.out _).mono ?_); rintro e w5 ⟨rfl, hw5⟩; have hw5b := hw5.symm; clear hw5; subst hw5b)
                        | fail)
                      refine ret5 HQ3.out.rf rfl rfl rfl (fun hbl => ?_)
                      exact fault_out HE.out hbl
                  | some b =>
                    have na : ¬ (a : Int) < 0 := by omega
                    have nb : ¬ (b : Int) < 0 := by omega
                    by_cases ra : 1 ≤ a ∧ a ≤ 8
                    · by_cases rb : 1 ≤ b ∧ b ≤ 8
                      · as_aux_lemma =>
                          have qx : ((bs sheetW).toList == [115, 104, 101, 101, 116]) = true := by rw [str_beq]; rfl
                          have C16a : Hid (∀ V : World, Calls Tryz.prog 16 #[.string (bs x1)] V fun e w' => e = .returned (.int .i64 (a : Int)) ∧ w' = V) := fun V => by have h := numberOf_any (bs x1) V; rw [show nuI (bs x1).data.toList = (a : Int) from nuI_some' hy] at h; exact h
                          have C16b : Hid (∀ V : World, Calls Tryz.prog 16 #[.string (bs x2)] V fun e w' => e = .returned (.int .i64 (b : Int)) ∧ w' = V) := fun V => by have h := numberOf_any (bs x2) V; rw [show nuI (bs x2).data.toList = (b : Int) from nuI_some' hz2] at h; exact h
                          have C17a : Hid (∀ V : World, Calls Tryz.prog 17 #[.int .i64 (a : Int), .int .i64 1, .int .i64 8] V fun e w' => e = .returned (.bool true) ∧ w' = V) := fun V => by have h := inBounds_any (a : Int) 1 8 V; rw [show inB (a : Int) 1 8 = true from decide_eq_true (by omega)] at h; exact h
                          have C17b : Hid (∀ V : World, Calls Tryz.prog 17 #[.int .i64 (b : Int), .int .i64 1, .int .i64 8] V fun e w' => e = .returned (.bool true) ∧ w' = V) := fun V => by have h := inBounds_any (b : Int) 1 8 V; rw [show inB (b : Int) 1 8 = true from decide_eq_true (by omega)] at h; exact h
                          obtain ⟨N, hN⟩ : ∃ N, N = a * b := ⟨_, rfl⟩
                          have hN64 : N ≤ 64 := by rw [hN]; exact Nat.le_trans (Nat.mul_le_mul ra.2 rb.2) (by decide)
                          have hwh : IntKind.i64.wrap ((a : Int) * (b : Int)) = (N : Int) := by
                            rw [← Int.natCast_mul, ← hN, IntKind.wrap_i64]
                            omega
                          obtain ⟨CC, hCC, hmk⟩ := make22 N hN64
                          have HCC : Hid (∀ i, i < N → CC[i]? = some (.int .i64 0)) := hCC
                          have HN : Hid (N = a * b) := hN
                          have HST : Hid (rdF innS RS0 0 Ls = rdF innS ⟨a, b, 0, List.replicate (a * b) 0, []⟩ (i + 1) (Ls.drop (i + 1)) ∧ ROk ⟨a, b, 0, List.replicate (a * b) 0, []⟩) := ⟨HRD.out.trans (rd_go innS h1 HD.out hD0 (by rw [stp_size, szS_ok hy hz2 ⟨ra, rb⟩])), ROk.size ⟨ra, rb⟩⟩
                          have HRA : Hid (1 ≤ a) := ra.1
                          clear hy hz2 ra rb hN hCC
                          go_upto_region 17 with (first
                            | (go_at_call 15; (with_reducible refine (C15.out _).mono ?_); rintro e w3 ⟨wc, A, rfl, hsr3, hb3⟩; have hq3 := HQB.out.kept hb3; have c0 : w3.cell? ⟨sb, 0, none⟩ = some (.int .i64 0) := hq3.c0; have c1 := hq3.c1; have c2 := hq3.c2; have c3 := hq3.c3; have f0 := hq3.fz 0; have f1 := hq3.fz 1; have f2 := hq3.fz 2; have f3 := hq3.fz 3; have s0 : w3.cell? ⟨A, 0, none⟩ = some (.string (bs sheetW)) := hsr3 0 (by simp); have s1 : w3.cell? ⟨A, 1, none⟩ = some (.string (bs x1)) := hsr3 1 (by simp); have s2 : w3.cell? ⟨A, 2, none⟩ = some (.string (bs x2)) := hsr3 2 (by simp); have HQ3 : Hid (QB w w3 sb lb Ls 0 0 (.slice none 0 0) (.slice ca 0 cc)) := hq3; have H3 : Hid (SR w3 A [sheetW, x1, x2] ∧ Below wr.heap.size wr w3) := ⟨hsr3, hb3⟩; clear hsr3 hb3 hq3)
                            | (go_at_call 16; (with_reducible refine (C16a.out _).mono ?_); rintro e w5 ⟨rfl, hw5⟩; have hw5b := hw5.symm; clear hw5; subst hw5b)
                            | (go_at_call 16; (with_reducible refine (C16b.out _).mono ?_); rintro e w5 ⟨rfl, hw5⟩; have hw5b := hw5.symm; clear hw5; subst hw5b)
                            | (go_at_call 17; (with_reducible refine (C17a.out _).mono ?_); rintro e w5 ⟨rfl, hw5⟩; have hw5b := hw5.symm; clear hw5; subst hw5b)
                            | (go_at_call 17; (with_reducible refine (C17b.out _).mono ?_); rintro e w5 ⟨rfl, hw5⟩; have hw5b := hw5.symm; clear hw5; subst hw5b)
                            | fail)
                          have nA : A ≠ sb := fun e => by rw [e, c0] at s0; cases s0
                          go_region_held3 (fun w' => w'.cell? ⟨A, 1, none⟩ = some (.string (bs x1)) ∧ w'.cell? ⟨A, 2, none⟩ = some (.string (bs x2)))
                            (first | exact ⟨dr_old s1, dr_old s2⟩ | exact ⟨st_old (st_old (st_old (st_old (dr_old s1) nA) nA) nA) nA, st_old (st_old (st_old (st_old (dr_old s2) nA) nA) nA) nA⟩ | (refine ⟨?_, ?_⟩ <;> (simp [go_sem, *]; done)))
                            (first
                              | (go_at_call 16; (with_reducible refine (C16a.out _).mono ?_); rintro e w5 ⟨rfl, hw5⟩; have hw5b := hw5.symm; clear hw5; subst hw5b)
                              | (go_at_call 16; (with_reducible refine (C16b.out _).mono ?_); rintro e w5 ⟨rfl, hw5⟩; have hw5b := hw5.symm; clear hw5; subst hw5b)
                              | fail)
                          go_upto_region 18 with (fail)
                          refine wp_named (fun V hV => ?_)
                          have HQV : Hid (QB w V sb lb Ls a b (.slice none 0 0) (.slice none 0 0)) := by
                            show QB w V sb lb Ls a b (.slice none 0 0) (.slice none 0 0)
                            rw [hV]
                            exact (HQ3.out.kept (bl_drew (bl_refl _))).put4
                          clear hV c0 c1 c2 c3 f0 f1 f2 f3 s0 s1 s2
                          have c0 := HQV.out.c0
                          have c1 := HQV.out.c1
                          have c2 := HQV.out.c2
                          have f2 := HQV.out.fz 2
                          have zl : sb < V.heap.size := HQV.out.lt
                          have zn : ¬ sb = V.heap.size := by omega
                          have zn2 : ¬ V.heap.size = sb := by omega
                          go_wp2
                          go_roundg (Ls.length - (i + 1))
                          case measure => omega
                          case rel =>
                            refine ⟨i + 1, ⟨a, b, 0, List.replicate (a * b) 0, []⟩, by omega, rfl, by go_num, rfl, HST.out.1, HST.out.2, ?_⟩
                            have hq5 := HQV.out.put2 (.slice (some ⟨V.heap.size, 0, none⟩) N N)
                            have zv : (V.setCell ⟨sb, 2, none⟩ (.slice (some ⟨V.heap.size, 0, none⟩) N N)).heap.size = V.heap.size := by simp
                            have hmi := MI.made (w := V.setCell ⟨sb, 2, none⟩ (.slice (some ⟨V.heap.size, 0, none⟩) N N)) HCC.out
                            rw [zv, HN.out] at hmi
                            rw [HN.out] at hq5
                            have hq6 := hq5.kept (bl_alloc (o := .cells CC 3) (bl_refl _))
                            have z9 := HQV.out.rf.sz
                            rw [HN.out]
                            exact ⟨_, none, 0, hq6, Or.inr ⟨HRA.out, _, rfl, hmi, Ne.symm zn, z9⟩, jrow_none _ _⟩
                      · as_aux_lemma =>
                          have qx : ((bs sheetW).toList == [115, 104, 101, 101, 116]) = true := by rw [str_beq]; rfl
                          have C16a : Hid (∀ V : World, Calls Tryz.prog 16 #[.string (bs x1)] V fun e w' => e = .returned (.int .i64 (a : Int)) ∧ w' = V) := fun V => by have h := numberOf_any (bs x1) V; rw [show nuI (bs x1).data.toList = (a : Int) from nuI_some' hy] at h; exact h
                          have C16b : Hid (∀ V : World, Calls Tryz.prog 16 #[.string (bs x2)] V fun e w' => e = .returned (.int .i64 (b : Int)) ∧ w' = V) := fun V => by have h := numberOf_any (bs x2) V; rw [show nuI (bs x2).data.toList = (b : Int) from nuI_some' hz2] at h; exact h
                          have C17a : Hid (∀ V : World, Calls Tryz.prog 17 #[.int .i64 (a : Int), .int .i64 1, .int .i64 8] V fun e w' => e = .returned (.bool true) ∧ w' = V) := fun V => by have h := inBounds_any (a : Int) 1 8 V; rw [show inB (a : Int) 1 8 = true from decide_eq_true (by omega)] at h; exact h
                          have C17b : Hid (∀ V : World, Calls Tryz.prog 17 #[.int .i64 (b : Int), .int .i64 1, .int .i64 8] V fun e w' => e = .returned (.bool false) ∧ w' = V) := fun V => by have h := inBounds_any (b : Int) 1 8 V; rw [show inB (b : Int) 1 8 = false from decide_eq_false (by omega)] at h; exact h
                          have HE : Hid (FltOf s 3 (i + 1) ∧ (i : Int) + 1 = ((i + 1 : Nat) : Int)) := ⟨HFL.out _ _ _ (HRD.out.trans (rd_die innS h1 HD.out hD0 (by rw [stp_size, szS_out hy hz2 (fun h => rb h.2)]) (by decide))) (by decide), by omega⟩
                          clear hy hz2 ra rb
                          go_wp2_with (first
                            | (go_at_call 15; (with_reducible refine (C15.out _).mono ?_); rintro e w3 ⟨wc, A, rfl, hsr3, hb3⟩; have hq3 := HQB.out.kept hb3; have c0 : w3.cell? ⟨sb, 0, none⟩ = some (.int .i64 0) := hq3.c0; have a0 := hq3.rf.a0; have a1 := hq3.rf.a1; have a2 := hq3.rf.a2; have a3 := hq3.rf.a3; have b0 := hq3.rf.b0; have b1 := hq3.rf.b1; have fa0 := hq3.rf.fa 0; have fa1 := hq3.rf.fa 1; have fa2 := hq3.rf.fa 2; have fa3 := hq3.rf.fa 3; have fb0 := hq3.rf.fb 0; have fb1 := hq3.rf.fb 1; have s0 : w3.cell? ⟨A, 0, none⟩ = some (.string (bs sheetW)) := hsr3 0 (by simp); have s1 : w3.cell? ⟨A, 1, none⟩ = some (.string (bs x1)) := hsr3 1 (by simp); have s2 : w3.cell? ⟨A, 2, none⟩ = some (.string (bs x2)) := hsr3 2 (by simp); have HQ3 : Hid (QB w w3 sb lb Ls 0 0 (.slice none 0 0) (.slice ca 0 cc)) := hq3; have H3 : Hid (SR w3 A [sheetW, x1, x2] ∧ Below wr.heap.size wr w3) := ⟨hsr3, hb3⟩; clear hsr3 hb3 hq3)
                            | (go_at_call 16; (with_reducible refine (C16a.out _).mono ?_); rintro e w5 ⟨rfl, hw5⟩; have hw5b := hw5.symm; clear hw5; subst hw5b)
                            | (go_at_call 16; (with_reducible refine (C16b.out _).mono ?_); rintro e w5 ⟨rfl, hw5⟩; have hw5b := hw5.symm; clear hw5; subst hw5b)
                            | (go_at_call 17; (with_reducible refine (C17a.out _).mono ?_); rintro e w5 ⟨rfl, hw5⟩; have hw5b := hw5.symm; clear hw5; subst hw5b)
                            | (go_at_call 17; (with_reducible refine (C17b.out _).mono ?_); rintro e w5 ⟨rfl, hw5⟩; have hw5b := hw5.symm; clear hw5; subst hw5b)
                            | fail)
                          refine ret5 HQ3.out.rf rfl rfl rfl (fun hbl => ?_)
                          exact fault_out HE.out hbl
                    · as_aux_lemma =>
                        have qx : ((bs sheetW).toList == [115, 104, 101, 101, 116]) = true := by rw [str_beq]; rfl
                        have C16a : Hid (∀ V : World, Calls Tryz.prog 16 #[.string (bs x1)] V fun e w' => e = .returned (.int .i64 (a : Int)) ∧ w' = V) := fun V => by have h := numberOf_any (bs x1) V; rw [show nuI (bs x1).data.toList = (a : Int) from nuI_some' hy] at h; exact h
                        have C16b : Hid (∀ V : World, Calls Tryz.prog 16 #[.string (bs x2)] V fun e w' => e = .returned (.int .i64 (b : Int)) ∧ w' = V) := fun V => by have h := numberOf_any (bs x2) V; rw [show nuI (bs x2).data.toList = (b : Int) from nuI_some' hz2] at h; exact h
                        have C17a : Hid (∀ V : World, Calls Tryz.prog 17 #[.int .i64 (a : Int), .int .i64 1, .int .i64 8] V fun e w' => e = .returned (.bool false) ∧ w' = V) := fun V => by have h := inBounds_any (a : Int) 1 8 V; rw [show inB (a : Int) 1 8 = false from decide_eq_false (by omega)] at h; exact h
                        have HE : Hid (FltOf s 3 (i + 1) ∧ (i : Int) + 1 = ((i + 1 : Nat) : Int)) := ⟨HFL.out _ _ _ (HRD.out.trans (rd_die innS h1 HD.out hD0 (by rw [stp_size, szS_out hy hz2 (fun h => ra h.1)]) (by decide))) (by decide), by omega⟩
                        clear hy hz2 ra
                        go_wp2_with (first
                          | (go_at_call 15; (with_reducible refine (C15.out _).mono ?_); rintro e w3 ⟨wc, A, rfl, hsr3, hb3⟩; have hq3 := HQB.out.kept hb3; have c0 : w3.cell? ⟨sb, 0, none⟩ = some (.int .i64 0) := hq3.c0; have a0 := hq3.rf.a0; have a1 := hq3.rf.a1; have a2 := hq3.rf.a2; have a3 := hq3.rf.a3; have b0 := hq3.rf.b0; have b1 := hq3.rf.b1; have fa0 := hq3.rf.fa 0; have fa1 := hq3.rf.fa 1; have fa2 := hq3.rf.fa 2; have fa3 := hq3.rf.fa 3; have fb0 := hq3.rf.fb 0; have fb1 := hq3.rf.fb 1; have s0 : w3.cell? ⟨A, 0, none⟩ = some (.string (bs sheetW)) := hsr3 0 (by simp); have s1 : w3.cell? ⟨A, 1, none⟩ = some (.string (bs x1)) := hsr3 1 (by simp); have s2 : w3.cell? ⟨A, 2, none⟩ = some (.string (bs x2)) := hsr3 2 (by simp); have HQ3 : Hid (QB w w3 sb lb Ls 0 0 (.slice none 0 0) (.slice ca 0 cc)) := hq3; have H3 : Hid (SR w3 A [sheetW, x1, x2] ∧ Below wr.heap.size wr w3) := ⟨hsr3, hb3⟩; clear hsr3 hb3 hq3)
                          | (go_at_call 16; (with_reducible refine (C16a.out _).mono ?_); rintro e w5 ⟨rfl, hw5⟩; have hw5b := hw5.symm; clear hw5; subst hw5b)
                          | (go_at_call 16; (with_reducible refine (C16b.out _).mono ?_); rintro e w5 ⟨rfl, hw5⟩; have hw5b := hw5.symm; clear hw5; subst hw5b)
                          | (go_at_call 17; (with_reducible refine (C17a.out _).mono ?_); rintro e w5 ⟨rfl, hw5⟩; have hw5b := hw5.symm; clear hw5; subst hw5b)
                          | fail)
                        refine ret5 HQ3.out.rf rfl rfl rfl (fun hbl => ?_)
                        exact fault_out HE.out hbl
              · as_aux_lemma =>
                  have qx : ((bs x0).toList == [115, 104, 101, 101, 116]) = false := by rw [str_beq]; exact decide_eq_false hx0
                  have HE : Hid (FltOf s 1 (i + 1) ∧ (i : Int) + 1 = ((i + 1 : Nat) : Int)) := ⟨HFL.out _ _ _ (HRD.out.trans (rd_die innS h1 HD.out hD0 (by rw [stp_size, szS_word hx0]) (by decide))) (by decide), by omega⟩
                  clear hx0
                  go_wp2_with (first
                    | (go_at_call 15; (with_reducible refine (C15.out _).mono ?_); rintro e w3 ⟨wc, A, rfl, hsr3, hb3⟩; have hq3 := HQB.out.kept hb3; have c0 : w3.cell? ⟨sb, 0, none⟩ = some (.int .i64 0) := hq3.c0; have a0 := hq3.rf.a0; have a1 := hq3.rf.a1; have a2 := hq3.rf.a2; have a3 := hq3.rf.a3; have b0 := hq3.rf.b0; have b1 := hq3.rf.b1; have fa0 := hq3.rf.fa 0; have fa1 := hq3.rf.fa 1; have fa2 := hq3.rf.fa 2; have fa3 := hq3.rf.fa 3; have fb0 := hq3.rf.fb 0; have fb1 := hq3.rf.fb 1; have s0 : w3.cell? ⟨A, 0, none⟩ = some (.string (bs x0)) := hsr3 0 (by simp); have s1 : w3.cell? ⟨A, 1, none⟩ = some (.string (bs x1)) := hsr3 1 (by simp); have s2 : w3.cell? ⟨A, 2, none⟩ = some (.string (bs x2)) := hsr3 2 (by simp); have HQ3 : Hid (QB w w3 sb lb Ls 0 0 (.slice none 0 0) (.slice ca 0 cc)) := hq3; have H3 : Hid (SR w3 A [x0, x1, x2] ∧ Below wr.heap.size wr w3) := ⟨hsr3, hb3⟩; clear hsr3 hb3 hq3)
                    | fail)
                  refine ret5 HQ3.out.rf rfl rfl rfl (fun hbl => ?_)
                  exact fault_out HE.out hbl
          · as_aux_lemma =>
              have k3 : ¬ (D.length : Int) = 3 := by omega
              have k3b : ((D.length : Int) == 3) = false := by rw [beq_eq_false_iff_ne]; omega
              have HE : Hid (FltOf s 1 (i + 1) ∧ (i : Int) + 1 = ((i + 1 : Nat) : Int)) := ⟨HFL.out _ _ _ (HRD.out.trans (rd_die innS h1 HD.out hD0 (by rw [stp_size, szS_len h3]) (by decide))) (by decide), by omega⟩
              clear h3
              go_wp2_with (first
                | (go_at_call 15; (with_reducible refine (C15.out _).mono ?_); rintro e w3 ⟨wc, A, rfl, hsr3, hb3⟩; have hq3 := HQB.out.kept hb3; have c0 : w3.cell? ⟨sb, 0, none⟩ = some (.int .i64 0) := hq3.c0; have a0 := hq3.rf.a0; have a1 := hq3.rf.a1; have a2 := hq3.rf.a2; have a3 := hq3.rf.a3; have b0 := hq3.rf.b0; have b1 := hq3.rf.b1; have fa0 := hq3.rf.fa 0; have fa1 := hq3.rf.fa 1; have fa2 := hq3.rf.fa 2; have fa3 := hq3.rf.fa 3; have fb0 := hq3.rf.fb 0; have fb1 := hq3.rf.fb 1; have HQ3 : Hid (QB w w3 sb lb Ls 0 0 (.slice none 0 0) (.slice ca 0 cc)) := hq3; have H3 : Hid (SR w3 A D ∧ Below wr.heap.size wr w3) := ⟨hsr3, hb3⟩; clear hsr3 hb3 hq3)
                | fail)
              refine ret5 HQ3.out.rf rfl rfl rfl (fun hbl => ?_)
              exact fault_out HE.out hbl
        · by_cases hr : rows < H
          · obtain ⟨hW8, hH8, hrle, hml, hmz, -, -, hcs0⟩ : (1 ≤ W ∧ W ≤ 8) ∧ (1 ≤ H ∧ H ≤ 8) ∧ rows ≤ H ∧ m.length = W * H ∧ (∀ z ∈ m, 0 ≤ z ∧ z ≤ 15) ∧ CsOk cs ∧ (∀ x ∈ cs, innS W H m x.1 = true) ∧ (rows < H → cs = []) := by
              rcases HOK.out with h | h
              · exact absurd (congrArg RS.W h) hW0
              · exact h
            obtain rfl : cs = [] := hcs0 hr
            obtain ⟨mb, rfl, hmi, hmb, hmb2⟩ : ∃ mb, mv = .slice (some ⟨mb, 0, none⟩) (W * H) (W * H) ∧ MI wr mb m ∧ mb ≠ sb ∧ w.heap.size + 2 ≤ mb := by
              rcases HMK.out with h | h
              · exact absurd h.1 hW0
              · exact h.2
            obtain ⟨N, hN⟩ : ∃ N, N = W * H := ⟨_, rfl⟩
            rw [← hN] at HQB
            have HM : Hid (MI wr mb m ∧ mb ≠ sb ∧ w.heap.size + 2 ≤ mb ∧ m.length = N ∧ N = W * H) := ⟨hmi, hmb, hmb2, hml.trans hN.symm, hN⟩
            have kW : ((W : Int) == 0) = false := by rw [beq_eq_false_iff_ne]; omega
            have kr : (rows : Int) < (H : Int) := by omega
            clear hcs0 hmi hmb2 hml hmz HMK HJR hN
            by_cases h5 : D.length = 1
            · match D, h5, HD, hD0, C15 with
              | [x0], _, HD, hD0, C15 =>
                by_cases hxw : x0.length = W
                · as_aux_lemma =>
                    have hsz : ((bs x0).size : Int) = (W : Int) := by rw [bs_size, hxw]
                    have HXW : Hid (x0.length = W) := hxw
                    obtain ⟨B, hB⟩ : ∃ B, B = (H - 1 - rows) * W := ⟨_, rfl⟩
                    have hyw : B + W ≤ N := by
                      have h2 := Nat.mul_le_mul_right W (show H - 1 - rows + 1 ≤ H by omega)
                      rw [Nat.succ_mul, Nat.mul_comm H W, ← HM.out.2.2.2.2, ← hB] at h2
                      exact h2
                    have hN64 : N ≤ 64 := by rw [HM.out.2.2.2.2]; exact Nat.le_trans (Nat.mul_le_mul hW8.2 hH8.2) (by decide)
                    obtain ⟨Z1, hZ1⟩ : ∃ Z : Int, Z = (H : Int) - 1 := ⟨_, rfl⟩
                    obtain ⟨Z2, hZ2⟩ : ∃ Z : Nat, Z = H - 1 - rows := ⟨_, rfl⟩
                    have m1 : IntKind.i64.wrap ((H : Int) - 1) = Z1 := by rw [IntKind.wrap_i64]; omega
                    have m2 : IntKind.i64.wrap (Z1 - (rows : Int)) = (Z2 : Int) := by rw [IntKind.wrap_i64]; omega
                    have m3 : IntKind.i64.wrap ((Z2 : Int) * (W : Int)) = (B : Int) := by
                      rw [← Int.natCast_mul, hZ2, ← hB, IntKind.wrap_i64]
                      omega
                    have HROW : Hid (∀ (hl : LOK x0 W), rdF innS RS0 0 Ls = rdF innS ⟨W, H, rows + 1, stM m B x0, []⟩ (i + 1) (Ls.drop (i + 1)) ∧ ROk ⟨W, H, rows + 1, stM m B x0, []⟩) := fun hl => ⟨HRD.out.trans (rd_go innS h1 HD.out hD0 (by rw [row_stp innS hW8.1 hr, rowOk_yes hxw (fun k hk => hl k hk (by omega)), hB]; rfl)), HOK.out.row hW8.1 hr⟩
                    have HBAD : Hid (∀ k (hk : k < x0.length), ltr x0[k] = none → FltOf s 1 (i + 1) ∧ (i : Int) + 1 = ((i + 1 : Nat) : Int)) := fun k hk hl => ⟨HFL.out _ _ _ (HRD.out.trans (rd_die innS h1 HD.out hD0 (by rw [row_stp innS hW8.1 hr, rowOk_bad hk hl]; rfl) (by decide))) (by decide), by omega⟩
                    clear hxw hB hZ1 hZ2
                    go_upto_region 20 with (first
                      | (go_at_call 15; (with_reducible refine (C15.out _).mono ?_); rintro e w3 ⟨wc, A, rfl, hsr3, hb3⟩; have hq3 := HQB.out.kept hb3; have c0 := hq3.c0; have c1 := hq3.c1; have s0 : w3.cell? ⟨A, 0, none⟩ = some (.string (bs x0)) := hsr3 0 (by simp); have HQ3 : Hid (QB w w3 sb lb Ls W H (.slice (some ⟨mb, 0, none⟩) N N) (.slice ca 0 cc)) := hq3; have H3 : Hid (SR w3 A [x0] ∧ Below wr.heap.size wr w3) := ⟨hsr3, hb3⟩; clear hsr3 hb3 hq3)
                      | fail)
                    refine wp_region_held_drew (S := fun w' => w'.cell? ⟨A, 0, none⟩ = some (.string (bs x0)) ∧ w'.cell? ⟨sb, 0, none⟩ = some (.int .i64 (W : Int))) (by kernel_rfl) ⟨dr_old s0, dr_old c0⟩ (fun hHeld => ?_)
                    try simp only [Act.put, List.getElem_toArray, List.getElem_cons_succ, List.getElem_cons_zero, List.setIfInBounds_toArray, List.set_cons_zero, List.set_cons_succ]
                    refine wpAnyH_take (i := 0) (v := .slice (some ⟨A, 0, none⟩) 1 wc) rfl (by kernel_rfl) (by kernel_rfl) (by kernel_rfl) (fun _ _ _ h => h) (Or.inl ⟨by rfl, ?hyy⟩) (by assumption) ?_
                    case hyy => (intro w' hSw; (try dsimp only at hSw); go_simp)
                    try simp only [Act.put, List.getElem_toArray, List.getElem_cons_zero, List.setIfInBounds_toArray, List.set_cons_zero, List.set_cons_succ]
                    refine wpAnyH_take (i := 1) (v := .int .i64 1) rfl (by kernel_rfl) (by kernel_rfl) (by kernel_rfl) (fun _ _ _ h => h) (Or.inl ⟨by rfl, ?hyy⟩) (by assumption) ?_
                    case hyy => (intro w' hSw; (try dsimp only at hSw); go_simp)
                    try simp only [Act.put, List.getElem_toArray, List.getElem_cons_succ, List.getElem_cons_zero, List.setIfInBounds_toArray, List.set_cons_zero, List.set_cons_succ]
                    refine wpAnyH_take (i := 2) (v := .bool true) rfl (by kernel_rfl) (by kernel_rfl) (by kernel_rfl) (fun _ _ _ h => h) (Or.inl ⟨by rfl, ?hyy⟩) (by assumption) ?_
                    case hyy => (intro w' hSw; (try dsimp only at hSw); go_simp)
                    try simp only [Act.put, List.getElem_toArray, List.getElem_cons_succ, List.getElem_cons_zero, List.setIfInBounds_toArray, List.set_cons_zero, List.set_cons_succ]
                    refine wpAnyH_take (i := 3) (v := .bool true) rfl (by kernel_rfl) (by kernel_rfl) (by kernel_rfl) (fun _ _ _ h => h) (Or.inl ⟨by rfl, ?hyy⟩) (by assumption) ?_
                    case hyy => (intro w' hSw; (try dsimp only at hSw); go_simp)
                    try simp only [Act.put, List.getElem_toArray, List.getElem_cons_succ, List.getElem_cons_zero, List.setIfInBounds_toArray, List.set_cons_zero, List.set_cons_succ]
                    refine wpAnyH_take (i := 4) (v := .slice (some ⟨A, 0, none⟩) 1 wc) rfl (by kernel_rfl) (by kernel_rfl) (by kernel_rfl) (fun _ _ _ h => h) (Or.inl ⟨by rfl, ?hyy⟩) (by assumption) ?_
                    case hyy => (intro w' hSw; (try dsimp only at hSw); go_simp)
                    try simp only [Act.put, List.getElem_toArray, List.getElem_cons_succ, List.getElem_cons_zero, List.setIfInBounds_toArray, List.set_cons_zero, List.set_cons_succ]
                    refine wpAnyH_take (i := 5) (v := .pointer (some ⟨A, 0, none⟩)) rfl (by kernel_rfl) (by kernel_rfl) (by kernel_rfl) (fun _ _ _ h => h) (Or.inl ⟨by rfl, ?hyy⟩) (by assumption) ?_
                    case hyy => (intro w' hSw; (try dsimp only at hSw); go_simp)
                    try simp only [Act.put, List.getElem_toArray, List.getElem_cons_succ, List.getElem_cons_zero, List.setIfInBounds_toArray, List.set_cons_zero, List.set_cons_succ]
                    refine wpAnyH_take (i := 6) (v := .string (bs x0)) rfl (by kernel_rfl) (by kernel_rfl) (by kernel_rfl) (fun _ _ _ h => h) (Or.inl ⟨by rfl, ?hyy⟩) (by assumption) ?_
                    case hyy => (intro w' hSw; (try dsimp only at hSw); go_simp)
                    try simp only [Act.put, List.getElem_toArray, List.getElem_cons_succ, List.getElem_cons_zero, List.setIfInBounds_toArray, List.set_cons_zero, List.set_cons_succ]
                    refine wpAnyH_take (i := 7) (v := .int .i64 ((bs x0).size : Int)) rfl (by kernel_rfl) (by kernel_rfl) (by kernel_rfl) (fun _ _ _ h => h) (Or.inl ⟨by rfl, ?hyy⟩) (by assumption) ?_
                    case hyy => (intro w' hSw; (try dsimp only at hSw); go_simp)
                    try simp only [Act.put, List.getElem_toArray, List.getElem_cons_succ, List.getElem_cons_zero, List.setIfInBounds_toArray, List.set_cons_zero, List.set_cons_succ]
                    refine wpAnyH_take (i := 8) (v := .pointer (some ⟨sb, 0, none⟩)) rfl (by kernel_rfl) (by kernel_rfl) (by kernel_rfl) (fun _ _ _ h => h) (Or.inl ⟨by rfl, ?hyy⟩) (by assumption) ?_
                    case hyy => (intro w' hSw; (try dsimp only at hSw); go_simp)
                    try simp only [Act.put, List.getElem_toArray, List.getElem_cons_succ, List.getElem_cons_zero, List.setIfInBounds_toArray, List.set_cons_zero, List.set_cons_succ]
                    refine wpAnyH_take (i := 9) (v := .int .i64 (W : Int)) rfl (by kernel_rfl) (by kernel_rfl) (by kernel_rfl) (fun _ _ _ h => h) (Or.inl ⟨by rfl, ?hyy⟩) (by assumption) ?_
                    case hyy => (intro w' hSw; (try dsimp only at hSw); go_simp)
                    try simp only [Act.put, List.getElem_toArray, List.getElem_cons_succ, List.getElem_cons_zero, List.setIfInBounds_toArray, List.set_cons_zero, List.set_cons_succ]
                    refine wpAnyH_take (i := 10) (v := .bool true) rfl (by kernel_rfl) (by kernel_rfl) (by kernel_rfl) (fun _ _ _ h => h) (Or.inl ⟨by rfl, ?hyy⟩) (by assumption) ?_
                    case hyy => (intro w' hSw; (try dsimp only at hSw); go_simp)
                    try simp only [Act.put, List.getElem_toArray, List.getElem_cons_succ, List.getElem_cons_zero, List.setIfInBounds_toArray, List.set_cons_zero, List.set_cons_succ]
                    refine wpAnyH_take (i := 11) (v := .bool true) rfl (by kernel_rfl) (by kernel_rfl) (by kernel_rfl) (fun _ _ _ h => h) (Or.inl ⟨by rfl, ?hyy⟩) (by assumption) ?_
                    case hyy => (intro w' hSw; (try dsimp only at hSw); go_simp)
                    try simp only [Act.put, List.getElem_toArray, List.getElem_cons_succ, List.getElem_cons_zero, List.setIfInBounds_toArray, List.set_cons_zero, List.set_cons_succ]
                    refine wpAnyH_take (i := 12) (v := .bool true) rfl (by kernel_rfl) (by kernel_rfl) (by kernel_rfl) (fun _ _ _ h => h) (Or.inl ⟨by rfl, ?hyy⟩) (by assumption) ?_
                    case hyy => (intro w' hSw; (try dsimp only at hSw); go_simp)
                    try simp only [Act.put, List.getElem_toArray, List.getElem_cons_succ, List.getElem_cons_zero, List.setIfInBounds_toArray, List.set_cons_zero, List.set_cons_succ]
                    refine wpAnyH_done (by kernel_rfl) ?_ _
                    obtain ⟨V, hV⟩ : ∃ V, V = w3.drew := ⟨_, rfl⟩
                    rw [← hV]
                    have HV : Hid (Below w3.heap.size w3 V) := by
                      show Below w3.heap.size w3 V
                      rw [hV]
                      exact bl_drew (bl_refl _)
                    clear hV
                    have HLP : Hid (QB w V sb lb Ls W H (.slice (some ⟨mb, 0, none⟩) N N) (.slice ca 0 cc) ∧ MI V mb (stM m B (x0.take 0)) ∧ SR V A [x0]) := ⟨HQ3.out.kept HV.out, (HM.out.1.kept H3.out.2).kept HV.out, H3.out.1.kept HV.out⟩
                    clear c0 c1 s0 hHeld hsz
                    go_wp2
                    go_loopg [10, 11, 12] W (fun g s10 s11 s12 wx => ∃ k : Nat, k ≤ W ∧ W - k = g ∧ s11 = .int .i64 (k : Int) ∧ QB w wx sb lb Ls W H (.slice (some ⟨mb, 0, none⟩) N N) (.slice ca 0 cc) ∧ ((s10 = .bool true ∧ LOK x0 k ∧ MI wx mb (stM m B (x0.take k)) ∧ SR wx A [x0]) ∨ (s10 = .bool false ∧ FltOf s 1 (i + 1) ∧ (i : Int) + 1 = ((i + 1 : Nat) : Int))))
                    case atStart => exact ⟨0, Nat.zero_le _, rfl, rfl, HLP.out.1, Or.inl ⟨rfl, fun k _ h => by omega, HLP.out.2.1, HLP.out.2.2⟩⟩
                    case round =>
                      clear HLP HV
                      obtain ⟨k, hk, rfl, rfl, hqk, hor⟩ := hrel
                      have HQK : Hid (QB w wr sb lb Ls W H (.slice (some ⟨mb, 0, none⟩) N N) (.slice ca 0 cc)) := hqk
                      have c0 := hqk.c0
                      clear hqk
                      rcases hor with ⟨rfl, hlk, hmk, hsk⟩ | ⟨rfl, hbad⟩
                      · have HLK : Hid (LOK x0 k ∧ MI wr mb (stM m B (x0.take k)) ∧ SR wr A [x0]) := ⟨hlk, hmk, hsk⟩
                        have s0 : wr.cell? ⟨A, 0, none⟩ = some (.string (bs x0)) := hsk 0 (by simp)
                        clear hlk hmk hsk
                        by_cases h6 : k < W
                        · have j1 : (k : Int) < (W : Int) := by omega
                          have j0 : (0 : Int) ≤ (k : Int) := by omega
                          have hix : k < x0.length := by rw [HXW.out]; exact h6
                          have hib : k < (bs x0).size := by rw [bs_size]; exact hix
                          have C18 : Hid (∀ V : World, Calls Tryz.prog 18 #[.int .u8 (((bs x0)[k]'hib).toNat : Int)] V fun e w' => e = .returned (.int .i64 (leI x0[k])) ∧ w' = V) := fun V => letterOf_any _ V
                          cases hl : ltr x0[k] with
                          | none =>
                            rw [leI_none hl] at C18
                            have HB : Hid (FltOf s 1 (i + 1) ∧ (i : Int) + 1 = ((i + 1 : Nat) : Int)) := HBAD.out k hix hl
                            clear hl
                            go_wp2_with (first
                              | (go_at_call 18; (with_reducible refine (C18.out _).mono ?_); rintro e w7 ⟨rfl, hw7⟩; have hw7b := hw7.symm; clear hw7; subst hw7b)
                              | fail)
                            go_roundg (W - (k + 1))
                            case measure => omega
                            case rel => exact ⟨k + 1, by omega, rfl, by go_num, HQK.out, Or.inr ⟨rfl, HB.out.1, HB.out.2⟩⟩
                          | some v =>
                            rw [leI_some hl] at C18
                            have v0 : (0 : Int) ≤ (v : Int) := by omega
                            obtain ⟨I, hI⟩ : ∃ I, I = B + k := ⟨_, rfl⟩
                            have m4 : IntKind.i64.wrap ((B : Int) + (k : Int)) = (I : Int) := by rw [IntKind.wrap_i64]; omega
                            have I0 : (0 : Int) ≤ (I : Int) := by omega
                            have I1 : (I : Int) < (N : Int) := by omega
                            have hml : I < (stM m B (x0.take k)).length := by rw [stM_length, HM.out.2.2.2.1]; omega
                            have cI := (HLK.out.2.1 I hml).1
                            have fI := (HLK.out.2.1 I hml).2
                            have c1 := HQK.out.c1
                            have c2 := HQK.out.c2
                            obtain ⟨zI, hzI⟩ : ∃ z, z = (stM m B (x0.take k))[I]'hml := ⟨_, rfl⟩
                            rw [← hzI] at cI
                            have HV : Hid (ltr x0[k] = some v ∧ I = B + k) := ⟨hl, hI⟩
                            have HLN2 : Hid (I < (stM m B (x0.take k)).length) := hml
                            clear hl hI hzI hml
                            go_wp2_with (first
                              | (go_at_call 18; (with_reducible refine (C18.out _).mono ?_); rintro e w7 ⟨rfl, hw7⟩; have hw7b := hw7.symm; clear hw7; subst hw7b)
                              | fail)
                            go_roundg (W - (k + 1))
                            case measure => omega
                            case rel =>
                              have hput := HLK.out.2.1.set (v : Int) HLN2.out
                              rw [HV.out.2, ← stM_take m B hix HV.out.1, ← HV.out.2] at hput
                              have hm0 : wr.cell? ⟨mb, 0, none⟩ = some (.int .i64 ((stM m B (x0.take k))[0]'(by have := HLN2.out; omega))) := (HLK.out.2.1 0 (by have := HLN2.out; omega)).1
                              have hnl := fun hn => HQK.out.nel hm0 hn
                              have hna : mb ≠ A := fun e => by rw [e, s0] at hm0; cases hm0
                              exact ⟨k + 1, by omega, rfl, by go_num, HQK.out.gro (grown_cell _ _ _ _) (fun r e => by cases e; exact ⟨HM.out.2.2.1, HM.out.2.1, hnl⟩), Or.inl ⟨rfl, HLK.out.1.next hix HV.out.1, hput, fun j hj => st_old (HLK.out.2.2 j hj) (Ne.symm hna)⟩⟩
                        · obtain rfl : k = W := by omega
                          have j1 : ¬ (k : Int) < (k : Int) := by omega
                          have HR := HROW.out HLK.out.1
                          have HFIN : Hid ((rdF innS RS0 0 Ls = rdF innS ⟨k, H, rows + 1, stM m B x0, []⟩ (i + 1) (Ls.drop (i + 1)) ∧ ROk ⟨k, H, rows + 1, stM m B x0, []⟩) ∧ MI wr mb (stM m B x0)) := by
                            refine ⟨HR, ?_⟩
                            have h2 := HLK.out.2.1
                            rw [List.take_of_length_le (by rw [HXW.out]; exact Nat.le_refl _)] at h2
                            exact h2
                          clear HR
                          go_wp2
                          go_roundg (Ls.length - (i + 1))
                          case measure => omega
                          case rel =>
                            have hq := HQK.out
                            rw [HM.out.2.2.2.2] at hq
                            exact ⟨i + 1, ⟨k, H, rows + 1, stM m B x0, []⟩, by omega, rfl, by go_num, by go_num, HFIN.out.1.1, HFIN.out.1.2, _, ca, cc, hq, Or.inr ⟨by dsimp only; omega, mb, rfl, HFIN.out.2, HM.out.2.1, HM.out.2.2.1⟩, jrow_none _ _⟩
                      · have HB : Hid (FltOf s 1 (i + 1) ∧ (i : Int) + 1 = ((i + 1 : Nat) : Int)) := hbad
                        clear hbad
                        have a0 := HQK.out.rf.a0
                        have a1 := HQK.out.rf.a1
                        have a2 := HQK.out.rf.a2
                        have a3 := HQK.out.rf.a3
                        have b0 := HQK.out.rf.b0
                        have b1 := HQK.out.rf.b1
                        have fa0 := HQK.out.rf.fa 0
                        have fa1 := HQK.out.rf.fa 1
                        have fa2 := HQK.out.rf.fa 2
                        have fa3 := HQK.out.rf.fa 3
                        have fb0 := HQK.out.rf.fb 0
                        have fb1 := HQK.out.rf.fb 1
                        by_cases h6 : k < W
                        · have j1 : (k : Int) < (W : Int) := by omega
                          go_wp2
                          refine ret5 HQK.out.rf rfl rfl rfl (fun hbl => ?_)
                          exact fault_out HB.out hbl
                        · have j1 : ¬ (k : Int) < (W : Int) := by omega
                          go_wp2
                          refine ret5 HQK.out.rf rfl rfl rfl (fun hbl => ?_)
                          exact fault_out HB.out hbl
                · as_aux_lemma =>
                    have hnsz : (((bs x0).size : Int) == (W : Int)) = false := by rw [bs_size, beq_eq_false_iff_ne]; omega
                    have hnsy : ¬ ((bs x0).size : Int) = (W : Int) := by rw [bs_size]; omega
                    have HE : Hid (FltOf s 1 (i + 1) ∧ (i : Int) + 1 = ((i + 1 : Nat) : Int)) := ⟨HFL.out _ _ _ (HRD.out.trans (rd_die innS h1 HD.out hD0 (by rw [row_stp innS hW8.1 hr, rowOk_wide hxw]; rfl) (by decide))) (by decide), by omega⟩
                    clear hxw
                    go_upto_region 20 with (first
                      | (go_at_call 15; (with_reducible refine (C15.out _).mono ?_); rintro e w3 ⟨wc, A, rfl, hsr3, hb3⟩; have hq3 := HQB.out.kept hb3; have c0 := hq3.c0; have c1 := hq3.c1; have s0 : w3.cell? ⟨A, 0, none⟩ = some (.string (bs x0)) := hsr3 0 (by simp); have HQ3 : Hid (QB w w3 sb lb Ls W H (.slice (some ⟨mb, 0, none⟩) N N) (.slice ca 0 cc)) := hq3; have H3 : Hid (SR w3 A [x0] ∧ Below wr.heap.size wr w3) := ⟨hsr3, hb3⟩; clear hsr3 hb3 hq3)
                      | fail)
                    refine wp_region_held_drew (S := fun w' => w'.cell? ⟨A, 0, none⟩ = some (.string (bs x0)) ∧ w'.cell? ⟨sb, 0, none⟩ = some (.int .i64 (W : Int))) (by kernel_rfl) ⟨dr_old s0, dr_old c0⟩ (fun hHeld => ?_)
                    try simp only [Act.put, List.getElem_toArray, List.getElem_cons_succ, List.getElem_cons_zero, List.setIfInBounds_toArray, List.set_cons_zero, List.set_cons_succ]
                    refine wpAnyH_take (i := 0) (v := .slice (some ⟨A, 0, none⟩) 1 wc) rfl (by kernel_rfl) (by kernel_rfl) (by kernel_rfl) (fun _ _ _ h => h) (Or.inl ⟨by rfl, ?hyy⟩) (by assumption) ?_
                    case hyy => (intro w' hSw; (try dsimp only at hSw); go_simp)
                    try simp only [Act.put, List.getElem_toArray, List.getElem_cons_zero, List.setIfInBounds_toArray, List.set_cons_zero, List.set_cons_succ]
                    refine wpAnyH_take (i := 1) (v := .int .i64 1) rfl (by kernel_rfl) (by kernel_rfl) (by kernel_rfl) (fun _ _ _ h => h) (Or.inl ⟨by rfl, ?hyy⟩) (by assumption) ?_
                    case hyy => (intro w' hSw; (try dsimp only at hSw); go_simp)
                    try simp only [Act.put, List.getElem_toArray, List.getElem_cons_succ, List.getElem_cons_zero, List.setIfInBounds_toArray, List.set_cons_zero, List.set_cons_succ]
                    refine wpAnyH_take (i := 2) (v := .bool true) rfl (by kernel_rfl) (by kernel_rfl) (by kernel_rfl) (fun _ _ _ h => h) (Or.inl ⟨by rfl, ?hyy⟩) (by assumption) ?_
                    case hyy => (intro w' hSw; (try dsimp only at hSw); go_simp)
                    try simp only [Act.put, List.getElem_toArray, List.getElem_cons_succ, List.getElem_cons_zero, List.setIfInBounds_toArray, List.set_cons_zero, List.set_cons_succ]
                    refine wpAnyH_take (i := 3) (v := .bool true) rfl (by kernel_rfl) (by kernel_rfl) (by kernel_rfl) (fun _ _ _ h => h) (Or.inl ⟨by rfl, ?hyy⟩) (by assumption) ?_
                    case hyy => (intro w' hSw; (try dsimp only at hSw); go_simp)
                    try simp only [Act.put, List.getElem_toArray, List.getElem_cons_succ, List.getElem_cons_zero, List.setIfInBounds_toArray, List.set_cons_zero, List.set_cons_succ]
                    refine wpAnyH_take (i := 4) (v := .slice (some ⟨A, 0, none⟩) 1 wc) rfl (by kernel_rfl) (by kernel_rfl) (by kernel_rfl) (fun _ _ _ h => h) (Or.inl ⟨by rfl, ?hyy⟩) (by assumption) ?_
                    case hyy => (intro w' hSw; (try dsimp only at hSw); go_simp)
                    try simp only [Act.put, List.getElem_toArray, List.getElem_cons_succ, List.getElem_cons_zero, List.setIfInBounds_toArray, List.set_cons_zero, List.set_cons_succ]
                    refine wpAnyH_take (i := 5) (v := .pointer (some ⟨A, 0, none⟩)) rfl (by kernel_rfl) (by kernel_rfl) (by kernel_rfl) (fun _ _ _ h => h) (Or.inl ⟨by rfl, ?hyy⟩) (by assumption) ?_
                    case hyy => (intro w' hSw; (try dsimp only at hSw); go_simp)
                    try simp only [Act.put, List.getElem_toArray, List.getElem_cons_succ, List.getElem_cons_zero, List.setIfInBounds_toArray, List.set_cons_zero, List.set_cons_succ]
                    refine wpAnyH_take (i := 6) (v := .string (bs x0)) rfl (by kernel_rfl) (by kernel_rfl) (by kernel_rfl) (fun _ _ _ h => h) (Or.inl ⟨by rfl, ?hyy⟩) (by assumption) ?_
                    case hyy => (intro w' hSw; (try dsimp only at hSw); go_simp)
                    try simp only [Act.put, List.getElem_toArray, List.getElem_cons_succ, List.getElem_cons_zero, List.setIfInBounds_toArray, List.set_cons_zero, List.set_cons_succ]
                    refine wpAnyH_take (i := 7) (v := .int .i64 ((bs x0).size : Int)) rfl (by kernel_rfl) (by kernel_rfl) (by kernel_rfl) (fun _ _ _ h => h) (Or.inl ⟨by rfl, ?hyy⟩) (by assumption) ?_
                    case hyy => (intro w' hSw; (try dsimp only at hSw); go_simp)
                    try simp only [Act.put, List.getElem_toArray, List.getElem_cons_succ, List.getElem_cons_zero, List.setIfInBounds_toArray, List.set_cons_zero, List.set_cons_succ]
                    refine wpAnyH_take (i := 8) (v := .pointer (some ⟨sb, 0, none⟩)) rfl (by kernel_rfl) (by kernel_rfl) (by kernel_rfl) (fun _ _ _ h => h) (Or.inl ⟨by rfl, ?hyy⟩) (by assumption) ?_
                    case hyy => (intro w' hSw; (try dsimp only at hSw); go_simp)
                    try simp only [Act.put, List.getElem_toArray, List.getElem_cons_succ, List.getElem_cons_zero, List.setIfInBounds_toArray, List.set_cons_zero, List.set_cons_succ]
                    refine wpAnyH_take (i := 9) (v := .int .i64 (W : Int)) rfl (by kernel_rfl) (by kernel_rfl) (by kernel_rfl) (fun _ _ _ h => h) (Or.inl ⟨by rfl, ?hyy⟩) (by assumption) ?_
                    case hyy => (intro w' hSw; (try dsimp only at hSw); go_simp)
                    try simp only [Act.put, List.getElem_toArray, List.getElem_cons_succ, List.getElem_cons_zero, List.setIfInBounds_toArray, List.set_cons_zero, List.set_cons_succ]
                    refine wpAnyH_take (i := 10) (v := .bool false) rfl (by kernel_rfl) (by kernel_rfl) (by kernel_rfl) (fun _ _ _ h => h) (Or.inl ⟨by rfl, ?hyy⟩) (by assumption) ?_
                    case hyy => (intro w' hSw; (try dsimp only at hSw); go_simp)
                    try simp only [Act.put, List.getElem_toArray, List.getElem_cons_succ, List.getElem_cons_zero, List.setIfInBounds_toArray, List.set_cons_zero, List.set_cons_succ]
                    refine wpAnyH_take (i := 11) (v := .bool false) rfl (by kernel_rfl) (by kernel_rfl) (by kernel_rfl) (fun _ _ _ h => h) (Or.inl ⟨by rfl, ?hyy⟩) (by assumption) ?_
                    case hyy => (intro w' hSw; (try dsimp only at hSw); go_simp)
                    try simp only [Act.put, List.getElem_toArray, List.getElem_cons_succ, List.getElem_cons_zero, List.setIfInBounds_toArray, List.set_cons_zero, List.set_cons_succ]
                    refine wpAnyH_take (i := 12) (v := .bool false) rfl (by kernel_rfl) (by kernel_rfl) (by kernel_rfl) (fun _ _ _ h => h) (Or.inl ⟨by rfl, ?hyy⟩) (by assumption) ?_
                    case hyy => (intro w' hSw; (try dsimp only at hSw); go_simp)
                    try simp only [Act.put, List.getElem_toArray, List.getElem_cons_succ, List.getElem_cons_zero, List.setIfInBounds_toArray, List.set_cons_zero, List.set_cons_succ]
                    refine wpAnyH_done (by kernel_rfl) ?_ _
                    obtain ⟨V, hV⟩ : ∃ V, V = w3.drew := ⟨_, rfl⟩
                    rw [← hV]
                    have HV : Hid (Below w3.heap.size w3 V) := by
                      show Below w3.heap.size w3 V
                      rw [hV]
                      exact bl_drew (bl_refl _)
                    clear hV
                    have HQV := HQ3.out.kept HV.out
                    have HRV : Hid (RF w V) := HQV.rf
                    have HCV : Hid (V.cell? ⟨sb, 0, none⟩ = some (.int .i64 (W : Int))) := HQV.c0
                    clear HQV c0 c1 s0 hHeld
                    go_wp2
                    go_loopg [10, 11, 12] 0 (fun g s10 s11 s12 wx => g = 0 ∧ s10 = .bool false ∧ s11 = .int .i64 0 ∧ wx = V)
                    case atStart => exact ⟨rfl, rfl, rfl, rfl⟩
                    case round =>
                      obtain ⟨rfl, rfl, rfl, hwv⟩ := hrel
                      subst hwv
                      have c0 := HCV.out
                      have a0 := HRV.out.a0
                      have a1 := HRV.out.a1
                      have a2 := HRV.out.a2
                      have a3 := HRV.out.a3
                      have b0 := HRV.out.b0
                      have b1 := HRV.out.b1
                      have fa0 := HRV.out.fa 0
                      have fa1 := HRV.out.fa 1
                      have fa2 := HRV.out.fa 2
                      have fa3 := HRV.out.fa 3
                      have fb0 := HRV.out.fb 0
                      have fb1 := HRV.out.fb 1
                      have w0 : (0 : Int) < (W : Int) := by omega
                      go_wp2
                      refine ret5 HRV.out rfl rfl rfl (fun hbl => ?_)
                      exact fault_out HE.out hbl
            · as_aux_lemma =>
                have k1 : ((D.length : Int) == 1) = false := by rw [beq_eq_false_iff_ne]; omega
                have k1n : ¬ (D.length : Int) = 1 := by omega
                have HE : Hid (FltOf s 1 (i + 1) ∧ (i : Int) + 1 = ((i + 1 : Nat) : Int)) := ⟨HFL.out _ _ _ (HRD.out.trans (rd_die innS h1 HD.out hD0 (by rw [row_stp innS hW8.1 hr, rowOk_len h5]; rfl) (by decide))) (by decide), by omega⟩
                clear h5
                go_upto_region 20 with (first
                  | (go_at_call 15; (with_reducible refine (C15.out _).mono ?_); rintro e w3 ⟨wc, A, rfl, hsr3, hb3⟩; have hq3 := HQB.out.kept hb3; have c0 := hq3.c0; have c1 := hq3.c1; have HQ3 : Hid (QB w w3 sb lb Ls W H (.slice (some ⟨mb, 0, none⟩) N N) (.slice ca 0 cc)) := hq3; have H3 : Hid (SR w3 A D ∧ Below wr.heap.size wr w3) := ⟨hsr3, hb3⟩; clear hsr3 hb3 hq3)
                  | fail)
                refine wp_region_held_drew (S := fun w' => w'.cell? ⟨sb, 0, none⟩ = some (.int .i64 (W : Int))) (by kernel_rfl) (dr_old c0) (fun hHeld => ?_)
                try simp only [Act.put, List.getElem_toArray, List.getElem_cons_succ, List.getElem_cons_zero, List.setIfInBounds_toArray, List.set_cons_zero, List.set_cons_succ]
                refine wpAnyH_take (i := 0) (v := .slice (some ⟨A, 0, none⟩) D.length wc) rfl (by kernel_rfl) (by kernel_rfl) (by kernel_rfl) (fun _ _ _ h => h) (Or.inl ⟨by rfl, ?hyy⟩) (by assumption) ?_
                case hyy => (intro w' hSw; (try dsimp only at hSw); go_simp)
                try simp only [Act.put, List.getElem_toArray, List.getElem_cons_zero, List.setIfInBounds_toArray, List.set_cons_zero, List.set_cons_succ]
                refine wpAnyH_take (i := 1) (v := .int .i64 (D.length : Int)) rfl (by kernel_rfl) (by kernel_rfl) (by kernel_rfl) (fun _ _ _ h => h) (Or.inl ⟨by rfl, ?hyy⟩) (by assumption) ?_
                case hyy => (intro w' hSw; (try dsimp only at hSw); go_simp)
                try simp only [Act.put, List.getElem_toArray, List.getElem_cons_succ, List.getElem_cons_zero, List.setIfInBounds_toArray, List.set_cons_zero, List.set_cons_succ]
                refine wpAnyH_take (i := 2) (v := .bool false) rfl (by kernel_rfl) (by kernel_rfl) (by kernel_rfl) (fun _ _ _ h => h) (Or.inl ⟨by rfl, ?hyy⟩) (by assumption) ?_
                case hyy => (intro w' hSw; (try dsimp only at hSw); go_simp)
                try simp only [Act.put, List.getElem_toArray, List.getElem_cons_succ, List.getElem_cons_zero, List.setIfInBounds_toArray, List.set_cons_zero, List.set_cons_succ]
                refine wpAnyH_take (i := 3) (v := .bool false) rfl (by kernel_rfl) (by kernel_rfl) (by kernel_rfl) (fun _ _ _ h => h) (Or.inl ⟨by rfl, ?hyy⟩) (by assumption) ?_
                case hyy => (intro w' hSw; (try dsimp only at hSw); go_simp)
                try simp only [Act.put, List.getElem_toArray, List.getElem_cons_succ, List.getElem_cons_zero, List.setIfInBounds_toArray, List.set_cons_zero, List.set_cons_succ]
                refine wpAnyH_take (i := 4) (v := undef) rfl (by kernel_rfl) (by kernel_rfl) (by kernel_rfl) (fun _ _ _ h => h) (Or.inr ⟨by rfl, rfl⟩) (by assumption) ?_
                try simp only [Act.put, List.getElem_toArray, List.getElem_cons_succ, List.getElem_cons_zero, List.setIfInBounds_toArray, List.set_cons_zero, List.set_cons_succ]
                refine wpAnyH_take (i := 5) (v := undef) rfl (by kernel_rfl) (by kernel_rfl) (by kernel_rfl) (fun _ _ _ h => h) (Or.inr ⟨by rfl, rfl⟩) (by assumption) ?_
                try simp only [Act.put, List.getElem_toArray, List.getElem_cons_succ, List.getElem_cons_zero, List.setIfInBounds_toArray, List.set_cons_zero, List.set_cons_succ]
                refine wpAnyH_take (i := 6) (v := undef) rfl (by kernel_rfl) (by kernel_rfl) (by kernel_rfl) (fun _ _ _ h => h) (Or.inr ⟨by rfl, rfl⟩) (by assumption) ?_
                try simp only [Act.put, List.getElem_toArray, List.getElem_cons_succ, List.getElem_cons_zero, List.setIfInBounds_toArray, List.set_cons_zero, List.set_cons_succ]
                refine wpAnyH_take (i := 7) (v := undef) rfl (by kernel_rfl) (by kernel_rfl) (by kernel_rfl) (fun _ _ _ h => h) (Or.inr ⟨by rfl, rfl⟩) (by assumption) ?_
                try simp only [Act.put, List.getElem_toArray, List.getElem_cons_succ, List.getElem_cons_zero, List.setIfInBounds_toArray, List.set_cons_zero, List.set_cons_succ]
                refine wpAnyH_take (i := 8) (v := undef) rfl (by kernel_rfl) (by kernel_rfl) (by kernel_rfl) (fun _ _ _ h => h) (Or.inr ⟨by rfl, rfl⟩) (by assumption) ?_
                try simp only [Act.put, List.getElem_toArray, List.getElem_cons_succ, List.getElem_cons_zero, List.setIfInBounds_toArray, List.set_cons_zero, List.set_cons_succ]
                refine wpAnyH_take (i := 9) (v := undef) rfl (by kernel_rfl) (by kernel_rfl) (by kernel_rfl) (fun _ _ _ h => h) (Or.inr ⟨by rfl, rfl⟩) (by assumption) ?_
                try simp only [Act.put, List.getElem_toArray, List.getElem_cons_succ, List.getElem_cons_zero, List.setIfInBounds_toArray, List.set_cons_zero, List.set_cons_succ]
                refine wpAnyH_take (i := 10) (v := undef) rfl (by kernel_rfl) (by kernel_rfl) (by kernel_rfl) (fun _ _ _ h => h) (Or.inr ⟨by rfl, rfl⟩) (by assumption) ?_
                try simp only [Act.put, List.getElem_toArray, List.getElem_cons_succ, List.getElem_cons_zero, List.setIfInBounds_toArray, List.set_cons_zero, List.set_cons_succ]
                refine wpAnyH_take (i := 11) (v := .bool false) rfl (by kernel_rfl) (by kernel_rfl) (by kernel_rfl) (fun _ _ _ h => h) (Or.inl ⟨by rfl, ?hyy⟩) (by assumption) ?_
                case hyy => (intro w' hSw; (try dsimp only at hSw); go_simp)
                try simp only [Act.put, List.getElem_toArray, List.getElem_cons_succ, List.getElem_cons_zero, List.setIfInBounds_toArray, List.set_cons_zero, List.set_cons_succ]
                refine wpAnyH_take (i := 12) (v := .bool false) rfl (by kernel_rfl) (by kernel_rfl) (by kernel_rfl) (fun _ _ _ h => h) (Or.inl ⟨by rfl, ?hyy⟩) (by assumption) ?_
                case hyy => (intro w' hSw; (try dsimp only at hSw); go_simp)
                try simp only [Act.put, List.getElem_toArray, List.getElem_cons_succ, List.getElem_cons_zero, List.setIfInBounds_toArray, List.set_cons_zero, List.set_cons_succ]
                refine wpAnyH_done (by kernel_rfl) ?_ _
                obtain ⟨V, hV⟩ : ∃ V, V = w3.drew := ⟨_, rfl⟩
                rw [← hV]
                have HV : Hid (Below w3.heap.size w3 V) := by
                  show Below w3.heap.size w3 V
                  rw [hV]
                  exact bl_drew (bl_refl _)
                clear hV
                have HQV := HQ3.out.kept HV.out
                have HRV : Hid (RF w V) := HQV.rf
                have HCV : Hid (V.cell? ⟨sb, 0, none⟩ = some (.int .i64 (W : Int))) := HQV.c0
                clear HQV c0 c1 hHeld
                go_wp2
                go_loopg [10, 11, 12] 0 (fun g s10 s11 s12 wx => g = 0 ∧ s10 = .bool false ∧ s11 = .int .i64 0 ∧ wx = V)
                case atStart => exact ⟨rfl, rfl, rfl, rfl⟩
                case round =>
                  obtain ⟨rfl, rfl, rfl, hwv⟩ := hrel
                  subst hwv
                  have c0 := HCV.out
                  have a0 := HRV.out.a0
                  have a1 := HRV.out.a1
                  have a2 := HRV.out.a2
                  have a3 := HRV.out.a3
                  have b0 := HRV.out.b0
                  have b1 := HRV.out.b1
                  have fa0 := HRV.out.fa 0
                  have fa1 := HRV.out.fa 1
                  have fa2 := HRV.out.fa 2
                  have fa3 := HRV.out.fa 3
                  have fb0 := HRV.out.fb 0
                  have fb1 := HRV.out.fb 1
                  have w0 : (0 : Int) < (W : Int) := by omega
                  go_wp2
                  refine ret5 HRV.out rfl rfl rfl (fun hbl => ?_)
                  exact fault_out HE.out hbl
          · obtain ⟨hW8, hH8, hrle, hml, hmz, hco, hin, -⟩ : (1 ≤ W ∧ W ≤ 8) ∧ (1 ≤ H ∧ H ≤ 8) ∧ rows ≤ H ∧ m.length = W * H ∧ (∀ z ∈ m, 0 ≤ z ∧ z ≤ 15) ∧ CsOk cs ∧ (∀ x ∈ cs, innS W H m x.1 = true) ∧ (rows < H → cs = []) := by
              rcases HOK.out with h | h
              · exact absurd (congrArg RS.W h) hW0
              · exact h
            obtain rfl : H = rows := by omega
            obtain ⟨mb, rfl, hmi, hmb, hmb2⟩ : ∃ mb, mv = .slice (some ⟨mb, 0, none⟩) (W * H) (W * H) ∧ MI wr mb m ∧ mb ≠ sb ∧ w.heap.size + 2 ≤ mb := by
              rcases HMK.out with h | h
              · exact absurd h.1 hW0
              · exact h.2
            have hcl := HOK.out.len hW8.1
            obtain ⟨N, hN⟩ : ∃ N, N = W * H := ⟨_, rfl⟩
            rw [← hN] at HQB
            obtain ⟨c, cs', hcr⟩ : ∃ c cs', crS W H (innS W H m) cs D = (c, cs') := ⟨_, _, rfl⟩
            have hmN : m.length = N := hml.trans hN.symm
            have C19a : Hid (∀ (V : World) (A wc : Nat), Below wr.heap.size wr V → SR V A D → Calls Tryz.prog 19 #[.agg #[.int .i64 (W : Int), .int .i64 (H : Int), .slice (some ⟨mb, 0, none⟩) N N, .slice ca cs.length cc], .slice (some ⟨A, 0, none⟩) D.length wc] V fun e w' => ∃ ca' cc', e = .returned (.tuple #[.agg #[.int .i64 (W : Int), .int .i64 (H : Int), .slice (some ⟨mb, 0, none⟩) N N, .slice ca' cs'.length cc'], .int .i64 c]) ∧ JRow w' ca' cs' ∧ Below V.heap.size V w') := fun V A wc hb hs => by
              have h := HCL.out W H mb N A wc cc m ca cs D V (hmi.kept hb).row hW8 hH8 hml (maskB_of hmz) hs (HJR.out.kept hb) hco (by omega)
              rw [hcr, hmN] at h
              exact h
            have HM : Hid (MI wr mb m ∧ mb ≠ sb ∧ w.heap.size + 2 ≤ mb ∧ N = W * H) := ⟨hmi, hmb, hmb2, hN⟩
            have kW : ((W : Int) == 0) = false := by rw [beq_eq_false_iff_ne]; omega
            have kr : ¬ (H : Int) < (H : Int) := by omega
            have hcs1 : CsOk cs' := by have h := crS_csok (W := W) (H := H) (inn := innS W H m) (ws := D) hco; rw [hcr] at h; exact h
            have hcs2 : ∀ x ∈ cs', innS W H m x.1 = true := by have h := crS_inn (W := W) (H := H) (inn := innS W H m) (ws := D) hin; rw [hcr] at h; exact h
            have hst : stp innS ⟨W, H, H, m, cs⟩ D = (c, ⟨W, H, H, m, cs'⟩) := by rw [crs_stp innS hW8.1, hcr]
            by_cases hc : c = 0
            · as_aux_lemma =>
                subst hc
                have HST : Hid (rdF innS RS0 0 Ls = rdF innS ⟨W, H, H, m, cs'⟩ (i + 1) (Ls.drop (i + 1)) ∧ ROk ⟨W, H, H, m, cs'⟩) := ⟨HRD.out.trans (rd_go innS h1 HD.out hD0 hst), HOK.out.cre hW8.1 hcs1 hcs2⟩
                clear hst hcs1 hcs2 hcr hco hin hmz hcl hN hmN hml hmi hrle
                go_upto_region 32 with (first
                  | (go_at_call 15; (with_reducible refine (C15.out _).mono ?_); rintro e w3 ⟨wc, A, rfl, hsr3, hb3⟩; have hq3 := HQB.out.kept hb3; have c0 := hq3.c0; have c1 := hq3.c1; have c2 := hq3.c2; have c3 := hq3.c3; have f0 := hq3.fz 0; have f1 := hq3.fz 1; have f2 := hq3.fz 2; have f3 := hq3.fz 3; have HQ3 : Hid (QB w w3 sb lb Ls W H (.slice (some ⟨mb, 0, none⟩) N N) (.slice ca cs.length cc)) := hq3; have H3 : Hid (SR w3 A D ∧ Below wr.heap.size wr w3) := ⟨hsr3, hb3⟩; clear hsr3 hb3 hq3)
                  | (go_at_call 19; (with_reducible refine (C19a.out _ _ _ H3.out.2 H3.out.1).mono ?_); rintro e w4 ⟨ca', cc', rfl, hj4, hb4⟩; have hq4 := HQ3.out.kept hb4; have d0 := hq4.c0; have d1 := hq4.c1; have d2 := hq4.c2; have d3 := hq4.c3; have e0 := hq4.fz 0; have e1 := hq4.fz 1; have e2 := hq4.fz 2; have e3 := hq4.fz 3; have H4 : Hid (QB w w4 sb lb Ls W H (.slice (some ⟨mb, 0, none⟩) N N) (.slice ca cs.length cc) ∧ JRow w4 ca' cs' ∧ Below wr.heap.size wr w4) := ⟨hq4, hj4, bl_via H3.out.2 hb4⟩; clear hq4 hj4 hb4)
                  | fail)
                refine wp_named (fun V hV => ?_)
                have HQV : Hid (QB w V sb lb Ls W H (.slice (some ⟨mb, 0, none⟩) N N) (.slice ca' cs'.length cc')) := by
                  show QB w V sb lb Ls W H (.slice (some ⟨mb, 0, none⟩) N N) (.slice ca' cs'.length cc')
                  rw [hV]
                  exact H4.out.1.put4
                have HJV : Hid (JRow V ca' cs') := by
                  have hne := jrow_nb H4.out.2.1 (sb := sb) (fun x e => by rw [H4.out.1.c2] at e; cases e)
                  show JRow V ca' cs'
                  rw [hV]
                  exact jrow_setm (jrow_setm (jrow_setm (jrow_setm H4.out.2.1 hne) hne) hne) hne
                have HMV : Hid (MI V mb m) := by
                  have h := HM.out.1.kept H4.out.2.2
                  have hn := HM.out.2.1
                  show MI V mb m
                  rw [hV]
                  exact (((h.grown (grown_cell _ _ _ _) hn).grown (grown_cell _ _ _ _) hn).grown (grown_cell _ _ _ _) hn).grown (grown_cell _ _ _ _) hn
                clear hV c0 c1 c2 c3 f0 f1 f2 f3 d0 d1 d2 d3 e0 e1 e2 e3
                go_wp2
                go_roundg (Ls.length - (i + 1))
                case measure => omega
                case rel =>
                  have hq := HQV.out
                  rw [HM.out.2.2.2] at hq
                  exact ⟨i + 1, ⟨W, H, H, m, cs'⟩, by omega, rfl, by go_num, rfl, HST.out.1, HST.out.2, _, ca', cc', hq, Or.inr ⟨hW8.1, mb, rfl, HMV.out, HM.out.2.1, HM.out.2.2.1⟩, HJV.out⟩
            · as_aux_lemma =>
                have HE : Hid (FltOf s c (i + 1) ∧ (i : Int) + 1 = ((i + 1 : Nat) : Int)) := ⟨HFL.out _ _ _ (HRD.out.trans (rd_die innS h1 HD.out hD0 (by rw [hst]) hc)) hc, by omega⟩
                have kc : (c == 0) = false := by rw [beq_eq_false_iff_ne]; exact hc
                have kc2 : (c != 0) = true := by rw [bne, kc]; rfl
                clear hst hcs1 hcs2 hcr hco hin hmz hcl hN hmN hml hmi hrle
                go_upto_region 32 with (first
                  | (go_at_call 15; (with_reducible refine (C15.out _).mono ?_); rintro e w3 ⟨wc, A, rfl, hsr3, hb3⟩; have hq3 := HQB.out.kept hb3; have c0 := hq3.c0; have c1 := hq3.c1; have c2 := hq3.c2; have c3 := hq3.c3; have f0 := hq3.fz 0; have f1 := hq3.fz 1; have f2 := hq3.fz 2; have f3 := hq3.fz 3; have HQ3 : Hid (QB w w3 sb lb Ls W H (.slice (some ⟨mb, 0, none⟩) N N) (.slice ca cs.length cc)) := hq3; have H3 : Hid (SR w3 A D ∧ Below wr.heap.size wr w3) := ⟨hsr3, hb3⟩; clear hsr3 hb3 hq3)
                  | (go_at_call 19; (with_reducible refine (C19a.out _ _ _ H3.out.2 H3.out.1).mono ?_); rintro e w4 ⟨ca', cc', rfl, hj4, hb4⟩; have hq4 := HQ3.out.kept hb4; have d0 := hq4.c0; have d1 := hq4.c1; have d2 := hq4.c2; have d3 := hq4.c3; have e0 := hq4.fz 0; have e1 := hq4.fz 1; have e2 := hq4.fz 2; have e3 := hq4.fz 3; have H4 : Hid (QB w w4 sb lb Ls W H (.slice (some ⟨mb, 0, none⟩) N N) (.slice ca cs.length cc) ∧ JRow w4 ca' cs' ∧ Below wr.heap.size wr w4) := ⟨hq4, hj4, bl_via H3.out.2 hb4⟩; clear hq4 hj4 hb4)
                  | fail)
                refine wp_named (fun V hV => ?_)
                have HQV : Hid (QB w V sb lb Ls W H (.slice (some ⟨mb, 0, none⟩) N N) (.slice ca' cs'.length cc')) := by
                  show QB w V sb lb Ls W H (.slice (some ⟨mb, 0, none⟩) N N) (.slice ca' cs'.length cc')
                  rw [hV]
                  exact H4.out.1.put4
                clear hV c0 c1 c2 c3 f0 f1 f2 f3 d0 d1 d2 d3 e0 e1 e2 e3
                have a0 := HQV.out.rf.a0
                have a1 := HQV.out.rf.a1
                have a2 := HQV.out.rf.a2
                have a3 := HQV.out.rf.a3
                have b0 := HQV.out.rf.b0
                have b1 := HQV.out.rf.b1
                have fa0 := HQV.out.rf.fa 0
                have fa1 := HQV.out.rf.fa 1
                have fa2 := HQV.out.rf.fa 2
                have fa3 := HQV.out.rf.fa 3
                have fb0 := HQV.out.rf.fb 0
                have fb1 := HQV.out.rf.fb 1
                go_wp2
                refine ret5 HQV.out.rf rfl rfl rfl (fun hbl => ?_)
                exact fault_out HE.out hbl
    · obtain rfl : i = Ls.length := by omega
      have i1 : ¬ (Ls.length : Int) < (Ls.length : Int) := by omega
      by_cases hW0 : W = 0
      · as_aux_lemma =>
          have kW : ((W : Int) == 0) = true := by rw [hW0]; rfl
          have HE : Hid (FltOf s 1 (Ls.length + 1) ∧ (Ls.length : Int) + 1 = ((Ls.length + 1 : Nat) : Int)) := ⟨HFL.out _ _ _ (HRD.out.trans ((rd_end innS (Nat.le_refl _)).trans (if_pos (Or.inl hW0)))) (by decide), by omega⟩
          have a0 := HQB.out.rf.a0
          have a1 := HQB.out.rf.a1
          have a2 := HQB.out.rf.a2
          have a3 := HQB.out.rf.a3
          have b0 := HQB.out.rf.b0
          have b1 := HQB.out.rf.b1
          have fa0 := HQB.out.rf.fa 0
          have fa1 := HQB.out.rf.fa 1
          have fa2 := HQB.out.rf.fa 2
          have fa3 := HQB.out.rf.fa 3
          have fb0 := HQB.out.rf.fb 0
          have fb1 := HQB.out.rf.fb 1
          have c0 := HQB.out.c0
          have c1 := HQB.out.c1
          clear hW0
          go_wp2
          refine ret5 HQB.out.rf rfl rfl rfl (fun hbl => ?_)
          exact fault_out HE.out hbl
      · have kW : ((W : Int) == 0) = false := by rw [beq_eq_false_iff_ne]; omega
        by_cases hr : rows < H
        · as_aux_lemma =>
            have kr : (rows : Int) < (H : Int) := by omega
            have HE : Hid (FltOf s 1 (Ls.length + 1) ∧ (Ls.length : Int) + 1 = ((Ls.length + 1 : Nat) : Int)) := ⟨HFL.out _ _ _ (HRD.out.trans ((rd_end innS (Nat.le_refl _)).trans (if_pos (Or.inr hr)))) (by decide), by omega⟩
            have a0 := HQB.out.rf.a0
            have a1 := HQB.out.rf.a1
            have a2 := HQB.out.rf.a2
            have a3 := HQB.out.rf.a3
            have b0 := HQB.out.rf.b0
            have b1 := HQB.out.rf.b1
            have fa0 := HQB.out.rf.fa 0
            have fa1 := HQB.out.rf.fa 1
            have fa2 := HQB.out.rf.fa 2
            have fa3 := HQB.out.rf.fa 3
            have fb0 := HQB.out.rf.fb 0
            have fb1 := HQB.out.rf.fb 1
            have c0 := HQB.out.c0
            have c1 := HQB.out.c1
            go_wp2
            refine ret5 HQB.out.rf rfl rfl rfl (fun hbl => ?_)
            exact fault_out HE.out hbl
        · obtain ⟨hW8, hH8, hrle, hml, hmz, hco, hin, -⟩ : (1 ≤ W ∧ W ≤ 8) ∧ (1 ≤ H ∧ H ≤ 8) ∧ rows ≤ H ∧ m.length = W * H ∧ (∀ z ∈ m, 0 ≤ z ∧ z ≤ 15) ∧ CsOk cs ∧ (∀ x ∈ cs, innS W H m x.1 = true) ∧ (rows < H → cs = []) := by
            rcases HOK.out with h | h
            · exact absurd (congrArg RS.W h) hW0
            · exact h
          obtain rfl : H = rows := by omega
          obtain ⟨mb, rfl, hmi, hmb, hmb2⟩ : ∃ mb, mv = .slice (some ⟨mb, 0, none⟩) (W * H) (W * H) ∧ MI wr mb m ∧ mb ≠ sb ∧ w.heap.size + 2 ≤ mb := by
            rcases HMK.out with h | h
            · exact absurd h.1 hW0
            · exact h.2
          have hcl := HOK.out.len hW8.1
          have kr : ¬ (H : Int) < (H : Int) := by omega
          have hrdf := HRD.out.trans ((rd_end innS (Nat.le_refl _)).trans (if_neg (show ¬ (W = 0 ∨ H < H) by omega)))
          obtain ⟨N, hN⟩ : ∃ N, N = W * H := ⟨_, rfl⟩
          rw [← hN] at HQB
          have hmN : m.length = N := hml.trans hN.symm
          have HM : Hid (MI wr mb m ∧ mb ≠ sb ∧ w.heap.size + 2 ≤ mb ∧ N = W * H) := ⟨hmi, hmb, hmb2, hN⟩
          have C20 : ∀ V : World, Below wr.heap.size wr V → Calls Tryz.prog 20 #[.agg #[.int .i64 (W : Int), .int .i64 (H : Int), .slice (some ⟨mb, 0, none⟩) N N, .slice ca cs.length cc]] V fun e w' => ∃ bb : Bool, e = .returned (.bool bb) ∧ (bb = true ↔ Joined (ty m W H)) ∧ Below V.heap.size V w' := fun V hb => by
            have h := joinedSheet_any W H mb 0 N m (.slice ca cs.length cc) V (hmi.kept hb).row hW8 hH8 hml (maskB_of hmz)
            rw [hmN] at h
            exact h
          by_cases hJ : Joined (ty m W H)
          · as_aux_lemma =>
              have C20a : Hid (∀ V : World, Below wr.heap.size wr V → Calls Tryz.prog 20 #[.agg #[.int .i64 (W : Int), .int .i64 (H : Int), .slice (some ⟨mb, 0, none⟩) N N, .slice ca cs.length cc]] V fun e w' => e = .returned (.bool true) ∧ Below V.heap.size V w') := fun V hb => (C20 V hb).mono (by
                rintro e w' ⟨bb, rfl, hbb, hb⟩
                cases bb with
                | true => exact ⟨rfl, hb⟩
                | false => exact absurd (hbb.2 hJ) (by decide))
              have HSO : Hid (ShtOf s W H m cs) := HSH.out W H m cs hrdf hJ hml hmz hW8 hH8 (by omega)
              clear C20 hrdf hJ hmz hco hin hcl hmi hN hmN hml hrle
              have c0 := HQB.out.c0
              have c1 := HQB.out.c1
              have c2 := HQB.out.c2
              have c3 := HQB.out.c3
              go_wp2_with (first
                | (go_at_call 20; (with_reducible refine (C20a.out _ (bl_refl _)).mono ?_); rintro e w4 ⟨rfl, hb4⟩; have hq4 := HQB.out.kept hb4; have d0 := hq4.c0; have d1 := hq4.c1; have d2 := hq4.c2; have d3 := hq4.c3; have a0 := hq4.rf.a0; have a1 := hq4.rf.a1; have a2 := hq4.rf.a2; have a3 := hq4.rf.a3; have b0 := hq4.rf.b0; have b1 := hq4.rf.b1; have fa0 := hq4.rf.fa 0; have fa1 := hq4.rf.fa 1; have fa2 := hq4.rf.fa 2; have fa3 := hq4.rf.fa 3; have fb0 := hq4.rf.fb 0; have fb1 := hq4.rf.fb 1; have H4 : Hid (QB w w4 sb lb Ls W H (.slice (some ⟨mb, 0, none⟩) N N) (.slice ca cs.length cc) ∧ Below wr.heap.size wr w4) := ⟨hq4, hb4⟩; clear hq4 hb4)
                | fail)
              refine ret5 H4.out.1.rf rfl rfl rfl (fun hbl => ?_)
              have hj4 := HJR.out.kept H4.out.2
              have hm4 := (HM.out.1.kept H4.out.2).row
              have hz4 := HM.out.2.2.1
              have n0 : mb ≠ w.heap.size := by omega
              have n1 : mb ≠ w.heap.size + 1 := by omega
              have j0 := jrow_nb hj4 (sb := w.heap.size) (fun x e => by rw [H4.out.1.rf.a2] at e; cases e)
              have j1 := jrow_nb hj4 (sb := w.heap.size + 1) (fun x e => by rw [H4.out.1.b2] at e; cases e)
              have hN2 := HM.out.2.2.2
              subst hN2
              exact Or.inr ⟨W, H, m, cs, mb, ca, cc, rfl, HSO.out, row_set (row_set (row_set (row_set (row_set (row_set hm4 n0) n0) n0) n0) n1) n1, jrow_setm (jrow_setm (jrow_setm (jrow_setm (jrow_setm (jrow_setm hj4 j0) j0) j0) j0) j1) j1, hbl⟩
          · as_aux_lemma =>
              have C20a : Hid (∀ V : World, Below wr.heap.size wr V → Calls Tryz.prog 20 #[.agg #[.int .i64 (W : Int), .int .i64 (H : Int), .slice (some ⟨mb, 0, none⟩) N N, .slice ca cs.length cc]] V fun e w' => e = .returned (.bool false) ∧ Below V.heap.size V w') := fun V hb => (C20 V hb).mono (by
                rintro e w' ⟨bb, rfl, hbb, hb⟩
                cases bb with
                | true => exact absurd (hbb.1 rfl) hJ
                | false => exact ⟨rfl, hb⟩)
              have HE : Hid (FltOf s 7 0 ∧ (0 : Int) = ((0 : Nat) : Int)) := ⟨HFP.out W H m cs hrdf hJ, rfl⟩
              clear C20 hrdf hJ hmz hco hin hcl hmi hN hmN hml hrle
              have c0 := HQB.out.c0
              have c1 := HQB.out.c1
              have c2 := HQB.out.c2
              have c3 := HQB.out.c3
              go_wp2_with (first
                | (go_at_call 20; (with_reducible refine (C20a.out _ (bl_refl _)).mono ?_); rintro e w4 ⟨rfl, hb4⟩; have hq4 := HQB.out.kept hb4; have d0 := hq4.c0; have d1 := hq4.c1; have d2 := hq4.c2; have d3 := hq4.c3; have a0 := hq4.rf.a0; have a1 := hq4.rf.a1; have a2 := hq4.rf.a2; have a3 := hq4.rf.a3; have b0 := hq4.rf.b0; have b1 := hq4.rf.b1; have fa0 := hq4.rf.fa 0; have fa1 := hq4.rf.fa 1; have fa2 := hq4.rf.fa 2; have fa3 := hq4.rf.fa 3; have fb0 := hq4.rf.fb 0; have fb1 := hq4.rf.fb 1; have H4 : Hid (QB w w4 sb lb Ls W H (.slice (some ⟨mb, 0, none⟩) N N) (.slice ca cs.length cc) ∧ Below wr.heap.size wr w4) := ⟨hq4, hb4⟩; clear hq4 hb4)
                | fail)
              refine ret5 H4.out.1.rf rfl rfl rfl (fun hbl => ?_)
              exact fault_out HE.out hbl
end Go.Proofs.YtehmoacggikfmaaGreatDoor
