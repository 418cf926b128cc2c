/- slices.Equal; what By wants of an order. -/
import Derived.Test.YtdflindoemffaaaLawl
namespace Go.Proofs.Ytdflindoemffaaa
open Go.RowKit

set_option maxRecDepth 100000 in
set_option maxHeartbeats 800000 in
theorem equal_any (v u : Value) (l m : List Int) (w : World) (hv : Sg w v l) (hu : Sg w u m) (hl : l.length ≤ 17592186044416) (_hm : m.length ≤ 17592186044416) :
    Calls Try.prog 31 #[v, u] w fun e w' => e = .returned (.bool (l == m)) ∧ Below w.heap.size w w' := by
  obtain ⟨a, c, rfl, hR⟩ := hv
  obtain ⟨b, d, rfl, hS⟩ := hu
  have HR : Hid (∀ i, i < l.length → ∃ g off, a = some ⟨g, off, none⟩ ∧ w.cell? ⟨g, off + i, none⟩ = some (.int .i64 (gt l i))) := hR
  have HS : Hid (∀ i, i < m.length → ∃ g off, b = some ⟨g, off, none⟩ ∧ w.cell? ⟨g, off + i, none⟩ = some (.int .i64 (gt m i))) := hS
  obtain ⟨cb, hcb⟩ : ∃ b, b = (l == m) := ⟨_, rfl⟩
  have HC : Hid (cb = (l == m)) := hcb
  rw [← hcb]
  clear hR hS hcb
  by_cases q : l.length = m.length
  · have qb : ((l.length : Int) != (m.length : Int)) = false := by rw [q]; simp
    go_enter Try.func31, Try.ntmps31
    go_wp2
    clear qb
    go_loopg [13] l.length (fun gk s13 wx => ∃ i : Nat, i ≤ l.length ∧ gk = l.length - i ∧ s13 = .int .i64 (i : Int) ∧ Below w.heap.size w wx ∧ ∀ k, k < i → gt l k = gt m k)
    case atStart => exact ⟨0, by omega, rfl, rfl, bl_refl _, fun k hk => by omega⟩
    case round =>
      obtain ⟨i, hi, rfl, rfl, hB, hno⟩ := hrel
      have HB : Hid (Below w.heap.size w wr ∧ ∀ k, k < i → gt l k = gt m k) := ⟨hB, hno⟩
      clear hB hno
      by_cases h1 : i < l.length
      · have i1 : (i : Int) < (l.length : Int) := by omega
        have i2 : (i : Int) < (m.length : Int) := by omega
        have i0 : (0 : Int) ≤ (i : Int) := by omega
        obtain ⟨g, off, rfl, c0⟩ := HR.out i h1
        replace c0 := cl_kept HB.out.1 c0
        obtain ⟨g2, off2, rfl, c2⟩ := HS.out i (by omega)
        replace c2 := cl_kept HB.out.1 c2
        have zg : g < wr.heap.size := World.block_lt_of_cell? _ _ c0
        have zg2 : g2 < wr.heap.size := World.block_lt_of_cell? _ _ c2
        obtain ⟨vi, hvi⟩ : ∃ v, v = gt l i := ⟨_, rfl⟩
        obtain ⟨ui, hui⟩ : ∃ v, v = gt m i := ⟨_, rfl⟩
        rw [← hvi] at c0
        rw [← hui] at c2
        have HVI : Hid (vi = gt l i ∧ ui = gt m i) := ⟨hvi, hui⟩
        clear hvi hui
        have kc := Kin.cells wr
        have kn : Nonempty (Kin wr) := ⟨⟨wr, bl_refl _⟩⟩
        cases qv : (vi != ui)
        · have HN : Hid (∀ k, k < i + 1 → gt l k = gt m k) := fun k hk => by
            by_cases hki : k < i
            · exact HB.out.2 k hki
            · have : k = i := by omega
              rw [this, ← HVI.out.1, ← HVI.out.2]
              simpa using qv
          go_wp2
          refine wp_region_kin (by kernel_rfl) (by kernel_rfl) ?_
          repeat (go_big_quiet_step (fail))
          refine wpQuiet_nil ?_
          intro wq hw'
          obtain ⟨nq, hw''⟩ := hw'
          have hq : Below wr.heap.size wr wq := hw'' ▸ nq.h
          clear hw'' nq kc kn
          go_wp2
          go_roundg (l.length - (i + 1))
          case measure => omega
          case rel => exact ⟨i + 1, by omega, rfl, by go_num, bl_via HB.out.1 hq, HN.out⟩
        · have HE : Hid (cb = false) := by
            have : cb = false := by
              rw [HC.out, beq_eq_false_iff_ne]
              intro e
              have h2 := HVI.out
              rw [e] at h2
              rw [h2.1, h2.2] at qv
              simp at qv
            exact this
          go_wp2
          refine wp_region_kin (by kernel_rfl) (by kernel_rfl) ?_
          repeat (go_big_quiet_step (fail))
          refine wpQuiet_nil ?_
          intro wq hw'
          obtain ⟨nq, hw''⟩ := hw'
          have hq : Below wr.heap.size wr wq := hw'' ▸ nq.h
          clear hw'' nq kc kn
          go_wp2
          go_ret
          exact ⟨ret_bool HE.out.symm, bl_via HB.out.1 hq⟩
      · have i1 : ¬ (i : Int) < (l.length : Int) := by omega
        obtain rfl : i = l.length := by omega
        have HE : Hid (cb = true) := by
          have : cb = true := by
            rw [HC.out, beq_iff_eq]
            refine List.ext_getElem q (fun k h1 h2 => ?_)
            have := HB.out.2 k h1
            rwa [gt_lt h1, gt_lt h2] at this
          exact this
        go_wp2
        go_ret
        exact ⟨ret_bool HE.out.symm, HB.out.1⟩
  · have qb : ((l.length : Int) != (m.length : Int)) = true := by
      simp only [bne_iff_ne, ne_eq]
      omega
    have HE : Hid (cb = false) := by
      have : cb = false := by
        rw [HC.out, beq_eq_false_iff_ne]
        intro e
        exact q (by rw [e])
      exact this
    go_enter Try.func31, Try.ntmps31
    go_wp2
    go_ret
    exact ⟨ret_bool HE.out.symm, bl_refl _⟩
def byP (ks b : List Int) : Bool := (kdL b == ks) && gdB b
/-- The kinds as the closure has them. -/
def KF (w : World) (Bk : Nat) (ks : List Int) : Prop := ∃ kv, w.cell? ⟨Bk, 0, none⟩ = some kv ∧ Sg w kv ks
theorem KF.kept {w w' : World} {Bk : Nat} {ks : List Int} (h : KF w Bk ks) (hb : Below w.heap.size w w') : KF w' Bk ks := by
  obtain ⟨kv, h1, h2⟩ := h
  exact ⟨kv, cl_kept hb h1, h2.kept hb⟩
set_option maxRecDepth 100000 in
set_option maxHeartbeats 800000 in
theorem by1_any (g c Bk : Nat) (b ks : List Int) (w : World) (hr : Rw w g b) (hp : Prm b) (h1 : 1 ≤ b.length) (h8 : b.length ≤ 8) (hk : KF w Bk ks) (hkl : ks.length ≤ 8) :
    Calls Try.prog 30 #[.slice (some ⟨g, 0, none⟩) b.length c, .pointer (some ⟨Bk, 0, none⟩)] w fun e w' => e = .returned (.bool (byP ks b)) ∧ Below w.heap.size w w' := by
  have CG : Hid (∀ W : World, Below w.heap.size w W → Calls Try.prog 23 #[.slice (some ⟨g, 0, none⟩) b.length c] W fun e w' => e = .returned (.bool (gdB b)) ∧ Below W.heap.size W w') := fun W hW => goes_any _ b W (rw_sg (hr.kept hW)) hp h1 h8
  have CK : Hid (∀ W : World, Below w.heap.size w W → Calls Try.prog 24 #[.slice (some ⟨g, 0, none⟩) b.length c] W fun e w' => ∃ g', e = .returned (.slice (some ⟨g', 0, none⟩) (kdL b).length (kdL b).length) ∧ Rw w' g' (kdL b) ∧ Below W.heap.size W w') := fun W hW => kindsOf_any _ b W (rw_sg (hr.kept hW)) hp h1 h8
  obtain ⟨kv, c0, hs⟩ := hk
  have CE : Hid (∀ (W : World) (x : Value), Below w.heap.size w W → Sg W x (kdL b) → Calls Try.prog 31 #[x, kv] W fun e w' => e = .returned (.bool (kdL b == ks)) ∧ Below W.heap.size W w') := fun W x hW hx => equal_any x kv _ _ W hx (hs.kept hW) (by rw [kdL_len]; omega) (by omega)
  obtain ⟨m, hm⟩ : ∃ m, m = (kdL b).length := ⟨_, rfl⟩
  have HX : Hid (∀ (W : World) (g' : Nat), Rw W g' (kdL b) → Sg W (.slice (some ⟨g', 0, none⟩) m m) (kdL b)) := fun W g' h => by rw [hm]; exact rw_sg h
  rw [← hm] at CK
  obtain ⟨eb, heb⟩ : ∃ x, x = (kdL b == ks) := ⟨_, rfl⟩
  obtain ⟨gb, hgb⟩ : ∃ x, x = gdB b := ⟨_, rfl⟩
  have HV : Hid (byP ks b = (eb && gb)) := by
    have : byP ks b = (eb && gb) := by rw [byP, heb, hgb]
    exact this
  rw [← heb] at CE
  rw [← hgb] at CG
  have z0 : Bk < w.heap.size := World.block_lt_of_cell? _ _ c0
  clear hr hp hs hm heb hgb
  cases eb
  · go_enter Try.func30, Try.ntmps30
    go_wp2
    first
      | (go_region_with (first
        | (go_at_call 24; refine (CK.out _ (by with_reducible repeat (first | exact bl_refl _ | refine bl_drew ?_))).mono ?_; rintro e w8 ⟨g8, rfl, hr8, hb8⟩; have hq8 : Below w.heap.size w w8 := bl_via (by with_reducible repeat (first | exact bl_refl _ | refine bl_drew ?_)) hb8; have H8 : Hid (Rw w8 g8 (kdL b) ∧ Below w.heap.size w w8) := ⟨hr8, hq8⟩; have c8 := cl_kept hq8 c0; clear hr8 hb8 hq8)
        | (go_at_call 31; refine (CE.out _ _ H8.out.2 (HX.out _ _ H8.out.1)).mono ?_; rintro e w9 ⟨rfl, hb9⟩; have H9 : Hid (Below w.heap.size w w9) := bl_via H8.out.2 hb9; have c9 := cl_kept hb9 c8; clear hb9)))
      | fail
    all_goals
      go_wp2
      go_ret
      exact ⟨ret_bool (by rw [HV.out]; rfl), H9.out⟩
  · go_enter Try.func30, Try.ntmps30
    go_wp2
    go_region_held3 (fun w' => w'.cell? ⟨Bk, 0, none⟩ = some kv)
      (first | (with_reducible (repeat (first | assumption | refine al_old ?_ | refine dr_old ?_)); done) | (simp [go_sem]; done))
      (first
        | (go_at_call 24; refine (CK.out _ (by with_reducible repeat (first | exact bl_refl _ | refine bl_drew ?_))).mono ?_; rintro e w8 ⟨g8, rfl, hr8, hb8⟩; have hq8 : Below w.heap.size w w8 := bl_via (by with_reducible repeat (first | exact bl_refl _ | refine bl_drew ?_)) hb8; have H8 : Hid (Rw w8 g8 (kdL b) ∧ Below w.heap.size w w8) := ⟨hr8, hq8⟩; have c8 := cl_kept hq8 c0; clear hr8 hb8 hq8)
        | (go_at_call 31; refine (CE.out _ _ H8.out.2 (HX.out _ _ H8.out.1)).mono ?_; rintro e w9 ⟨rfl, hb9⟩; have H9 : Hid (Below w.heap.size w w9) := bl_via H8.out.2 hb9; have c9 := cl_kept hb9 c8; clear hb9)
        | (go_at_call 23; refine (CG.out _ H9.out).mono ?_; rintro e w10 ⟨rfl, hb10⟩; have H10 : Hid (Below w.heap.size w w10) := bl_via H9.out hb10; have c10 := cl_kept hb10 c9; clear hb10))
    all_goals
      go_wp2
      go_ret
      exact ⟨ret_bool (by rw [HV.out]; rfl), H10.out⟩
end Go.Proofs.Ytdflindoemffaaa
