/- The law StampsAlways. -/
import Derived.Test.YtdflindoemffaaaWitn
namespace Go.Proofs.Ytdflindoemffaaa
open Go.RowKit

set_option maxRecDepth 100000 in
set_option maxHeartbeats 800000 in
theorem eql21_any (v u : Value) (l m : List Int) (w : World) (hv : Sg w v l) (hu : Sg w u m) (hl : l.length ≤ 17592186044416) (_hm : m.length ≤ 17592186044416) :
    Calls Try.prog 21 #[v, u] w fun e w' => e = .returned (.bool (l == m)) ∧ Below w.heap.size w w' := by
  obtain ⟨a, c, rfl, hR⟩ := hv
  obtain ⟨b, d, rfl, hS⟩ := hu
  have HR : Hid (∀ i, i < l.length → ∃ g off, a = some ⟨g, off, none⟩ ∧ w.cell? ⟨g, off + i, none⟩ = some (.int .i64 (gt l i))) := hR
  have HS : Hid (∀ i, i < m.length → ∃ g off, b = some ⟨g, off, none⟩ ∧ w.cell? ⟨g, off + i, none⟩ = some (.int .i64 (gt m i))) := hS
  obtain ⟨cb, hcb⟩ : ∃ b, b = (l == m) := ⟨_, rfl⟩
  have HC : Hid (cb = (l == m)) := hcb
  rw [← hcb]
  clear hR hS hcb
  by_cases q : l.length = m.length
  · have qb : ((l.length : Int) != (m.length : Int)) = false := by rw [q]; simp
    go_enter Try.func21, Try.ntmps21
    go_wp2
    clear qb
    go_loopg [5] l.length (fun gk s5 wx => ∃ i : Nat, i ≤ l.length ∧ gk = l.length - i ∧ s5 = .int .i64 (i : Int) ∧ Below w.heap.size w wx ∧ ∀ k, k < i → gt l k = gt m k)
    case atStart => exact ⟨0, by omega, rfl, rfl, bl_refl _, fun k hk => by omega⟩
    case round =>
      obtain ⟨i, hi, rfl, rfl, hB, hno⟩ := hrel
      have HB : Hid (Below w.heap.size w wr ∧ ∀ k, k < i → gt l k = gt m k) := ⟨hB, hno⟩
      clear hB hno
      by_cases h1 : i < l.length
      · have i1 : (i : Int) < (l.length : Int) := by omega
        have i2 : (i : Int) < (m.length : Int) := by omega
        have i0 : (0 : Int) ≤ (i : Int) := by omega
        obtain ⟨g, off, rfl, c0⟩ := HR.out i h1
        replace c0 := cl_kept HB.out.1 c0
        obtain ⟨g2, off2, rfl, c2⟩ := HS.out i (by omega)
        replace c2 := cl_kept HB.out.1 c2
        have zg : g < wr.heap.size := World.block_lt_of_cell? _ _ c0
        have zg2 : g2 < wr.heap.size := World.block_lt_of_cell? _ _ c2
        obtain ⟨vi, hvi⟩ : ∃ v, v = gt l i := ⟨_, rfl⟩
        obtain ⟨ui, hui⟩ : ∃ v, v = gt m i := ⟨_, rfl⟩
        rw [← hvi] at c0
        rw [← hui] at c2
        have HVI : Hid (vi = gt l i ∧ ui = gt m i) := ⟨hvi, hui⟩
        clear hvi hui
        have kc := Kin.cells wr
        have kn : Nonempty (Kin wr) := ⟨⟨wr, bl_refl _⟩⟩
        cases qv : (vi != ui)
        · have HN : Hid (∀ k, k < i + 1 → gt l k = gt m k) := fun k hk => by
            by_cases hki : k < i
            · exact HB.out.2 k hki
            · have : k = i := by omega
              rw [this, ← HVI.out.1, ← HVI.out.2]
              simpa using qv
          go_wp2
          refine wp_region_kin (by kernel_rfl) (by kernel_rfl) ?_
          repeat (go_big_quiet_step (fail))
          refine wpQuiet_nil ?_
          intro wq hw'
          obtain ⟨nq, hw''⟩ := hw'
          have hq : Below wr.heap.size wr wq := hw'' ▸ nq.h
          clear hw'' nq kc kn
          go_wp2
          go_roundg (l.length - (i + 1))
          case measure => omega
          case rel => exact ⟨i + 1, by omega, rfl, by go_num, bl_via HB.out.1 hq, HN.out⟩
        · have HE : Hid (cb = false) := by
            have : cb = false := by
              rw [HC.out, beq_eq_false_iff_ne]
              intro e
              have h2 := HVI.out
              rw [e] at h2
              rw [h2.1, h2.2] at qv
              simp at qv
            exact this
          go_wp2
          refine wp_region_kin (by kernel_rfl) (by kernel_rfl) ?_
          repeat (go_big_quiet_step (fail))
          refine wpQuiet_nil ?_
          intro wq hw'
          obtain ⟨nq, hw''⟩ := hw'
          have hq : Below wr.heap.size wr wq := hw'' ▸ nq.h
          clear hw'' nq kc kn
          go_wp2
          go_ret
          exact ⟨ret_bool HE.out.symm, bl_via HB.out.1 hq⟩
      · have i1 : ¬ (i : Int) < (l.length : Int) := by omega
        obtain rfl : i = l.length := by omega
        have HE : Hid (cb = true) := by
          have : cb = true := by
            rw [HC.out, beq_iff_eq]
            refine List.ext_getElem q (fun k h1 h2 => ?_)
            have := HB.out.2 k h1
            rwa [gt_lt h1, gt_lt h2] at this
          exact this
        go_wp2
        go_ret
        exact ⟨ret_bool HE.out.symm, HB.out.1⟩
  · have qb : ((l.length : Int) != (m.length : Int)) = true := by
      simp only [bne_iff_ne, ne_eq]
      omega
    have HE : Hid (cb = false) := by
      have : cb = false := by
        rw [HC.out, beq_eq_false_iff_ne]
        intro e
        exact q (by rw [e])
      exact this
    go_enter Try.func21, Try.ntmps21
    go_wp2
    go_ret
    exact ⟨ret_bool HE.out.symm, bl_refl _⟩
def pk2 (n : Int) : Int := if n < 0 then (-(n + 1)) % 2 else n % 2
theorem pk2_bd (n : Int) : 0 ≤ pk2 n ∧ pk2 n ≤ 1 := by
  unfold pk2
  split <;> omega
theorem picked2 (n : Int) (h1 : -9223372036854775808 ≤ n) (h2 : n ≤ 9223372036854775807) (w : World) : Calls Try.prog 19 #[.int .i64 n, .int .i64 2] w fun e w' => e = .returned (.int .i64 (pk2 n)) ∧ Below w.heap.size w w' := by
  by_cases q : n < 0
  · have HM : Hid (-((n + 1).tmod 2) = pk2 n) := by
      have : -((n + 1).tmod 2) = pk2 n := by
        rw [pk2, if_pos q, ← Int.neg_tmod, Int.tmod_eq_emod_of_nonneg (by omega)]
      exact this
    go_enter Try.func19, Try.ntmps19
    go_wp2
    go_ret
    exact ⟨ret_int HM.out, bl_refl _⟩
  · have HM : Hid (n % 2 = pk2 n) := by
      have : n % 2 = pk2 n := by rw [pk2, if_neg q]
      exact this
    go_enter Try.func19, Try.ntmps19
    go_wp2
    go_ret
    exact ⟨ret_int HM.out, bl_refl _⟩
def kdR (l : List Int) (i : Nat) : List Int := (List.range i).map fun j => 1 + pk2 (gt l j)
theorem kdR_succ (l : List Int) (i : Nat) : kdR l (i + 1) = kdR l i ++ [1 + pk2 (gt l i)] := by
  unfold kdR
  rw [List.range_succ, List.map_append]
  rfl
theorem kdR_len (l : List Int) (i : Nat) : (kdR l i).length = i := by simp [kdR]
theorem kdR_two (l : List Int) (i : Nat) : ∀ x ∈ kdR l i, x = 1 ∨ x = 2 := by
  intro x hx
  unfold kdR at hx
  obtain ⟨j, _, rfl⟩ := List.mem_map.1 hx
  have := pk2_bd (gt l j)
  omega
set_option maxRecDepth 100000 in
set_option maxHeartbeats 1000000 in
theorem kinds20 (a : Option Addr) (c : Nat) (l : List Int) (w : World) (hv : Sg w (.slice a l.length c) l) (hb : ∀ i, i < l.length → -9223372036854775808 ≤ gt l i ∧ gt l i ≤ 9223372036854775807) :
    Calls Try.prog 20 #[.slice a l.length c, .int .i64 7] w fun e w' => ∃ m u, e = .returned u ∧ m ≤ 7 ∧ Sl w' u (kdR l m) ∧ Below w.heap.size w w' := by
  obtain ⟨_, _, hva, hR⟩ := hv
  cases hva
  have HRD : Hid (∀ i, i < l.length → ∃ g off, a = some ⟨g, off, none⟩ ∧ w.cell? ⟨g, off + i, none⟩ = some (.int .i64 (gt l i))) := hR
  have HBD : Hid (∀ i, i < l.length → -9223372036854775808 ≤ gt l i ∧ gt l i ≤ 9223372036854775807) := hb
  obtain ⟨i3, hI⟩ := info_parts inf3
  have HI : Hid (Try.prog.info? 3 = some i3 ∧ i3.zero = some (.int .i64 0) ∧ i3.size = 1 ∧ i3.bytes = 8) := hI
  have CP : Hid (∀ (n : Int) (W : World), -9223372036854775808 ≤ n → n ≤ 9223372036854775807 → Calls Try.prog 19 #[.int .i64 n, .int .i64 2] W fun e w' => e = .returned (.int .i64 (pk2 n)) ∧ Below W.heap.size W w') := fun n W h1 h2 => picked2 n h1 h2 W
  clear hR hb hI
  go_enter Try.func20, Try.ntmps20
  go_wp2
  go_loopg [5, 6] 7 (fun gk s5 s6 wx => ∃ i : Nat, i ≤ 7 ∧ i ≤ l.length ∧ gk = 7 - i ∧ s6 = .int .i64 (i : Int) ∧ wx.ownsRow w.heap.size 3 1 s5 i (rowI (kdR l i)) ∧ Below w.heap.size w wx)
  case atStart => exact ⟨0, by omega, by omega, rfl, rfl, ⟨by simp [rowI, kdR], Or.inl ⟨rfl, rfl⟩⟩, bl_refl _⟩
  case round =>
    obtain ⟨i, hi7, hil, rfl, rfl, hO, hB⟩ := hrel
    have HO : Hid (wr.ownsRow w.heap.size 3 1 u5 i (rowI (kdR l i)) ∧ Below w.heap.size w wr) := ⟨hO, hB⟩
    clear hO hB
    by_cases h1 : i < l.length
    · have i1 : (i : Int) < (l.length : Int) := by omega
      by_cases h7 : i < 7
      · have i2 : (i : Int) < 7 := by omega
        have i0 : (0 : Int) ≤ (i : Int) := by omega
        obtain ⟨g, off, rfl, c0⟩ := HRD.out i h1
        replace c0 := cl_kept HO.out.2 c0
        have zg : g < wr.heap.size := World.block_lt_of_cell? _ _ c0
        have hbd := HBD.out i h1
        obtain ⟨vi, hvi⟩ : ∃ v, v = gt l i := ⟨_, rfl⟩
        rw [← hvi] at c0 hbd
        have CX := fun W => CP.out vi W hbd.1 hbd.2
        have hp := pk2_bd vi
        obtain ⟨pv, hpv⟩ : ∃ x, x = pk2 vi := ⟨_, rfl⟩
        rw [← hpv] at CX hp
        have HV : Hid (pv = pk2 (gt l i)) := by rw [← hvi]; exact hpv
        have CY : Hid (∀ W : World, Calls Try.prog 19 #[.int .i64 vi, .int .i64 2] W fun e w' => e = .returned (.int .i64 pv) ∧ Below W.heap.size W w') := CX
        clear CX hvi hpv hbd
        go_wp2_with (first | (go_at_call 19; refine (CY.out _).mono ?_; rintro e w1 ⟨rfl, hb1⟩; have H1 : Hid (w1.ownsRow w.heap.size 3 1 u5 i (rowI (kdR l i)) ∧ Below w.heap.size w w1) := ⟨own_below HO.out.1 hb1, bl_via HO.out.2 hb1⟩; clear hb1) | (at_builtin; refine wpList_append_own _ rfl (.tmp 18) (.tmp 25) 22 rfl w.heap.size 3 i3 (.int .i64 0) 1 8 Try.underlying22 HI.out.1 HI.out.2.1 HI.out.2.2.1 HI.out.2.2.2 rfl (by decide) u5 i (rowI (kdR l i)) rfl (own_below H1.out.1 (bl_alloc (bl_refl _))) ⟨w1.heap.size, 0, none⟩ 1 1 [.int .i64 (1 + pv)] rfl rfl (cell_one _ (by simp [go_sem])) (one_cell _) (by unfold maxLen; omega) (by omega) (by have := H1.out.2.size; simp; omega) ?gA))
        case gA =>
          intro v' w3 hown hgrow _
          have HO3 : Hid (w3.ownsRow w.heap.size 3 1 v' (i + 1) (rowI (kdR l (i + 1))) ∧ Below w.heap.size w w3) := by
            refine ⟨?_, bl_own (bl_alloc H1.out.2) (own_below H1.out.1 (bl_alloc (bl_refl _))) (Nat.le_refl _) hgrow⟩
            rw [kdR_succ, rowI_add, ← HV.out]
            exact hown
          clear hown hgrow
          go_wp2
          go_roundg (7 - (i + 1))
          case measure => omega
          case rel => exact ⟨i + 1, by omega, by omega, rfl, by go_num, HO3.out.1, HO3.out.2⟩
      · have i2 : ¬ (i : Int) < 7 := by omega
        go_wp2
        go_ret
        first
          | exact ⟨i, u5, rfl, hi7, own_sl (n := i) (base := w.heap.size) (e := 3) HO.out.1 (kdR_len l i).symm, HO.out.2⟩
          | exact ⟨u5, rfl, i, hi7, own_sl (n := i) (base := w.heap.size) (e := 3) HO.out.1 (kdR_len l i).symm, HO.out.2⟩
    · have i1 : ¬ (i : Int) < (l.length : Int) := by omega
      go_wp2
      go_ret
      first
        | exact ⟨i, u5, rfl, hi7, own_sl (n := i) (base := w.heap.size) (e := 3) HO.out.1 (kdR_len l i).symm, HO.out.2⟩
        | exact ⟨u5, rfl, i, hi7, own_sl (n := i) (base := w.heap.size) (e := 3) HO.out.1 (kdR_len l i).symm, HO.out.2⟩
theorem alw_len {l : List Int} {m : Nat} {es : List (Nat × Nat × List Int)} (hm : m ≤ 7) (h : lsO es = ords (byP (kdR l m)) (m + 1) (m + 1) []) : 0 < es.length ∧ es.length ≤ 20000000 := by
  have h1 := ords_some (kdR l m) (by rw [kdR_len]; omega) (kdR_two l m)
  rw [kdR_len, ← h] at h1
  have h2 := ords_len (byP (kdR l m)) (m + 1) (m + 1) []
  have h3 := pow_bd (n := m + 1) (f := m + 1) (by omega) (by omega)
  rw [← h] at h2
  have e : (lsO es).length = es.length := by simp [lsO]
  refine ⟨?_, by omega⟩
  rw [← e]
  exact List.length_pos_iff.2 h1
theorem alw_met {l : List Int} {m : Nat} {es : List (Nat × Nat × List Int)} {w2 : World} {a4 : Option Addr} (hm : m ≤ 7)
    (hc : ∀ i, ∀ hi : i < es.length, ∃ g, a4 = some ⟨g, 0, none⟩ ∧ w2.cell? ⟨g, i, none⟩ = some (sv es[i]) ∧ Rw w2 es[i].1 es[i].2.2) (h : lsO es = ords (byP (kdR l m)) (m + 1) (m + 1) []) :
    ∀ i, i < es.length → ∃ g gi ci N, a4 = some ⟨g, 0, none⟩ ∧ w2.cell? ⟨g, i, none⟩ = some (.slice (some ⟨gi, 0, none⟩) N ci) ∧ ∀ W : World, Below w2.heap.size w2 W → Calls Try.prog 10 #[.slice (some ⟨gi, 0, none⟩) N ci] W fun e w' => ∃ g', e = .returned (.tuple #[.slice (some ⟨g', 0, none⟩) m m, .int .i64 0]) ∧ Rw w' g' (kdR l m) ∧ Below W.heap.size W w' := fun i hi => by
  obtain ⟨g, e1, c1, r1⟩ := hc i hi
  have hmem : es[i].2.2 ∈ ords (byP (kdR l m)) (m + 1) (m + 1) [] := by
    rw [← h, lsO]
    exact List.mem_map.2 ⟨es[i], List.getElem_mem hi, rfl⟩
  have hP := ords_P _ _ _ _ _ hmem
  have hlen := ords_lens _ _ _ _ (by simp) _ hmem
  have hprm := (ords_pp _ _ _ _ (by simp) (pp_nil _) _ hmem).prm hlen
  unfold byP at hP
  simp only [Bool.and_eq_true, beq_iff_eq] at hP
  refine ⟨g, es[i].1, es[i].2.1, es[i].2.2.length, e1, c1, fun W hW => ?_⟩
  have := kinds_ok _ es[i].2.2 W (rw_sg (c := es[i].2.1) (r1.kept hW)) (noV_zero (by simp [cntB, hlen]; omega) hprm) hP.2
  rw [hP.1, kdR_len] at this
  exact this
set_option maxRecDepth 100000 in
set_option maxHeartbeats 1000000 in
theorem always_any (a : Option Addr) (c : Nat) (l : List Int) (w : World) (hv : Sg w (.slice a l.length c) l) (hb : ∀ i, i < l.length → -9223372036854775808 ≤ gt l i ∧ gt l i ≤ 9223372036854775807) :
    Calls Try.prog 7 #[.slice a l.length c] w fun e w' => e = .returned (.bool true) ∧ Below w.heap.size w w' := by
  have CK : Hid (Calls Try.prog 20 #[.slice a l.length c, .int .i64 7] w fun e w' => ∃ m u, e = .returned u ∧ m ≤ 7 ∧ Sl w' u (kdR l m) ∧ Below w.heap.size w w') := kinds20 a c l w hv hb
  have CB : Hid (∀ (W : World) (x : Value) (m : Nat), m ≤ 7 → Sl W x (kdR l m) → Calls Try.prog 18 #[x] W fun e w' => ∃ z u es, e = .returned (.tuple #[u, .int .i64 0]) ∧ OutS w' z u es ∧ lsO es = ords (byP (kdR l m)) (m + 1) (m + 1) [] ∧ Below W.heap.size W w') := fun W x m hm hx => by
    have := by_ok x (kdR l m) W hx.sg (by rw [kdR_len]; omega) (by
      rw [List.any_eq_false]
      intro y hy
      rcases kdR_two l m y hy with rfl | rfl <;> simp [p11])
    rwa [kdR_len] at this
  clear hv hb
  go_enter Try.func7, Try.ntmps7
  go_wp2_with (first | (go_at_call 20; refine CK.out.mono ?_; rintro e w1 ⟨m, u1, rfl, hm, hs1, hb1⟩; have H1 : Hid (Sl w1 u1 (kdR l m) ∧ Below w.heap.size w w1) := ⟨hs1, hb1⟩; clear hs1 hb1) | (go_at_call 18; refine (CB.out _ _ m hm H1.out.1).mono ?_; rintro e w2 ⟨z, u2, es, rfl, hO, hls, hb2⟩; have H2 : Hid (OutS w2 z u2 es ∧ lsO es = ords (byP (kdR l m)) (m + 1) (m + 1) [] ∧ Below w1.heap.size w1 w2) := ⟨hO, hls, hb2⟩; obtain ⟨a4, c4, hu2, hcells⟩ := es_cells hO; subst hu2; have HMT : Hid (∀ i, i < es.length → ∃ g gi ci N, a4 = some ⟨g, 0, none⟩ ∧ w2.cell? ⟨g, i, none⟩ = some (.slice (some ⟨gi, 0, none⟩) N ci) ∧ ∀ W : World, Below w2.heap.size w2 W → Calls Try.prog 10 #[.slice (some ⟨gi, 0, none⟩) N ci] W fun e w' => ∃ g', e = .returned (.tuple #[.slice (some ⟨g', 0, none⟩) m m, .int .i64 0]) ∧ Rw w' g' (kdR l m) ∧ Below W.heap.size W w') := alw_met hm hcells hls; have HN : Hid (0 < es.length ∧ es.length ≤ 20000000) := alw_len hm hls; have n0 : 0 < es.length := HN.out.1; have n1 : es.length ≤ 20000000 := HN.out.2; have qz : ((es.length : Int) == 0) = false := (by rw [beq_eq_false_iff_ne]; omega); clear hO hls hb2 hcells))
  have CE : Hid (∀ (W : World) (g' : Nat), Sl W u1 (kdR l m) → Rw W g' (kdR l m) → Calls Try.prog 21 #[.slice (some ⟨g', 0, none⟩) m m, u1] W fun e w' => e = .returned (.bool true) ∧ Below W.heap.size W w') := fun W g' hu hr => by
    have hx := rw_sg (c := m) hr
    rw [kdR_len] at hx
    have := eql21_any _ u1 _ _ W hx hu.sg (by rw [kdR_len]; omega) (by rw [kdR_len]; omega)
    rwa [show (kdR l m == kdR l m) = true by simp] at this
  clear CK CB qz
  go_loopg [6] es.length (fun gk s6 wx => ∃ i : Nat, i ≤ es.length ∧ gk = es.length - i ∧ s6 = .int .i64 (i : Int) ∧ Below w2.heap.size w2 wx)
  case atStart => exact ⟨0, by omega, rfl, rfl, bl_refl _⟩
  case round =>
    obtain ⟨i, hi, rfl, rfl, hB⟩ := hrel
    have HB : Hid (Below w2.heap.size w2 wr) := hB
    clear hB
    by_cases h1 : i < es.length
    · have i1 : (i : Int) < (es.length : Int) := by omega
      have i0 : (0 : Int) ≤ (i : Int) := by omega
      obtain ⟨g, gi, ci, N, rfl, c0, C1⟩ := HMT.out i h1
      replace c0 := cl_kept HB.out c0
      have zg : g < wr.heap.size := World.block_lt_of_cell? _ _ c0
      have CH : Hid (∀ W : World, Below w2.heap.size w2 W → Calls Try.prog 10 #[.slice (some ⟨gi, 0, none⟩) N ci] W fun e w' => ∃ g', e = .returned (.tuple #[.slice (some ⟨g', 0, none⟩) m m, .int .i64 0]) ∧ Rw w' g' (kdR l m) ∧ Below W.heap.size W w') := C1
      clear C1
      go_wp2_with (first | (go_at_call 10; refine (CH.out _ HB.out).mono ?_; rintro e w5 ⟨g5, rfl, hr5, hb5⟩; have H5 : Hid (Rw w5 g5 (kdR l m) ∧ Below w2.heap.size w2 w5) := ⟨hr5, bl_via HB.out hb5⟩; clear hr5 hb5) | (go_at_call 21; refine (CE.out _ _ (H1.out.1.kept (bl_via H2.out.2.2 H5.out.2)) H5.out.1).mono ?_; rintro e w6 ⟨rfl, hb6⟩; have H6 : Hid (Below w2.heap.size w2 w6) := bl_via H5.out.2 hb6; clear hb6))
      go_roundg (es.length - (i + 1))
      case measure => omega
      case rel => exact ⟨i + 1, by omega, rfl, by go_num, H6.out⟩
    · have i1 : ¬ (i : Int) < (es.length : Int) := by omega
      obtain rfl : i = es.length := by omega
      go_wp2
      go_ret
      exact ⟨rfl, bl_via H1.out.2 (bl_via H2.out.2.2 HB.out)⟩
end Go.Proofs.Ytdflindoemffaaa
