/- The law StampsBy. -/
import Derived.Test.YtdflindoemffaaaByyy
namespace Go.Proofs.Ytdflindoemffaaa
open Go.RowKit

theorem ords_filter (ks : List Int) (n : Nat) : ∀ f b, ords (byP ks) n f b = (ords gdB n f b).filter fun x => kdL x == ks
  | 0, b => by
    unfold ords byP
    cases h1 : gdB b <;> cases h2 : (kdL b == ks) <;> simp [h2]
  | f + 1, b => by
    unfold ords
    rw [List.filter_flatMap]
    congr 1
    funext t
    split
    · rfl
    · exact ords_filter ks n f _
theorem ords_pp (P : List Int → Bool) (n : Nat) : ∀ f b, b.length + f = n → Pp n b → ∀ l ∈ ords P n f b, Pp n l
  | 0, b, hb, hp, l, hl => by
    unfold ords at hl
    split at hl
    · simp at hl
      rw [hl]
      exact hp
    · simp at hl
  | f + 1, b, hb, hp, l, hl => by
    unfold ords at hl
    rw [List.mem_flatMap] at hl
    obtain ⟨t, h1, ht⟩ := hl
    split at ht
    · simp at ht
    · rename_i h2
      exact ords_pp P n f _ (by simp; omega) (hp.more (List.mem_range.1 h1) (by cases h3 : b.contains ((t : Int) + 1); rfl; exact absurd h3 h2)) l ht
def cF (p : List Int → Bool) (A : List (List Int)) (i : Nat) : Nat := ((A.take i).filter p).length
theorem cF_no {p : List Int → Bool} {A : List (List Int)} {i : Nat} (hi : i < A.length) (h : p A[i] = false) : cF p A (i + 1) = cF p A i := by
  unfold cF
  rw [List.take_succ_eq_append_getElem hi, List.filter_append]
  simp [h]
theorem cF_yes {p : List Int → Bool} {A : List (List Int)} {i : Nat} (hi : i < A.length) (h : p A[i] = true) : cF p A (i + 1) = cF p A i + 1 := by
  unfold cF
  rw [List.take_succ_eq_append_getElem hi, List.filter_append]
  simp [h]
theorem cF_at {p : List Int → Bool} {A : List (List Int)} {i : Nat} (hi : i < A.length) (h : p A[i] = true) : (A.filter p)[cF p A i]? = some A[i] := by
  have e : A = A.take i ++ A[i] :: A.drop (i + 1) := by
    rw [← List.drop_eq_getElem_cons hi, List.take_append_drop]
  have : A.filter p = (A.take i).filter p ++ A[i] :: (A.drop (i + 1)).filter p := by
    conv => lhs; rw [e]
    rw [List.filter_append, List.filter_cons, if_pos h]
  rw [this]
  unfold cF
  rw [List.getElem?_append_right (Nat.le_refl _)]
  simp
theorem cF_end (p : List Int → Bool) (A : List (List Int)) : cF p A A.length = (A.filter p).length := by
  unfold cF
  rw [List.take_length]
set_option maxRecDepth 100000 in
theorem byl_size (a : Option Addr) (c : Nat) (ks : List Int) (w : World) (hv : Sg w (.slice a ks.length c) ks) (hl : ks.length ≤ 17592186044416) (h8 : 8 ≤ ks.length) :
    Calls Try.prog 5 #[.slice a ks.length c] w fun e w' => e = .returned (.bool true) ∧ Below w.heap.size w w' := by
  have CI : Hid (Calls Try.prog 9 #[.slice a ks.length c] w fun e w' => ∃ u, e = .returned u ∧ Sl w' u ks ∧ Below w.heap.size w w') := ints_any _ ks w hv hl
  have CB : Hid (∀ (W : World) (x : Value), Sl W x ks → Calls Try.prog 18 #[x] W fun e w' => e = .returned (.tuple #[.slice none 0 0, .int .i64 2]) ∧ Below W.heap.size W w') := fun W x hx => by_size x ks W hx.sg hl h8
  have q : (8 : Int) ≤ (ks.length : Int) := by omega
  clear hv
  go_enter Try.func5, Try.ntmps5
  go_wp2_with (first | (go_at_call 9; refine CI.out.mono ?_; rintro e w1 ⟨u1, rfl, hs1, hb⟩; have HU : Hid (Sl w1 u1 ks) := hs1; clear hs1) | (go_at_call 18; refine (CB.out _ _ HU.out).mono ?_; rintro e w2 ⟨rfl, hb2⟩))
  go_ret
  exact ⟨rfl, bl_via hb hb2⟩
set_option maxRecDepth 100000 in
set_option maxHeartbeats 1000000 in
theorem byl_kind (a : Option Addr) (c : Nat) (ks : List Int) (w : World) (hv : Sg w (.slice a ks.length c) ks) (h8 : ks.length < 8) (hk : ks.any p11 = true) :
    Calls Try.prog 5 #[.slice a ks.length c] w fun e w' => e = .returned (.bool true) ∧ Below w.heap.size w w' := by
  have CI : Hid (Calls Try.prog 9 #[.slice a ks.length c] w fun e w' => ∃ u, e = .returned u ∧ Sl w' u ks ∧ Below w.heap.size w w') := ints_any _ ks w hv (by omega)
  have CB : Hid (∀ (W : World) (x : Value), Sl W x ks → Calls Try.prog 18 #[x] W fun e w' => e = .returned (.tuple #[.slice none 0 0, .int .i64 4]) ∧ Below W.heap.size W w') := fun W x hx => by_kind x ks W hx.sg h8 hk
  obtain ⟨_, _, hva, hR⟩ := hv
  cases hva
  have HRD : Hid (∀ i, i < ks.length → ∃ g off, a = some ⟨g, off, none⟩ ∧ w.cell? ⟨g, off + i, none⟩ = some (.int .i64 (gt ks i))) := hR
  have HK : Hid (∃ k, k < ks.length ∧ p11 (gt ks k) = true) := by
    have : ∃ k, k < ks.length ∧ p11 (gt ks k) = true := by
      obtain ⟨x, hx, hp⟩ := List.any_eq_true.1 hk
      obtain ⟨k, h1, e⟩ := mem_gt hx
      exact ⟨k, h1, by rw [e]; exact hp⟩
    exact this
  have q : ¬ (8 : Int) ≤ (ks.length : Int) := by omega
  clear hR hk
  go_enter Try.func5, Try.ntmps5
  go_wp2_with (first | (go_at_call 9; refine CI.out.mono ?_; rintro e w1 ⟨u1, rfl, hs1, hb⟩; have HU : Hid (Sl w1 u1 ks) := hs1; clear hs1) | (go_at_call 18; refine (CB.out _ _ HU.out).mono ?_; rintro e w2 ⟨rfl, hb2⟩; have HB2 : Hid (Below w.heap.size w w2) := bl_via hb hb2; clear hb2 hb HU))
  go_loopg [5] ks.length (fun gk s5 wx => ∃ i : Nat, i ≤ ks.length ∧ gk = ks.length - i ∧ s5 = .int .i64 (i : Int) ∧ Below w.heap.size w wx ∧ ∀ k, k < i → p11 (gt ks k) = false)
  case atStart => exact ⟨0, by omega, rfl, rfl, HB2.out, fun k hk => by omega⟩
  case round =>
    clear HB2
    obtain ⟨i, hi, rfl, rfl, hB, hno⟩ := hrel
    have HB : Hid (Below w.heap.size w wr ∧ ∀ k, k < i → p11 (gt ks k) = false) := ⟨hB, hno⟩
    clear hB hno
    by_cases h1 : i < ks.length
    · have i1 : (i : Int) < (ks.length : Int) := by omega
      have i0 : (0 : Int) ≤ (i : Int) := by omega
      obtain ⟨g, off, rfl, c0⟩ := HRD.out i h1
      replace c0 := cl_kept HB.out.1 c0
      have zg : g < wr.heap.size := World.block_lt_of_cell? _ _ c0
      obtain ⟨vi, hvi⟩ : ∃ v, v = gt ks i := ⟨_, rfl⟩
      rw [← hvi] at c0
      have HVI : Hid (vi = gt ks i) := hvi
      clear hvi
      have hnext : ∀ x, vi = x → p11 x = false → Hid (∀ k, k < i + 1 → p11 (gt ks k) = false) := fun x e hp k hk => by
        by_cases hki : k < i
        · exact HB.out.2 k hki
        · have : k = i := by omega
          rw [this, ← HVI.out, e]
          exact hp
      by_cases q1 : vi = 1
      · have HN := hnext 1 q1 rfl
        subst q1
        clear hnext
        go_wp2
        go_roundg (ks.length - (i + 1))
        case measure => omega
        case rel => exact ⟨i + 1, by omega, rfl, by go_num, HB.out.1, HN.out⟩
      · by_cases q2 : vi = 2
        · have HN := hnext 2 q2 rfl
          subst q2
          clear hnext
          go_wp2
          go_roundg (ks.length - (i + 1))
          case measure => omega
          case rel => exact ⟨i + 1, by omega, rfl, by go_num, HB.out.1, HN.out⟩
        · have q1b : (vi != 1) = true := by simpa using q1
          have q2b : (vi != 2) = true := by simpa using q2
          clear hnext
          go_wp2
          go_ret
          exact ⟨rfl, HB.out.1⟩
    · exfalso
      obtain ⟨k, hk, e⟩ := HK.out
      have := HB.out.2 k (by omega)
      rw [e] at this
      cases this
/-- What is met at round i of the second loop. -/
def Met (w6 : World) (a3 a6 : Option Addr) (M : Nat) (ks : List Int) (A : List (List Int)) (i : Nat) (x : List Int) : Prop :=
  ∃ ga gi ci, a6 = some ⟨ga, 0, none⟩ ∧ w6.cell? ⟨ga, i, none⟩ = some (.slice (some ⟨gi, 0, none⟩) x.length ci) ∧ Rw w6 gi x ∧ Prm x ∧ 1 ≤ x.length ∧ x.length ≤ 8 ∧
    ((kdL x == ks) = true → ∃ gl gj cj, a3 = some ⟨gl, 0, none⟩ ∧ cF (fun x => kdL x == ks) A i < M ∧ w6.cell? ⟨gl, cF (fun x => kdL x == ks) A i, none⟩ = some (.slice (some ⟨gj, 0, none⟩) x.length cj) ∧ Rw w6 gj x)
theorem lsO_at {es : List (Nat × Nat × List Int)} {j : Nat} (h : j < es.length) : (lsO es)[j]? = some es[j].2.2 := by
  rw [lsO, List.getElem?_map, List.getElem?_eq_getElem h]
  rfl
theorem met_of {w6 : World} {z z' n : Nat} {a3 a6 : Option Addr} {c3 c6 : Nat} {ks : List Int} {es es' : List (Nat × Nat × List Int)} (h1 : 1 ≤ n) (h8 : n ≤ 8)
    (hA : OutS w6 z (.slice a6 es.length c6) es) (hL : OutS w6 z' (.slice a3 es'.length c3) es') (eA : lsO es = ords gdB n n []) (eL : lsO es' = ords (byP ks) n n []) : ∀ i, ∀ hi : i < (lsO es).length, Met w6 a3 a6 es'.length ks (lsO es) i (lsO es)[i] := fun i hi => by
  have hi' : i < es.length := by simpa [lsO] using hi
  have ex : (lsO es)[i] = es[i].2.2 := by simp [lsO]
  have hmem : es[i].2.2 ∈ ords gdB n n [] := by rw [← eA, ← ex]; exact List.getElem_mem hi
  have hlen := ords_lens gdB n n [] (by simp) _ hmem
  have hpp := ords_pp gdB n n [] (by simp) (pp_nil n) _ hmem
  obtain ⟨a, c, hv, hR⟩ := es_cells hA
  cases hv
  obtain ⟨g, e1, c1, r1⟩ := hR i hi'
  rw [ex]
  refine ⟨g, es[i].1, es[i].2.1, e1, c1, r1, hpp.prm hlen, by omega, by omega, fun hk => ?_⟩
  have h5 := cF_at (p := fun x => kdL x == ks) hi (by rw [ex]; exact hk)
  have h6 : (lsO es').length = es'.length := by simp [lsO]
  have h7 : (lsO es).filter (fun x => kdL x == ks) = lsO es' := by rw [eA, eL, ords_filter]
  rw [h7, ex] at h5
  have hlt : cF (fun x => kdL x == ks) (lsO es) i < es'.length := by
    rcases Nat.lt_or_ge (cF (fun x => kdL x == ks) (lsO es) i) es'.length with h | h
    · exact h
    · rw [List.getElem?_eq_none (by omega)] at h5
      cases h5
  obtain ⟨a', c', hv', hR'⟩ := es_cells hL
  cases hv'
  obtain ⟨g', e1', c1', r1'⟩ := hR' _ hlt
  have e5 : es'[cF (fun x => kdL x == ks) (lsO es) i].2.2 = es[i].2.2 := by
    have : (lsO es')[cF (fun x => kdL x == ks) (lsO es) i]? = some es'[cF (fun x => kdL x == ks) (lsO es) i].2.2 := lsO_at hlt
    rw [h5] at this
    exact (Option.some.inj this).symm
  refine ⟨g', es'[cF (fun x => kdL x == ks) (lsO es) i].1, es'[cF (fun x => kdL x == ks) (lsO es) i].2.1, e1', hlt, ?_, ?_⟩
  · rw [c1', sv, e5]
  · rw [← e5]
    exact r1'
set_option maxRecDepth 100000 in
set_option maxHeartbeats 1600000 in
theorem byl_ok (a : Option Addr) (c : Nat) (ks : List Int) (w : World) (hv : Sg w (.slice a ks.length c) ks) (h8 : ks.length < 8) (hk : ks.any p11 = false) :
    Calls Try.prog 5 #[.slice a ks.length c] w fun e w' => e = .returned (.bool true) ∧ Below w.heap.size w w' := by
  have CI : Hid (Calls Try.prog 9 #[.slice a ks.length c] w fun e w' => ∃ u, e = .returned u ∧ Sl w' u ks ∧ Below w.heap.size w w') := ints_any _ ks w hv (by omega)
  have CB : Hid (∀ (W : World) (x : Value), Sl W x ks → Calls Try.prog 18 #[x] W fun e w' => ∃ z u es, e = .returned (.tuple #[u, .int .i64 0]) ∧ OutS w' z u es ∧ lsO es = ords (byP ks) (ks.length + 1) (ks.length + 1) [] ∧ Below W.heap.size W w') := fun W x hx => by_ok x ks W hx.sg h8 hk
  have CO : Hid (∀ W : World, Calls Try.prog 17 #[.slice none 0 0, .int .i64 ((ks.length : Int) + 1)] W fun e w' => ∃ u es, e = .returned u ∧ OutS w' W.heap.size u es ∧ lsO es = ords gdB (ks.length + 1) (ks.length + 1) [] ∧ Below W.heap.size W w') := fun W => by
    have := orders_any (ks.length + 1) (by omega) (by omega) (ks.length + 1) [] _ W (by simp) (pp_nil _) (nil_sg W)
    rwa [show ((ks.length + 1 : Nat) : Int) = (ks.length : Int) + 1 by omega] at this
  have HSG : Hid (Sg w (.slice a ks.length c) ks) := hv
  obtain ⟨_, _, hva, hR⟩ := hv
  cases hva
  have HRD : Hid (∀ i, i < ks.length → ∃ g off, a = some ⟨g, off, none⟩ ∧ w.cell? ⟨g, off + i, none⟩ = some (.int .i64 (gt ks i))) := hR
  have HK : Hid (∀ k, k < ks.length → p11 (gt ks k) = false) := fun k hk1 => by
    have := List.any_eq_false.1 hk _ (gt_mem hk1)
    simpa using this
  have q : ¬ (8 : Int) ≤ (ks.length : Int) := by omega
  clear hR hk
  go_enter Try.func5, Try.ntmps5
  go_wp2_with (first | (go_at_call 9; refine CI.out.mono ?_; rintro e w1 ⟨u1, rfl, hs1, hb⟩; have HU : Hid (Sl w1 u1 ks) := hs1; clear hs1) | (go_at_call 18; refine (CB.out _ _ HU.out).mono ?_; rintro e w2 ⟨z3, u3, es3, rfl, hO3, hls3, hb2⟩; have H2 : Hid (OutS w2 z3 u3 es3 ∧ lsO es3 = ords (byP ks) (ks.length + 1) (ks.length + 1) [] ∧ Below w.heap.size w w2) := ⟨hO3, hls3, bl_via hb hb2⟩; clear hO3 hls3 hb2 hb HU))
  obtain ⟨a3, c3, rfl, _⟩ := es_cells H2.out.1
  go_loopg [5] ks.length (fun gk s5 wx => ∃ i : Nat, i ≤ ks.length ∧ gk = ks.length - i ∧ s5 = .int .i64 (i : Int) ∧ Below w2.heap.size w2 wx)
  case atStart => exact ⟨0, by omega, rfl, rfl, bl_refl _⟩
  case round =>
    obtain ⟨i, hi, rfl, rfl, hB⟩ := hrel
    have HB : Hid (Below w2.heap.size w2 wr) := hB
    clear hB
    by_cases h1 : i < ks.length
    · have i1 : (i : Int) < (ks.length : Int) := by omega
      have i0 : (0 : Int) ≤ (i : Int) := by omega
      obtain ⟨g, off, rfl, c0⟩ := HRD.out i h1
      replace c0 := cl_kept (bl_via H2.out.2.2 HB.out) c0
      have zg : g < wr.heap.size := World.block_lt_of_cell? _ _ c0
      have hp := HK.out i h1
      obtain ⟨vi, hvi⟩ : ∃ v, v = gt ks i := ⟨_, rfl⟩
      rw [← hvi] at c0 hp
      clear hvi
      have q9 : vi = 1 ∨ vi = 2 := by
        simp [p11] at hp
        omega
      clear hp
      rcases q9 with rfl | rfl
      · go_wp2
        go_roundg (ks.length - (i + 1))
        case measure => omega
        case rel => exact ⟨i + 1, by omega, rfl, by go_num, HB.out⟩
      · go_wp2
        go_roundg (ks.length - (i + 1))
        case measure => omega
        case rel => exact ⟨i + 1, by omega, rfl, by go_num, HB.out⟩
    · have i1 : ¬ (i : Int) < (ks.length : Int) := by omega
      obtain rfl : i = ks.length := by omega
      go_wp2_with (go_at_call 17; refine (CO.out _).mono ?_; rintro e w6 ⟨u6, es6, rfl, hO6, hls6, hb6⟩; have H6 : Hid (OutS w6 wr.heap.size u6 es6 ∧ lsO es6 = ords gdB (ks.length + 1) (ks.length + 1) [] ∧ Below w2.heap.size w2 w6) := ⟨hO6, hls6, bl_via HB.out hb6⟩; obtain ⟨a6, c6, hu6, _⟩ := es_cells hO6; subst hu6; clear hO6 hls6 hb6)
      have HMT : Hid (∀ j, ∀ hj : j < (lsO es6).length, Met w6 a3 a6 es3.length ks (lsO es6) j (lsO es6)[j]) := met_of (by omega) (by omega) H6.out.1 (H2.out.1.kept H6.out.2.2) H6.out.2.1 H2.out.2.1
      have HN6 : Hid ((lsO es6).length = es6.length ∧ cF (fun x => kdL x == ks) (lsO es6) es6.length = es3.length ∧ es6.length ≤ 20000000 ∧ es3.length ≤ 20000000) := by
        have e1 : (lsO es6).length = es6.length := by simp [lsO]
        have e2 : (lsO es3).length = es3.length := by simp [lsO]
        have h5 := ords_len gdB (ks.length + 1) (ks.length + 1) []
        have h6 := ords_len (byP ks) (ks.length + 1) (ks.length + 1) []
        have h7 := pow_bd (n := ks.length + 1) (f := ks.length + 1) (by omega) (by omega)
        rw [← H6.out.2.1] at h5
        rw [← H2.out.2.1] at h6
        refine ⟨e1, ?_, by omega, by omega⟩
        rw [← e1, cF_end, H6.out.2.1, ← ords_filter, ← H2.out.2.1, e2]
      have n6 : es6.length ≤ 20000000 := HN6.out.2.2.1
      have n3 : es3.length ≤ 20000000 := HN6.out.2.2.2
      have HB6 : Hid (Below w.heap.size w w6) := bl_via H2.out.2.2 H6.out.2.2
      clear CI CB CO H2 H6 HB HRD HK
      obtain ⟨A, hA⟩ : ∃ A, A = lsO es6 := ⟨_, rfl⟩
      rw [← hA] at HMT HN6
      clear hA
      go_loopg [7, 8] es6.length (fun gk s7 s8 wx => ∃ j k : Nat, j ≤ es6.length ∧ gk = es6.length - j ∧ s8 = .int .i64 (j : Int) ∧ s7 = .int .i64 (k : Int) ∧ k = cF (fun x => kdL x == ks) A j ∧ Below w6.heap.size w6 wx ∧ k ≤ j)
      case atStart => exact ⟨0, 0, by omega, rfl, rfl, rfl, rfl, bl_refl _, by omega⟩
      case round =>
        obtain ⟨j, k, hj, rfl, rfl, rfl, hkc, hB, hkj⟩ := hrel
        have HB : Hid (Below w6.heap.size w6 wr) := hB
        have HKC : Hid (k = cF (fun x => kdL x == ks) A j) := hkc
        clear hB hkc
        by_cases h2 : j < es6.length
        · have j1 : (j : Int) < (es6.length : Int) := by omega
          have j0 : (0 : Int) ≤ (j : Int) := by omega
          have hjA : j < A.length := by have := HN6.out.1; omega
          obtain ⟨ga, gi, ci, rfl, c0, r0, hp0, b1, b8, hyes⟩ := HMT.out j hjA
          obtain ⟨x, hx⟩ : ∃ x, x = A[j] := ⟨_, rfl⟩
          rw [← hx] at c0 r0 hp0 b1 b8 hyes
          have HX : Hid (x = A[j]) := hx
          replace c0 := cl_kept HB.out c0
          have zg : ga < wr.heap.size := World.block_lt_of_cell? _ _ c0
          have CS : Hid (∀ W : World, Below w6.heap.size w6 W → Calls Try.prog 14 #[.slice (some ⟨gi, 0, none⟩) x.length ci] W fun e w' => ∃ u, e = .returned u ∧ Sl w' u (kdL x) ∧ Below W.heap.size W w') := fun W hW => stampKinds_any _ x W (rw_sg (r0.kept hW)) hp0 b1 b8
          have CE : Hid (∀ (W : World) (u : Value), Below w6.heap.size w6 W → Sl W u (kdL x) → Calls Try.prog 13 #[u, .slice a ks.length c] W fun e w' => e = .returned (.bool (kdL x == ks)) ∧ Below W.heap.size W w') := fun W u hW hu => same_any u _ _ _ W hu.sg (HSG.out.kept (bl_via HB6.out hW)) (by rw [kdL_len]; omega) (by omega)
          obtain ⟨eb, heb⟩ : ∃ y, y = (kdL x == ks) := ⟨_, rfl⟩
          have HE : Hid (eb = (kdL x == ks)) := heb
          rw [← heb] at CE hyes
          clear heb hx hp0
          cases eb
          · have HC2 : Hid (cF (fun x => kdL x == ks) A (j + 1) = cF (fun x => kdL x == ks) A j) := cF_no hjA (by rw [← HX.out]; exact HE.out.symm)
            clear hyes
            go_wp2_with (first | (go_at_call 14; refine (CS.out _ HB.out).mono ?_; rintro e w7 ⟨u7, rfl, hs7, hb7⟩; have H7 : Hid (Sl w7 u7 (kdL x) ∧ Below w6.heap.size w6 w7) := ⟨hs7, bl_via HB.out hb7⟩; clear hs7 hb7) | (go_at_call 13; refine (CE.out _ _ H7.out.2 H7.out.1).mono ?_; rintro e w8 ⟨rfl, hb8⟩; have H8 : Hid (Below w6.heap.size w6 w8) := bl_via H7.out.2 hb8; clear hb8))
            go_roundg (es6.length - (j + 1))
            case measure => omega
            case rel => exact ⟨j + 1, k, by omega, rfl, by go_num, rfl, by rw [HC2.out]; exact HKC.out, H8.out, by omega⟩
          · have HC2 : Hid (cF (fun x => kdL x == ks) A (j + 1) = cF (fun x => kdL x == ks) A j + 1) := cF_yes hjA (by rw [← HX.out]; exact HE.out.symm)
            obtain ⟨gl, gj, cj, rfl, hlt, c3', r3⟩ := hyes rfl
            rw [← HKC.out] at hlt c3'
            have k1 : (k : Int) < (es3.length : Int) := by omega
            have k0 : (0 : Int) ≤ (k : Int) := by omega
            have k2 : ¬ (es3.length : Int) ≤ (k : Int) := by omega
            have k3 : decide ((es3.length : Int) ≤ (k : Int)) = false := by simpa using k2
            have k4 : decide (es3.length ≤ k) = false := by simpa using (by omega : ¬ es3.length ≤ k)
            have HC3 : Hid (w6.cell? ⟨gl, k, none⟩ = some (.slice (some ⟨gj, 0, none⟩) x.length cj) ∧ w6.cell? ⟨ga, j, none⟩ = some (.slice (some ⟨gi, 0, none⟩) x.length ci)) := by
              obtain ⟨ga', gi', ci', e1, e2, _⟩ := HMT.out j hjA
              cases e1
              have h5 := cl_kept HB.out e2
              rw [c0, ← HX.out] at h5
              rw [e2, ← HX.out]
              exact ⟨c3', h5.symm⟩
            have CQ : Hid (∀ W : World, Below w6.heap.size w6 W → Calls Try.prog 13 #[.slice (some ⟨gj, 0, none⟩) x.length cj, .slice (some ⟨gi, 0, none⟩) x.length ci] W fun e w' => e = .returned (.bool true) ∧ Below W.heap.size W w') := fun W hW => by
              have := same_any _ _ _ _ W (rw_sg (c := cj) (r3.kept hW)) (rw_sg (c := ci) (r0.kept hW)) (by omega) (by omega)
              rwa [show (x == x) = true by simp] at this
            clear r0 r3 c3'
            go_wp2_with (first | (go_at_call 14; refine (CS.out _ HB.out).mono ?_; rintro e w7 ⟨u7, rfl, hs7, hb7⟩; have H7 : Hid (Sl w7 u7 (kdL x) ∧ Below w6.heap.size w6 w7) := ⟨hs7, bl_via HB.out hb7⟩; clear hs7 hb7) | (go_at_call 13; refine (CE.out _ _ H7.out.2 H7.out.1).mono ?_; rintro e w8 ⟨rfl, hb8⟩; have H8 : Hid (Below w6.heap.size w6 w8) := bl_via H7.out.2 hb8; clear hb8))
            clear c0 zg
            have c0 := cl_kept H8.out HC3.out.1
            have c1 := cl_kept H8.out HC3.out.2
            have zl : gl < w8.heap.size := World.block_lt_of_cell? _ _ c0
            have za : ga < w8.heap.size := World.block_lt_of_cell? _ _ c1
            have kc := Kin.cells w8
            have kn : Nonempty (Kin w8) := ⟨⟨w8, bl_refl _⟩⟩
            refine wp_region_kin (by kernel_rfl) (by kernel_rfl) ?_
            repeat (go_big_quiet_step ((go_at_call 13; with_reducible exact kin_of (CQ.out _ (bl_via H8.out (Kin.h _))))))
            refine wpQuiet_nil ?_
            intro wq hw'
            obtain ⟨nq, hw''⟩ := hw'
            have hq : Below w8.heap.size w8 wq := hw'' ▸ nq.h
            clear hw'' nq kc kn c0 c1 zl za
            go_wp2
            go_roundg (es6.length - (j + 1))
            case measure => omega
            case rel => exact ⟨j + 1, k + 1, by omega, rfl, by go_num, by go_num, by rw [HC2.out, ← HKC.out], bl_via H8.out hq, by omega⟩
        · have j1 : ¬ (j : Int) < (es6.length : Int) := by omega
          obtain rfl : j = es6.length := by omega
          have hke : k = es3.length := by rw [HKC.out]; exact HN6.out.2.1
          subst hke
          have qe : ((es3.length : Int) == (es3.length : Int)) = true := by simp
          go_wp2
          go_ret
          exact ⟨rfl, bl_via HB6.out HB.out⟩
theorem byl_any (a : Option Addr) (c : Nat) (ks : List Int) (w : World) (hv : Sg w (.slice a ks.length c) ks) (hl : ks.length ≤ 17592186044416) :
    Calls Try.prog 5 #[.slice a ks.length c] w fun e w' => e = .returned (.bool true) ∧ Below w.heap.size w w' := by
  by_cases h : 8 ≤ ks.length
  · exact byl_size a c ks w hv hl h
  · cases hk : ks.any p11
    · exact byl_ok a c ks w hv (by omega) hk
    · exact byl_kind a c ks w hv (by omega) hk
end Go.Proofs.Ytdflindoemffaaa
