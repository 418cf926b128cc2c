/- What is wrong with angles; Flat. -/
import Derived.Test.YtioajagblphbnaaCont
import Derived.Test.YtioajagblphbnaaGoes
namespace Go.Proofs.Ytioajagblphbnaa
open Go.RowKit

def badN (n : Nat) : Bool := decide (n < 2) || (decide (8 < n) || decide (n % 2 = 1))
def wrongV (l : List Int) : Int := if badN l.length = true then 2 else if l.any p16 = true then 3 else if xf l l.length ≠ 0 then 8 else 0
theorem p16_bd {l : List Int} (h : l.any p16 = false) : ∀ i, i < l.length → 1 ≤ gt l i ∧ gt l i ≤ 1000 := fun i hi => by
  rw [List.any_eq_false] at h
  have := h l[i] (List.getElem_mem hi)
  rw [← gt_lt hi] at this
  simp only [p16, Bool.or_eq_true, decide_eq_true_eq, not_or] at this
  omega
theorem wrong_size (v : Value) (l : List Int) (w : World) (hv : Sg w v l) (hm : l.length ≤ 17592186044416) (hn : badN l.length = true) :
    Calls Try.prog 9 #[v] w fun e w' => e = .returned (.int .i64 2) ∧ Below w.heap.size w w' := by
  obtain ⟨a, c, rfl, _⟩ := sg_meet hv
  clear hv
  have t1 := two_int l.length
  simp only [badN, Bool.or_eq_true, decide_eq_true_eq] at hn
  by_cases q1 : (l.length : Int) < 2
  · clear hn t1
    go_enter Try.func9, Try.ntmps9
    go_wp2
    go_ret
    exact ⟨rfl, bl_refl _⟩
  · by_cases q2 : (8 : Int) < (l.length : Int)
    · clear hn t1
      go_enter Try.func9, Try.ntmps9
      go_wp2
      go_ret
      exact ⟨rfl, bl_refl _⟩
    · have q3 : ((l.length : Int) % 2 != 0) = true := by
        have : (l.length : Int) % 2 = 1 := by omega
        rw [this]
        rfl
      clear hn
      go_enter Try.func9, Try.ntmps9
      go_wp2
      go_ret
      exact ⟨rfl, bl_refl _⟩
set_option maxRecDepth 100000 in
set_option maxHeartbeats 800000 in
theorem wrong_rest (v : Value) (l : List Int) (w : World) (hv : Sg w v l) (hn : badN l.length = false) :
    Calls Try.prog 9 #[v] w fun e w' => e = .returned (.int .i64 (wrongV l)) ∧ Below w.heap.size w w' := by
  have hn2 : 2 ≤ l.length ∧ l.length ≤ 8 ∧ l.length % 2 = 0 := by
    simp only [badN, Bool.or_eq_false_iff, decide_eq_false_iff_not] at hn
    omega
  have CC : Hid (∀ W : World, Below w.heap.size w W → Calls Try.prog 13 #[v, .func (.func 16) #[] #[]] W fun e w' => e = .returned (.bool (l.any p16)) ∧ Below W.heap.size W w') := fun W hW => contains16 v l W (hv.kept hW) hn2.2.1
  have CA : Hid (l.any p16 = false → ∀ W : World, Below w.heap.size w W → Calls Try.prog 17 #[v] W fun e w' => ∃ g cap, e = .returned (.slice (some ⟨g, 0, none⟩) (l.length + 1) cap) ∧ l.length + 1 ≤ cap ∧ Rw w' g (plc l l.length) ∧ Below W.heap.size W w') := fun h W hW => along_any v l W (hv.kept hW) hn2.2.1 (p16_bd h)
  obtain ⟨a, c, rfl, _⟩ := sg_meet hv
  have HX : Hid (l.any p16 = false → -1000 * (l.length : Int) ≤ xf l l.length ∧ xf l l.length ≤ 1000 * (l.length : Int)) := fun h => xf_bd (p16_bd h) _ (Nat.le_refl _)
  have HW : Hid (wrongV l = if l.any p16 = true then 3 else if xf l l.length ≠ 0 then 8 else 0) := by
    have : wrongV l = if l.any p16 = true then 3 else if xf l l.length ≠ 0 then 8 else 0 := by
      unfold wrongV
      rw [if_neg (by rw [hn]; simp)]
    exact this
  have q1 : ¬ (l.length : Int) < 2 := by omega
  have q2 : ¬ (8 : Int) < (l.length : Int) := by omega
  have q3 : ((l.length : Int) % 2 != 0) = false := by
    have : (l.length : Int) % 2 = 0 := by omega
    rw [this]
    rfl
  have t1 := two_int l.length
  obtain ⟨wv, hwv⟩ : ∃ x, x = wrongV l := ⟨_, rfl⟩
  rw [← hwv] at HW ⊢
  obtain ⟨pb, hpb⟩ : ∃ x, x = l.any p16 := ⟨_, rfl⟩
  rw [← hpb] at HW CC CA HX
  obtain ⟨xn, hxn⟩ : ∃ x, x = xf l l.length := ⟨_, rfl⟩
  rw [← hxn] at HW HX
  have HXN : Hid (xn = xf l l.length) := hxn
  have i1 : (l.length : Int) < (l.length : Int) + 1 := by omega
  have i0 : (0 : Int) ≤ (l.length : Int) := by omega
  have i2 : (0 : Int) < (l.length : Int) + 1 := by omega
  clear hv hn hn2 hwv hpb hxn
  cases pb
  · have C2 : Hid (∀ W : World, Below w.heap.size w W → Calls Try.prog 17 #[.slice a l.length c] W fun e w' => ∃ g cap, e = .returned (.slice (some ⟨g, 0, none⟩) (l.length + 1) cap) ∧ l.length + 1 ≤ cap ∧ Rw w' g (plc l l.length) ∧ Below W.heap.size W w') := CA.out rfl
    clear CA
    have hxb := HX.out rfl
    clear HX
    go_enter Try.func9, Try.ntmps9
    go_wp2_with (first | (go_at_call 13; refine (CC.out _ (bl_refl _)).mono ?_; rintro e w1 ⟨rfl, hb⟩; have HB1 : Hid (Below w.heap.size w w1) := hb; clear hb) | (go_at_call 17; refine (C2.out _ HB1.out).mono ?_; rintro e w2 ⟨g, cap, rfl, hcap, hrw, hb⟩; have HR : Hid (Rw w2 g (plc l l.length) ∧ Below w.heap.size w w2) := ⟨hrw, bl_via HB1.out hb⟩; clear hrw hb hcap))
    have c0 := HR.out.1 0 (by rw [plc_len]; omega)
    have c1 := HR.out.1 l.length (by rw [plc_len]; omega)
    rw [plc_at (Nat.zero_le _), show xf l 0 = 0 from rfl] at c0
    rw [plc_at (Nat.le_refl _), ← HXN.out] at c1
    have zg : g < w2.heap.size := World.block_lt_of_cell? _ _ c0
    have kc := Kin.cells w2
    have kn : Nonempty (Kin w2) := ⟨⟨w2, bl_refl _⟩⟩
    refine wp_region_kin (by kernel_rfl) (by kernel_rfl) ?_
    repeat (go_big_quiet_step (fail))
    refine wpQuiet_nil ?_
    intro wq hw'
    obtain ⟨nq, hw''⟩ := hw'
    have hq : Below w2.heap.size w2 wq := hw'' ▸ nq.h
    clear hw'' nq kc kn c0 c1
    by_cases q : xn = 0
    · have qb : (xn != 0) = false := by simpa using q
      have HE : Hid (wv = 0) := by
        have : wv = 0 := by rw [HW.out, q]; rfl
        exact this
      clear q
      go_wp2
      go_ret
      exact ⟨ret_int HE.out.symm, bl_via HR.out.2 hq⟩
    · have qb : (xn != 0) = true := by simpa using q
      have HE : Hid (wv = 8) := by
        have : wv = 8 := by
          rw [HW.out, if_neg (by simp), if_pos q]
        exact this
      clear q
      go_wp2
      go_ret
      exact ⟨ret_int HE.out.symm, bl_via HR.out.2 hq⟩
  · have HE : Hid (wv = 3) := by
      have : wv = 3 := by rw [HW.out]; rfl
      exact this
    go_enter Try.func9, Try.ntmps9
    go_wp2_with (go_at_call 13; refine (CC.out _ (bl_refl _)).mono ?_; rintro e w1 ⟨rfl, hb⟩)
    go_ret
    exact ⟨ret_int HE.out.symm, hb⟩
theorem wrong_any (v : Value) (l : List Int) (w : World) (hv : Sg w v l) (hm : l.length ≤ 17592186044416) :
    Calls Try.prog 9 #[v] w fun e w' => e = .returned (.int .i64 (wrongV l)) ∧ Below w.heap.size w w' := by
  cases hn : badN l.length
  · exact wrong_rest v l w hv hn
  · have : wrongV l = 2 := by unfold wrongV; rw [if_pos hn]
    rw [this]
    exact wrong_size v l w hv hm hn
/-- What Flat tells. -/
def flatB (l ks : List Int) : Bool := decide (ks.length = l.length) && (decide (wrongV l = 0) && (!(ks.any p11) && goF (dsk l) l.length ks l.length []))
def flatE (l ks : List Int) : Int := if ks.length ≠ l.length then 2 else if wrongV l ≠ 0 then wrongV l else if ks.any p11 = true then 4 else 0
theorem wrong_none {l : List Int} (h : wrongV l = 0) : badN l.length = false ∧ l.any p16 = false ∧ xf l l.length = 0 := by
  unfold wrongV at h
  split at h
  · omega
  · rename_i h1
    split at h
    · omega
    · rename_i h2
      split at h
      · omega
      · rename_i h3
        exact ⟨by simpa using h1, by simpa using h2, by omega⟩
theorem bad_none {n : Nat} (h : badN n = false) : 2 ≤ n ∧ n ≤ 8 ∧ n % 2 = 0 := by
  simp only [badN, Bool.or_eq_false_iff, decide_eq_false_iff_not] at h
  omega
set_option maxRecDepth 100000 in
set_option maxHeartbeats 800000 in
theorem flat_any (v u : Value) (l ks : List Int) (w : World) (hv : Sg w v l) (hu : Sl w u ks) (hm : l.length ≤ 17592186044416) (_hk : ks.length ≤ 17592186044416) :
    Calls Try.prog 7 #[v, u] w fun e w' => e = .returned (.tuple #[.bool (flatB l ks), .int .i64 (flatE l ks)]) ∧ Below w.heap.size w w' := by
  have CW : Hid (∀ W : World, Below w.heap.size w W → Calls Try.prog 9 #[v] W fun e w' => e = .returned (.int .i64 (wrongV l)) ∧ Below W.heap.size W w') := fun W hW => wrong_any v l W (hv.kept hW) hm
  have CC : Hid (ks.length ≤ 8 → ∀ W : World, Below w.heap.size w W → Calls Try.prog 13 #[u, .func (.func 14) #[] #[]] W fun e w' => e = .returned (.bool (ks.any p11)) ∧ Below W.heap.size W w') := fun h W hW => contains11 u ks W (hu.kept hW) h
  have CL : Hid (wrongV l = 0 → ∀ W : World, Below w.heap.size w W → Calls Try.prog 10 #[v] W fun e w' => ∃ g cap, e = .returned (.slice (some ⟨g, 0, none⟩) (dsk l).length cap) ∧ Rw w' g (dsk l) ∧ Below W.heap.size W w') := fun h W hW => lay_any v l W (hv.kept hW) (bad_none (wrong_none h).1).2.1 (p16_bd (wrong_none h).2.1)
  have HU : Hid (Sl w u ks) := hu
  obtain ⟨a, c, rfl, _⟩ := sg_meet hv
  by_cases q1 : ks.length = l.length
  · by_cases q2 : wrongV l = 0
    · obtain ⟨n2, n8, ne⟩ := bad_none (wrong_none q2).1
      obtain ⟨gk, ck, rfl, hrk⟩ := hu.some (by omega)
      have HRK : Hid (Rw w gk ks) := hrk
      have C1 : Hid (∀ W : World, Below w.heap.size w W → Calls Try.prog 9 #[.slice a l.length c] W fun e w' => e = .returned (.int .i64 0) ∧ Below W.heap.size W w') := fun W hW => by
        have := CW.out W hW
        rw [q2] at this
        exact this
      have C2 := CC.out (by omega)
      obtain ⟨pb, hpb⟩ : ∃ b, b = ks.any p11 := ⟨_, rfl⟩
      rw [← hpb, q1] at C2
      have C3 : Hid (∀ W : World, Below w.heap.size w W → Calls Try.prog 13 #[.slice (some ⟨gk, 0, none⟩) l.length ck, .func (.func 14) #[] #[]] W fun e w' => e = .returned (.bool pb) ∧ Below W.heap.size W w') := C2
      have C4 := CL.out q2
      rw [dsk_len] at C4
      have C5 : Hid (∀ W : World, Below w.heap.size w W → Calls Try.prog 10 #[.slice a l.length c] W fun e w' => ∃ g cap, e = .returned (.slice (some ⟨g, 0, none⟩) l.length cap) ∧ Rw w' g (dsk l) ∧ Below W.heap.size W w') := C4
      obtain ⟨gb, hgb⟩ : ∃ b, b = goF (dsk l) l.length ks l.length [] := ⟨_, rfl⟩
      have C6 : Hid (∀ (W : World) (g cap : Nat), Below w.heap.size w W → Rw W g (dsk l) → Calls Try.prog 15 #[.slice (some ⟨g, 0, none⟩) l.length cap, .slice (some ⟨gk, 0, none⟩) l.length ck] W fun e w' => e = .returned (.bool gb) ∧ Below W.heap.size W w') := fun W g cap hW hr => by
        have := goes_any g cap gk ck (dsk l) ks W (by rw [dsk_len]; exact q1) (by rw [dsk_len]; exact n2) (by rw [dsk_len]; exact n8) hr (HRK.out.kept hW)
        rw [dsk_len] at this
        rw [hgb]
        exact this
      have HE : Hid (flatB l ks = (!pb && gb) ∧ flatE l ks = if pb = true then 4 else 0) := by
        have : flatB l ks = (!pb && gb) ∧ flatE l ks = if pb = true then 4 else 0 := by
          unfold flatB flatE
          rw [if_neg (by omega), if_neg (by omega), hpb, hgb]
          simp [q1, q2]
        exact this
      rw [q1]
      obtain ⟨fb, hfb⟩ : ∃ b, b = flatB l ks := ⟨_, rfl⟩
      obtain ⟨fe, hfe⟩ : ∃ b, b = flatE l ks := ⟨_, rfl⟩
      rw [← hfb, ← hfe] at HE ⊢
      clear hfb hfe hgb C4 hpb C2 CW CC CL HU hrk hu hv q1 q2 _hk
      have q : ((l.length : Int) != (l.length : Int)) = false := by simp
      cases pb
      · have HE2 : Hid (fb = gb ∧ fe = 0) := HE.out
        clear HE
        go_enter Try.func7, Try.ntmps7
        go_wp2_with (first | (go_at_call 9; refine (C1.out _ (bl_refl _)).mono ?_; rintro e w1 ⟨rfl, hb1⟩; have HB1 : Hid (Below w.heap.size w w1) := hb1; clear hb1) | (go_at_call 13; refine (C3.out _ HB1.out).mono ?_; rintro e w2 ⟨rfl, hb2⟩; have HB2 : Hid (Below w.heap.size w w2) := bl_via HB1.out hb2; clear hb2) | (go_at_call 10; refine (C5.out _ HB2.out).mono ?_; rintro e w3 ⟨g, cap, rfl, hr, hb3⟩; have HB3 : Hid (Below w.heap.size w w3 ∧ Rw w3 g (dsk l)) := ⟨bl_via HB2.out hb3, hr⟩; clear hb3 hr) | (go_at_call 15; refine (C6.out _ _ _ HB3.out.1 HB3.out.2).mono ?_; rintro e w4 ⟨rfl, hb4⟩; have HB4 : Hid (Below w.heap.size w w4) := bl_via HB3.out.1 hb4; clear hb4))
        refine bodyPost_ret (v := .tuple #[.bool gb, .int .i64 0]) (by simp [results, Try.results7, go_sem]) rfl ⟨?_, HB4.out⟩
        rw [HE2.out.1, HE2.out.2]
      · have HE2 : Hid (fb = false ∧ fe = 4) := HE.out
        clear HE
        go_enter Try.func7, Try.ntmps7
        go_wp2_with (first | (go_at_call 9; refine (C1.out _ (bl_refl _)).mono ?_; rintro e w1 ⟨rfl, hb1⟩; have HB1 : Hid (Below w.heap.size w w1) := hb1; clear hb1) | (go_at_call 13; refine (C3.out _ HB1.out).mono ?_; rintro e w2 ⟨rfl, hb2⟩; have HB2 : Hid (Below w.heap.size w w2) := bl_via HB1.out hb2; clear hb2))
        refine bodyPost_ret (v := .tuple #[.bool false, .int .i64 4]) (by simp [results, Try.results7, go_sem]) rfl ⟨?_, HB2.out⟩
        rw [HE2.out.1, HE2.out.2]
    · obtain ⟨b, d, rfl, _⟩ := sl_meet hu
      have HE : Hid (flatB l ks = false ∧ flatE l ks = wrongV l) := by
        have : flatB l ks = false ∧ flatE l ks = wrongV l := by
          unfold flatB flatE
          rw [if_neg (by omega), if_pos q2]
          simp [q2]
        exact this
      rw [q1]
      obtain ⟨fb, hfb⟩ : ∃ b, b = flatB l ks := ⟨_, rfl⟩
      obtain ⟨fe, hfe⟩ : ∃ b, b = flatE l ks := ⟨_, rfl⟩
      obtain ⟨wv, hwv⟩ : ∃ x, x = wrongV l := ⟨_, rfl⟩
      rw [← hfb, ← hfe, ← hwv] at HE
      rw [← hfb, ← hfe]
      rw [← hwv] at CW q2
      have qb : (wv != 0) = true := by simpa using q2
      have q : ((l.length : Int) != (l.length : Int)) = false := by simp
      clear hfb hfe hwv CC CL HU hu hv q1 q2 _hk
      go_enter Try.func7, Try.ntmps7
      go_wp2_with (go_at_call 9; refine (CW.out _ (bl_refl _)).mono ?_; rintro e w1 ⟨rfl, hb1⟩; have HB1 : Hid (Below w.heap.size w w1) := hb1; clear hb1)
      refine bodyPost_ret (v := .tuple #[.bool false, .int .i64 wv]) (by simp [results, Try.results7, go_sem]) rfl ⟨?_, HB1.out⟩
      rw [HE.out.1, HE.out.2]
  · obtain ⟨b, d, rfl, _⟩ := sl_meet hu
    have HE : Hid (flatB l ks = false ∧ flatE l ks = 2) := by
      have : flatB l ks = false ∧ flatE l ks = 2 := by
        unfold flatB flatE
        rw [if_pos q1]
        simp [q1]
      exact this
    have q : ((ks.length : Int) != (l.length : Int)) = true := by
      rw [bne_iff_ne]
      omega
    obtain ⟨fb, hfb⟩ : ∃ b, b = flatB l ks := ⟨_, rfl⟩
    obtain ⟨fe, hfe⟩ : ∃ b, b = flatE l ks := ⟨_, rfl⟩
    rw [← hfb, ← hfe] at HE ⊢
    clear hfb hfe CW CC CL HU hu hv q1
    go_enter Try.func7, Try.ntmps7
    go_wp2
    refine bodyPost_ret (v := .tuple #[.bool false, .int .i64 2]) (by simp [results, Try.results7, go_sem]) rfl ⟨?_, bl_refl _⟩
    rw [HE.out.1, HE.out.2]
end Go.Proofs.Ytioajagblphbnaa
