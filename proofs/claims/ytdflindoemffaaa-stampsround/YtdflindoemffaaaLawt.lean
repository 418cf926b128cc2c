/- May, Kinds; the law StampsTell. -/
import Derived.Test.YtdflindoemffaaaSkds
namespace Go.Proofs.Ytdflindoemffaaa
open Go.RowKit

theorem noV_cases (l : List Int) (h : noV l = 0) : Prm l ∧ 1 ≤ l.length ∧ l.length ≤ 8 := by
  unfold noV at h
  split at h
  · split at h
    · rename_i h1 h2
      refine ⟨(prm_iff l).1 h2, ?_⟩
      simp [cntB] at h1
      omega
    · omega
  · omega
set_option maxRecDepth 100000 in
theorem may_no (v : Value) (l : List Int) (w : World) (hv : Sg w v l) (hl : l.length ≤ 17592186044416) (h : noV l ≠ 0) :
    Calls Try.prog 8 #[v] w fun e w' => e = .returned (.tuple #[.bool false, .int .i64 (noV l)]) ∧ Below w.heap.size w w' := by
  have CR : Hid (Calls Try.prog 22 #[v] w fun e w' => e = .returned (.int .i64 (noV l)) ∧ Below w.heap.size w w') := refused_any v l w hv hl
  obtain ⟨nv, hnv⟩ : ∃ x, x = noV l := ⟨_, rfl⟩
  rw [← hnv] at CR h ⊢
  have q : (nv != 0) = true := by simpa using h
  obtain ⟨a, c, rfl, _⟩ := hv
  clear hnv h
  go_enter Try.func8, Try.ntmps8
  go_wp2_with (go_at_call 22; refine CR.out.mono ?_; rintro e w1 ⟨rfl, hb⟩)
  go_ret2
  exact ⟨rfl, hb⟩
set_option maxRecDepth 100000 in
theorem may_ok (v : Value) (l : List Int) (w : World) (hv : Sg w v l) (h : noV l = 0) :
    Calls Try.prog 8 #[v] w fun e w' => e = .returned (.tuple #[.bool (gdB l), .int .i64 0]) ∧ Below w.heap.size w w' := by
  obtain ⟨hp, h1, h8⟩ := noV_cases l h
  have CR : Hid (Calls Try.prog 22 #[v] w fun e w' => e = .returned (.int .i64 (noV l)) ∧ Below w.heap.size w w') := refused_any v l w hv (by omega)
  rw [h] at CR
  have CG : Hid (∀ W : World, Below w.heap.size w W → Calls Try.prog 23 #[v] W fun e w' => e = .returned (.bool (gdB l)) ∧ Below W.heap.size W w') := fun W hW => goes_any v l W (hv.kept hW) hp h1 h8
  obtain ⟨gb, hgb⟩ : ∃ x, x = gdB l := ⟨_, rfl⟩
  rw [← hgb] at CG ⊢
  obtain ⟨a, c, rfl, _⟩ := hv
  clear hgb h hp
  go_enter Try.func8, Try.ntmps8
  go_wp2_with (first | (go_at_call 22; refine CR.out.mono ?_; rintro e w1 ⟨rfl, hb⟩) | (go_at_call 23; refine (CG.out _ hb).mono ?_; rintro e w2 ⟨rfl, hb2⟩))
  go_ret2
  exact ⟨rfl, bl_via hb hb2⟩
set_option maxRecDepth 100000 in
theorem kinds_no (v : Value) (l : List Int) (w : World) (hv : Sg w v l) (hl : l.length ≤ 17592186044416) (h : noV l ≠ 0) :
    Calls Try.prog 10 #[v] w fun e w' => e = .returned (.tuple #[.slice none 0 0, .int .i64 (noV l)]) ∧ Below w.heap.size w w' := by
  have CR : Hid (Calls Try.prog 22 #[v] w fun e w' => e = .returned (.int .i64 (noV l)) ∧ Below w.heap.size w w') := refused_any v l w hv hl
  obtain ⟨nv, hnv⟩ : ∃ x, x = noV l := ⟨_, rfl⟩
  rw [← hnv] at CR h ⊢
  have q : (nv != 0) = true := by simpa using h
  obtain ⟨a, c, rfl, _⟩ := hv
  clear hnv h
  go_enter Try.func10, Try.ntmps10
  go_wp2_with (go_at_call 22; refine CR.out.mono ?_; rintro e w1 ⟨rfl, hb⟩)
  go_ret2
  exact ⟨rfl, hb⟩
set_option maxRecDepth 100000 in
theorem kinds_bad (v : Value) (l : List Int) (w : World) (hv : Sg w v l) (h : noV l = 0) (hg : gdB l = false) :
    Calls Try.prog 10 #[v] w fun e w' => e = .returned (.tuple #[.slice none 0 0, .int .i64 11]) ∧ Below w.heap.size w w' := by
  obtain ⟨hp, h1, h8⟩ := noV_cases l h
  have CR : Hid (Calls Try.prog 22 #[v] w fun e w' => e = .returned (.int .i64 (noV l)) ∧ Below w.heap.size w w') := refused_any v l w hv (by omega)
  rw [h] at CR
  have CG : Hid (∀ W : World, Below w.heap.size w W → Calls Try.prog 23 #[v] W fun e w' => e = .returned (.bool (gdB l)) ∧ Below W.heap.size W w') := fun W hW => goes_any v l W (hv.kept hW) hp h1 h8
  rw [hg] at CG
  obtain ⟨a, c, rfl, _⟩ := hv
  clear h hp hg
  go_enter Try.func10, Try.ntmps10
  go_wp2_with (first | (go_at_call 22; refine CR.out.mono ?_; rintro e w1 ⟨rfl, hb⟩) | (go_at_call 23; refine (CG.out _ hb).mono ?_; rintro e w2 ⟨rfl, hb2⟩))
  go_ret2
  exact ⟨rfl, bl_via hb hb2⟩
set_option maxRecDepth 100000 in
theorem kinds_ok (v : Value) (l : List Int) (w : World) (hv : Sg w v l) (h : noV l = 0) (hg : gdB l = true) :
    Calls Try.prog 10 #[v] w fun e w' => ∃ g, e = .returned (.tuple #[.slice (some ⟨g, 0, none⟩) (kdL l).length (kdL l).length, .int .i64 0]) ∧ Rw w' g (kdL l) ∧ Below w.heap.size w w' := by
  obtain ⟨hp, h1, h8⟩ := noV_cases l h
  have CR : Hid (Calls Try.prog 22 #[v] w fun e w' => e = .returned (.int .i64 (noV l)) ∧ Below w.heap.size w w') := refused_any v l w hv (by omega)
  rw [h] at CR
  have CG : Hid (∀ W : World, Below w.heap.size w W → Calls Try.prog 23 #[v] W fun e w' => e = .returned (.bool (gdB l)) ∧ Below W.heap.size W w') := fun W hW => goes_any v l W (hv.kept hW) hp h1 h8
  rw [hg] at CG
  have CK : Hid (∀ W : World, Below w.heap.size w W → Calls Try.prog 24 #[v] W fun e w' => ∃ g, e = .returned (.slice (some ⟨g, 0, none⟩) (kdL l).length (kdL l).length) ∧ Rw w' g (kdL l) ∧ Below W.heap.size W w') := fun W hW => kindsOf_any v l W (hv.kept hW) hp h1 h8
  obtain ⟨a, c, rfl, _⟩ := hv
  clear h hp hg
  go_enter Try.func10, Try.ntmps10
  go_wp2_with (first | (go_at_call 22; refine CR.out.mono ?_; rintro e w1 ⟨rfl, hb⟩) | (go_at_call 23; refine (CG.out _ hb).mono ?_; rintro e w2 ⟨rfl, hb2⟩; have HB2 : Hid (Below w.heap.size w w2) := bl_via hb hb2; clear hb2) | (go_at_call 24; refine (CK.out _ HB2.out).mono ?_; rintro e w3 ⟨g, rfl, hr, hb3⟩; have H3 : Hid (Rw w3 g (kdL l) ∧ Below w.heap.size w w3) := ⟨hr, bl_via HB2.out hb3⟩; clear hr hb3))
  go_ret2
  exact ⟨g, rfl, H3.out⟩
theorem rw_sg {w : World} {g c : Nat} {l : List Int} (h : Rw w g l) : Sg w (.slice (some ⟨g, 0, none⟩) l.length c) l := ⟨_, c, rfl, fun i hi => ⟨g, 0, rfl, by rw [Nat.zero_add]; exact h i hi⟩⟩
theorem nil_sg (w : World) : Sg w (.slice none 0 0) [] := ⟨none, 0, rfl, fun i hi => by simp at hi⟩
set_option maxRecDepth 100000 in
set_option maxHeartbeats 1000000 in
theorem tell_no (a : Option Addr) (c : Nat) (l : List Int) (w : World) (hv : Sg w (.slice a l.length c) l) (hl : l.length ≤ 17592186044416) (h : noV l ≠ 0) :
    Calls Try.prog 3 #[.slice a l.length c] w fun e w' => e = .returned (.bool true) ∧ Below w.heap.size w w' := by
  have CI : Hid (∀ W : World, Below w.heap.size w W → Calls Try.prog 9 #[.slice a l.length c] W fun e w' => ∃ u, e = .returned u ∧ Sl w' u l ∧ Below W.heap.size W w') := fun W hW => ints_any _ l W (hv.kept hW) hl
  have CM : Hid (∀ (W : World) (x : Value), Sl W x l → Calls Try.prog 8 #[x] W fun e w' => e = .returned (.tuple #[.bool false, .int .i64 (noV l)]) ∧ Below W.heap.size W w') := fun W x hx => may_no x l W hx.sg hl h
  have CK : Hid (∀ (W : World) (x : Value), Sl W x l → Calls Try.prog 10 #[x] W fun e w' => e = .returned (.tuple #[.slice none 0 0, .int .i64 (noV l)]) ∧ Below W.heap.size W w') := fun W x hx => kinds_no x l W hx.sg hl h
  have CO : Hid (∀ W : World, Below w.heap.size w W → Calls Try.prog 11 #[.slice a l.length c] W fun e w' => e = .returned (.int .i64 (noV l)) ∧ Below W.heap.size W w') := fun W hW => orderMay_any _ l W (hv.kept hW) hl
  obtain ⟨nv, hnv⟩ : ∃ x, x = noV l := ⟨_, rfl⟩
  rw [← hnv] at CM CK CO h
  have q : (nv != 0) = true := by simpa using h
  have q2 : (nv == nv) = true := by simp
  have HB : Hid (Below w.heap.size w w) := bl_refl w
  clear hnv h hv
  go_enter Try.func3, Try.ntmps3
  go_wp2_with (first | (go_at_call 9; refine (CI.out _ HB.out).mono ?_; rintro e w1 ⟨u1, rfl, hs1, hb⟩; have HU : Hid (Sl w1 u1 l) := hs1; replace HB : Hid (Below w.heap.size w w1) := bl_via HB.out hb; clear hs1 hb) | (go_at_call 8; refine (CM.out _ _ HU.out).mono ?_; rintro e w1 ⟨rfl, hb⟩; replace HB : Hid (Below w.heap.size w w1) := bl_via HB.out hb; clear hb HU) | (go_at_call 10; refine (CK.out _ _ HU.out).mono ?_; rintro e w1 ⟨rfl, hb⟩; replace HB : Hid (Below w.heap.size w w1) := bl_via HB.out hb; clear hb HU) | (go_at_call 11; refine (CO.out _ HB.out).mono ?_; rintro e w1 ⟨rfl, hb⟩; replace HB : Hid (Below w.heap.size w w1) := bl_via HB.out hb; clear hb))
  go_ret
  exact ⟨rfl, HB.out⟩
set_option maxRecDepth 100000 in
set_option maxHeartbeats 1000000 in
theorem tell_bad (a : Option Addr) (c : Nat) (l : List Int) (w : World) (hv : Sg w (.slice a l.length c) l) (hl : l.length ≤ 17592186044416) (h : noV l = 0) (hg : gdB l = false) :
    Calls Try.prog 3 #[.slice a l.length c] w fun e w' => e = .returned (.bool true) ∧ Below w.heap.size w w' := by
  have CI : Hid (∀ W : World, Below w.heap.size w W → Calls Try.prog 9 #[.slice a l.length c] W fun e w' => ∃ u, e = .returned u ∧ Sl w' u l ∧ Below W.heap.size W w') := fun W hW => ints_any _ l W (hv.kept hW) hl
  have CM : Hid (∀ (W : World) (x : Value), Sl W x l → Calls Try.prog 8 #[x] W fun e w' => e = .returned (.tuple #[.bool false, .int .i64 0]) ∧ Below W.heap.size W w') := fun W x hx => by have := may_ok x l W hx.sg h; rwa [hg] at this
  have CK : Hid (∀ (W : World) (x : Value), Sl W x l → Calls Try.prog 10 #[x] W fun e w' => e = .returned (.tuple #[.slice none 0 0, .int .i64 11]) ∧ Below W.heap.size W w') := fun W x hx => kinds_bad x l W hx.sg h hg
  have CO : Hid (∀ W : World, Below w.heap.size w W → Calls Try.prog 11 #[.slice a l.length c] W fun e w' => e = .returned (.int .i64 0) ∧ Below W.heap.size W w') := fun W hW => by have := orderMay_any _ l W (hv.kept hW) hl; rwa [h] at this
  obtain ⟨hp, h1, h8⟩ := noV_cases l h
  have CG : Hid (∀ W : World, Below w.heap.size w W → Calls Try.prog 12 #[.slice a l.length c] W fun e w' => e = .returned (.bool false) ∧ Below W.heap.size W w') := fun W hW => by have := orderGood_any _ l W (hv.kept hW) hp h8; rwa [hg] at this
  have HB : Hid (Below w.heap.size w w) := bl_refl w
  clear h hv hg hp
  go_enter Try.func3, Try.ntmps3
  go_wp2_with (first | (go_at_call 9; refine (CI.out _ HB.out).mono ?_; rintro e w1 ⟨u1, rfl, hs1, hb⟩; have HU : Hid (Sl w1 u1 l) := hs1; replace HB : Hid (Below w.heap.size w w1) := bl_via HB.out hb; clear hs1 hb) | (go_at_call 8; refine (CM.out _ _ HU.out).mono ?_; rintro e w1 ⟨rfl, hb⟩; replace HB : Hid (Below w.heap.size w w1) := bl_via HB.out hb; clear hb HU) | (go_at_call 10; refine (CK.out _ _ HU.out).mono ?_; rintro e w1 ⟨rfl, hb⟩; replace HB : Hid (Below w.heap.size w w1) := bl_via HB.out hb; clear hb HU) | (go_at_call 11; refine (CO.out _ HB.out).mono ?_; rintro e w1 ⟨rfl, hb⟩; replace HB : Hid (Below w.heap.size w w1) := bl_via HB.out hb; clear hb) | (go_at_call 12; refine (CG.out _ HB.out).mono ?_; rintro e w1 ⟨rfl, hb⟩; replace HB : Hid (Below w.heap.size w w1) := bl_via HB.out hb; clear hb))
  go_ret
  exact ⟨rfl, HB.out⟩
set_option maxRecDepth 100000 in
set_option maxHeartbeats 1000000 in
theorem tell_ok (a : Option Addr) (c : Nat) (l : List Int) (w : World) (hv : Sg w (.slice a l.length c) l) (hl : l.length ≤ 17592186044416) (h : noV l = 0) (hg : gdB l = true) :
    Calls Try.prog 3 #[.slice a l.length c] w fun e w' => e = .returned (.bool true) ∧ Below w.heap.size w w' := by
  have CI : Hid (∀ W : World, Below w.heap.size w W → Calls Try.prog 9 #[.slice a l.length c] W fun e w' => ∃ u, e = .returned u ∧ Sl w' u l ∧ Below W.heap.size W w') := fun W hW => ints_any _ l W (hv.kept hW) hl
  have CM : Hid (∀ (W : World) (x : Value), Sl W x l → Calls Try.prog 8 #[x] W fun e w' => e = .returned (.tuple #[.bool true, .int .i64 0]) ∧ Below W.heap.size W w') := fun W x hx => by have := may_ok x l W hx.sg h; rwa [hg] at this
  have CK : Hid (∀ (W : World) (x : Value), Sl W x l → Calls Try.prog 10 #[x] W fun e w' => ∃ g, e = .returned (.tuple #[.slice (some ⟨g, 0, none⟩) (kdL l).length (kdL l).length, .int .i64 0]) ∧ Rw w' g (kdL l) ∧ Below W.heap.size W w') := fun W x hx => kinds_ok x l W hx.sg h hg
  have CO : Hid (∀ W : World, Below w.heap.size w W → Calls Try.prog 11 #[.slice a l.length c] W fun e w' => e = .returned (.int .i64 0) ∧ Below W.heap.size W w') := fun W hW => by have := orderMay_any _ l W (hv.kept hW) hl; rwa [h] at this
  obtain ⟨hp, h1, h8⟩ := noV_cases l h
  have CG : Hid (∀ W : World, Below w.heap.size w W → Calls Try.prog 12 #[.slice a l.length c] W fun e w' => e = .returned (.bool true) ∧ Below W.heap.size W w') := fun W hW => by have := orderGood_any _ l W (hv.kept hW) hp h8; rwa [hg] at this
  have CS : Hid (∀ W : World, Below w.heap.size w W → Calls Try.prog 14 #[.slice a l.length c] W fun e w' => ∃ u, e = .returned u ∧ Sl w' u (kdL l) ∧ Below W.heap.size W w') := fun W hW => stampKinds_any _ l W (hv.kept hW) hp h1 h8
  have CQ : Hid (∀ (W : World) (x y : Value), Sg W x (kdL l) → Sg W y (kdL l) → Calls Try.prog 13 #[x, y] W fun e w' => e = .returned (.bool true) ∧ Below W.heap.size W w') := fun W x y hx hy => by
    have := same_any x y _ _ W hx hy (by rw [kdL_len]; omega) (by rw [kdL_len]; omega)
    rwa [show (kdL l == kdL l) = true by simp] at this
  have HB : Hid (Below w.heap.size w w) := bl_refl w
  obtain ⟨n, hn⟩ : ∃ n, n = (kdL l).length := ⟨_, rfl⟩
  have HX : Hid (∀ (W : World) (g : Nat), Rw W g (kdL l) → Sg W (.slice (some ⟨g, 0, none⟩) n n) (kdL l)) := fun W g hr => by rw [hn]; exact rw_sg hr
  rw [← hn] at CK
  clear h hv hg hp hn
  go_enter Try.func3, Try.ntmps3
  go_wp2_with (first | (go_at_call 9; refine (CI.out _ HB.out).mono ?_; rintro e w1 ⟨u1, rfl, hs1, hb⟩; have HU : Hid (Sl w1 u1 l) := hs1; replace HB : Hid (Below w.heap.size w w1) := bl_via HB.out hb; clear hs1 hb) | (go_at_call 8; refine (CM.out _ _ HU.out).mono ?_; rintro e w1 ⟨rfl, hb⟩; replace HB : Hid (Below w.heap.size w w1) := bl_via HB.out hb; clear hb HU) | (go_at_call 10; refine (CK.out _ _ HU.out).mono ?_; rintro e w1 ⟨g, rfl, hr, hb⟩; have HR9 : Hid (Rw w1 g (kdL l)) := hr; replace HB : Hid (Below w.heap.size w w1) := bl_via HB.out hb; clear hb HU hr) | (go_at_call 11; refine (CO.out _ HB.out).mono ?_; rintro e w1 ⟨rfl, hb⟩; replace HB : Hid (Below w.heap.size w w1) := bl_via HB.out hb; replace HR9 := (show Hid (Rw w1 g (kdL l)) from HR9.out.kept hb); clear hb) | (go_at_call 12; refine (CG.out _ HB.out).mono ?_; rintro e w1 ⟨rfl, hb⟩; replace HB : Hid (Below w.heap.size w w1) := bl_via HB.out hb; replace HR9 := (show Hid (Rw w1 g (kdL l)) from HR9.out.kept hb); clear hb) | (go_at_call 14; refine (CS.out _ HB.out).mono ?_; rintro e w1 ⟨u9, rfl, hs9, hb⟩; replace HB : Hid (Below w.heap.size w w1) := bl_via HB.out hb; replace HR9 := (show Hid (Rw w1 g (kdL l)) from HR9.out.kept hb); have HU9 : Hid (Sl w1 u9 (kdL l)) := hs9; clear hb hs9) | (go_at_call 13; refine (CQ.out _ _ _ (HX.out _ _ HR9.out) HU9.out.sg).mono ?_; rintro e w1 ⟨rfl, hb⟩; replace HB : Hid (Below w.heap.size w w1) := bl_via HB.out hb; clear hb))
  go_ret
  exact ⟨rfl, HB.out⟩
theorem tell_any (a : Option Addr) (c : Nat) (l : List Int) (w : World) (hv : Sg w (.slice a l.length c) l) (hl : l.length ≤ 17592186044416) :
    Calls Try.prog 3 #[.slice a l.length c] w fun e w' => e = .returned (.bool true) ∧ Below w.heap.size w w' := by
  by_cases h : noV l = 0
  · cases hg : gdB l
    · exact tell_bad a c l w hv hl h hg
    · exact tell_ok a c l w hv hl h hg
  · exact tell_no a c l w hv hl h
end Go.Proofs.Ytdflindoemffaaa
