/- The functions of the disc that stand on the small ones: lies, kind, pierced, tangled; and the reference's small ones. -/
import Derived.Test.YtioajagblphbnaaLeaf
namespace Go.Proofs.Ytioajagblphbnaa
open Go.RowKit

set_option maxRecDepth 100000 in
theorem lies_any (a ha : Option Addr) (n cap j m hc : Nat) (w : World) (hn : 2 ≤ n) (hn8 : n ≤ 8) (hj : j < n) (_hm : m ≤ 8) :
    Calls Try.prog 26 #[.slice a n cap, .int .i64 (j : Int), .slice ha m hc] w fun e w' => e = .returned (.bool (liesB n m j)) ∧ Below w.heap.size w w' := by
  have CS : Hid (∀ W : World, Calls Try.prog 28 #[.slice a n cap, .int .i64 (j : Int)] W fun e w' => e = .returned (.tuple #[.int .i64 ((sA n j : Nat) : Int), .int .i64 (j : Int)]) ∧ Below W.heap.size W w') := fun W => sectors_any a n cap j W hn hn8 (by omega)
  have hs := sA_lt (j := j) hn
  obtain ⟨s, hs'⟩ : ∃ s, s = sA n j := ⟨_, rfl⟩
  have hB : liesB n m j = (decide (s < m) && decide (j < m)) := by rw [liesB, hs']
  rw [hB]
  rw [← hs'] at CS
  clear hs' hB hs
  go_enter Try.func26, Try.ntmps26
  go_wp2_with (go_at_call 28; refine (CS.out _).mono ?_; rintro e w1 ⟨rfl, hb⟩)
  all_goals
    go_ret
    refine ⟨ret_bool ?_, hb⟩
    rw [Bool.eq_iff_iff]
    simp [*]
set_option maxRecDepth 100000 in
set_option maxHeartbeats 800000 in
theorem kind_any (a : Option Addr) (n cap j g hc : Nat) (h : List Int) (w : World) (hr : Rw w g h) (hn : 2 ≤ n) (hn8 : n ≤ 8) (hj : j < n) (_hm : h.length ≤ 8) (hl : liesB n h.length j = true) :
    Calls Try.prog 29 #[.slice a n cap, .int .i64 (j : Int), .slice (some ⟨g, 0, none⟩) h.length hc] w fun e w' => e = .returned (.int .i64 (kindV n h j)) ∧ Below w.heap.size w w' := by
  have CS : Hid (∀ W : World, Calls Try.prog 28 #[.slice a n cap, .int .i64 (j : Int)] W fun e w' => e = .returned (.tuple #[.int .i64 ((sA n j : Nat) : Int), .int .i64 (j : Int)]) ∧ Below W.heap.size W w') := fun W => sectors_any a n cap j W hn hn8 (by omega)
  obtain ⟨la, lb⟩ := lies_iff.1 hl
  have HC : Hid (w.cell? ⟨g, sA n j, none⟩ = some (.int .i64 (gt h (sA n j))) ∧ w.cell? ⟨g, j, none⟩ = some (.int .i64 (gt h j))) := ⟨hr _ la, hr _ lb⟩
  obtain ⟨s, hs'⟩ : ∃ s, s = sA n j := ⟨_, rfl⟩
  obtain ⟨vs, hvs⟩ : ∃ v, v = gt h (sA n j) := ⟨_, rfl⟩
  obtain ⟨vj, hvj⟩ : ∃ v, v = gt h j := ⟨_, rfl⟩
  have hB : kindV n h j = if decide (vs < vj) = decide (s % 2 = 0) then 2 else 1 := by rw [kindV, hs', hvs, hvj]
  obtain ⟨kv, hkv⟩ : ∃ v, v = kindV n h j := ⟨_, rfl⟩
  have HK : Hid (kv = if decide (vs < vj) = decide (s % 2 = 0) then 2 else 1) := hkv.trans hB
  rw [← hkv]
  rw [← hvs, ← hvj, ← hs'] at HC
  rw [← hs'] at CS la
  have i1 : (s : Int) < (h.length : Int) := by omega
  have i2 : (j : Int) < (h.length : Int) := by omega
  have j1 : (0 : Int) ≤ (s : Int) := by omega
  have j2 : (0 : Int) ≤ (j : Int) := by omega
  have t1 := two_int s
  clear hs' hB hvs hvj hr hl la lb hkv
  go_enter Try.func29, Try.ntmps29
  go_wp2_with (go_at_call 28; refine (CS.out _).mono ?_; rintro e w1 ⟨rfl, hb⟩)
  have c1 := cl_kept hb HC.out.1
  have c2 := cl_kept hb HC.out.2
  have zg : g < w1.heap.size := World.block_lt_of_cell? _ _ c1
  have kc := Kin.cells w1
  have kn : Nonempty (Kin w1) := ⟨⟨w1, bl_refl _⟩⟩
  refine wp_region_kin (by kernel_rfl) (by kernel_rfl) ?_
  repeat (go_big_quiet_step (fail))
  refine wpQuiet_nil ?_
  intro wq hw'
  obtain ⟨nq, hw''⟩ := hw'
  have hq : Below w1.heap.size w1 wq := hw'' ▸ nq.h
  clear hw'' nq
  clear kc kn c1 c2
  have E1 : Hid (((s : Int) % 2 == 0) = decide (s % 2 = 0)) := by
    have e1 : ((s : Int) % 2 == 0) = decide (s % 2 = 0) := by
      rw [Bool.eq_iff_iff]
      simp
      omega
    exact e1
  go_wp2
  · rename_i q1
    go_ret
    refine ⟨ret_int ?_, bl_via hb hq⟩
    rw [HK.out, if_pos (by simpa [E1.out] using q1)]
  · rename_i q1
    go_ret
    refine ⟨ret_int ?_, bl_via hb hq⟩
    rw [HK.out, if_neg (by simpa [E1.out] using q1)]
set_option maxRecDepth 100000 in
set_option maxHeartbeats 800000 in
theorem pierced_any (g cap j k gh hc : Nat) (X h : List Int) (w : World) (hr : Rw w g X) (hrh : Rw w gh h) (h2 : 2 ≤ X.length) (h8 : X.length ≤ 8) (hj : j < X.length) (hh8 : h.length ≤ X.length) (hk : k < h.length) (hl : liesB X.length h.length j = true) :
    Calls Try.prog 27 #[.slice (some ⟨g, 0, none⟩) X.length cap, .int .i64 (j : Int), .int .i64 (k : Int), .slice (some ⟨gh, 0, none⟩) h.length hc] w fun e w' => e = .returned (.bool (piercedB X X.length h j k)) ∧ Below w.heap.size w w' := by
  obtain ⟨la, lb⟩ := lies_iff.1 hl
  have CS : Hid (∀ W : World, Calls Try.prog 28 #[.slice (some ⟨g, 0, none⟩) X.length cap, .int .i64 (j : Int)] W fun e w' => e = .returned (.tuple #[.int .i64 ((sA X.length j : Nat) : Int), .int .i64 (j : Int)]) ∧ Below W.heap.size W w') := fun W => sectors_any _ _ cap j W h2 h8 (by omega)
  have CP : Hid (∀ W : World, Below w.heap.size w W → Calls Try.prog 31 #[.slice (some ⟨g, 0, none⟩) X.length cap, .int .i64 (k : Int), .int .i64 (j : Int)] W fun e w' => e = .returned (.bool (pastB X X.length k j)) ∧ Below W.heap.size W w') := fun W hW => past_any g cap X k j W (hr.kept hW) h2 h8 (by omega) hj
  have CB : Hid (∀ W : World, Below w.heap.size w W → Calls Try.prog 32 #[.slice (some ⟨gh, 0, none⟩) h.length hc, .int .i64 (k : Int), .int .i64 ((sA X.length j : Nat) : Int), .int .i64 (j : Int)] W fun e w' => e = .returned (.bool (btw h k (sA X.length j) j)) ∧ Below W.heap.size W w') := fun W hW => between_any gh hc h k _ j W (hrh.kept hW) (by omega) hk la lb
  unfold piercedB
  generalize sA X.length j = s at *
  clear la lb hl hr hrh
  obtain ⟨b1, hb1⟩ : ∃ b, b = pastB X X.length k j := ⟨_, rfl⟩
  obtain ⟨b2, hb2⟩ : ∃ b, b = btw h k s j := ⟨_, rfl⟩
  rw [← hb1] at CP ⊢
  rw [← hb2] at CB ⊢
  clear hb1 hb2
  go_enter Try.func27, Try.ntmps27
  cases b1
  · go_wp2_with (first | (go_at_call 28; refine (CS.out _).mono ?_; rintro e w1 ⟨rfl, hb⟩) | (go_at_call 31; refine (CP.out _ hb).mono ?_; rintro e w2 ⟨rfl, hb2⟩))
    go_ret
    exact ⟨rfl, bl_via hb hb2⟩
  · go_wp2_with (first | (go_at_call 28; refine (CS.out _).mono ?_; rintro e w1 ⟨rfl, hb⟩) | (go_at_call 31; refine (CP.out _ hb).mono ?_; rintro e w2 ⟨rfl, hb2⟩) | (go_at_call 32; refine (CB.out _ (bl_via hb hb2)).mono ?_; rintro e w3 ⟨rfl, hb3⟩))
    go_ret
    exact ⟨ret_bool (by cases b2 <;> rfl), bl_via hb (bl_via hb2 hb3)⟩
set_option maxRecDepth 100000 in
set_option maxHeartbeats 800000 in
theorem tangled_any (a : Option Addr) (n cap i j gh hc : Nat) (h : List Int) (w : World) (hrh : Rw w gh h) (h2 : 2 ≤ n) (h8 : n ≤ 8) (hi : i < n) (hj : j < n) (hh8 : h.length ≤ n) (hl : liesB n h.length j = true) (hli : liesB n h.length i = true) :
    Calls Try.prog 34 #[.slice a n cap, .int .i64 (i : Int), .int .i64 (j : Int), .slice (some ⟨gh, 0, none⟩) h.length hc] w fun e w' => e = .returned (.bool (tangledB n h i j)) ∧ Below w.heap.size w w' := by
  obtain ⟨la, lb⟩ := lies_iff.1 hl
  obtain ⟨ka, kb⟩ := lies_iff.1 hli
  have CS : Hid (∀ W : World, Calls Try.prog 28 #[.slice a n cap, .int .i64 (i : Int)] W fun e w' => e = .returned (.tuple #[.int .i64 ((sA n i : Nat) : Int), .int .i64 (i : Int)]) ∧ Below W.heap.size W w') := fun W => sectors_any _ _ cap i W h2 h8 (by omega)
  have CT : Hid (∀ W : World, Calls Try.prog 28 #[.slice a n cap, .int .i64 (j : Int)] W fun e w' => e = .returned (.tuple #[.int .i64 ((sA n j : Nat) : Int), .int .i64 (j : Int)]) ∧ Below W.heap.size W w') := fun W => sectors_any _ _ cap j W h2 h8 (by omega)
  have CB : Hid (∀ W : World, Below w.heap.size w W → Calls Try.prog 32 #[.slice (some ⟨gh, 0, none⟩) h.length hc, .int .i64 ((sA n i : Nat) : Int), .int .i64 ((sA n j : Nat) : Int), .int .i64 (j : Int)] W fun e w' => e = .returned (.bool (btw h (sA n i) (sA n j) j)) ∧ Below W.heap.size W w') := fun W hW => between_any gh hc h _ _ j W (hrh.kept hW) (by omega) ka la lb
  have CD : Hid (∀ W : World, Below w.heap.size w W → Calls Try.prog 32 #[.slice (some ⟨gh, 0, none⟩) h.length hc, .int .i64 (i : Int), .int .i64 ((sA n j : Nat) : Int), .int .i64 (j : Int)] W fun e w' => e = .returned (.bool (btw h i (sA n j) j)) ∧ Below W.heap.size W w') := fun W hW => between_any gh hc h _ _ j W (hrh.kept hW) (by omega) kb la lb
  unfold tangledB
  generalize sA n j = s at *
  generalize sA n i = r at *
  clear la lb ka kb hl hli hrh
  obtain ⟨b1, hb1⟩ : ∃ b, b = btw h r s j := ⟨_, rfl⟩
  obtain ⟨b2, hb2⟩ : ∃ b, b = btw h i s j := ⟨_, rfl⟩
  rw [← hb1] at CB ⊢
  rw [← hb2] at CD ⊢
  clear hb1 hb2
  go_enter Try.func34, Try.ntmps34
  go_wp2_with (first | (go_at_call 28; first | (with_reducible refine (CS.out _).mono ?_; rintro e w1 ⟨rfl, hb⟩) | (refine (CT.out _).mono ?_; rintro e w2 ⟨rfl, hb2⟩)) | (go_at_call 32; first | (with_reducible refine (CB.out _ (bl_via hb hb2)).mono ?_; rintro e w3 ⟨rfl, hb3⟩) | (refine (CD.out _ (bl_via hb (bl_via hb2 hb3))).mono ?_; rintro e w4 ⟨rfl, hb4⟩)))
  go_ret
  exact ⟨rfl, bl_via hb (bl_via hb2 (bl_via hb3 hb4))⟩
end Go.Proofs.Ytioajagblphbnaa
