/- The search: sectors that do not lie yet are laid among those that do. -/
import Derived.Test.YtioajagblphbnaaGood
import Derived.Test.YtioajagblphbnaaLaid
namespace Go.Proofs.Ytioajagblphbnaa
open Go.RowKit

set_option maxRecDepth 100000 in
set_option maxHeartbeats 800000 in
theorem goesOn_any (g cap gk kc' : Nat) (X ks : List Int) (hkl : ks.length = X.length) (h2 : 2 ≤ X.length) (h8 : X.length ≤ 8) : ∀ (f : Nat) (h : List Int) (v : Value) (w : World), h.length + f = X.length → Hts h → Sl w v h → Rw w g X → Rw w gk ks →
    Calls Try.prog 22 #[.slice (some ⟨g, 0, none⟩) X.length cap, .slice (some ⟨gk, 0, none⟩) X.length kc', v] w fun e w' => e = .returned (.bool (goF X X.length ks f h)) ∧ Below w.heap.size w w'
  | 0, h, v, w, hl, hH, hS, hX, hK => by
    obtain ⟨a, c, rfl, hR⟩ := sl_meet hS
    have e1 : h.length = X.length := by omega
    clear hS hR hX hK hH
    have q : ((h.length : Int) == (X.length : Int)) = true := by rw [e1]; simp
    rw [e1]
    rw [e1] at q
    clear e1 hl
    go_enter Try.func22, Try.ntmps22
    go_wp2
    go_ret
    exact ⟨rfl, bl_refl _⟩
  | f + 1, h, v, w, hl, hH, hS, hX, hK => by
    obtain ⟨a, c, rfl, _⟩ := sl_meet hS
    have CL : Hid (∀ (W : World) (t : Nat), Below w.heap.size w W → t ≤ h.length → Calls Try.prog 24 #[.slice a h.length c, .int .i64 (t : Int)] W fun e w' => ∃ g cap, e = .returned (.slice (some ⟨g, 0, none⟩) (laidL h (t : Int)).length cap) ∧ Rw w' g (laidL h (t : Int)) ∧ Below W.heap.size W w') := fun W t hW ht => laid_any _ h t W (hS.kept hW) (by omega) (by omega) (fun i hi => by have := hH.2 i hi; omega)
    have CG : Hid (∀ (W : World) (t gh hc : Nat), Below w.heap.size w W → Rw W gh (laidL h (t : Int)) → t ≤ h.length → Calls Try.prog 25 #[.slice (some ⟨g, 0, none⟩) X.length cap, .slice (some ⟨gk, 0, none⟩) X.length kc', .slice (some ⟨gh, 0, none⟩) (laidL h (t : Int)).length hc] W fun e w' => e = .returned (.bool (goodB X X.length ks (laidL h (t : Int)))) ∧ Below W.heap.size W w') := fun W t gh hc hW hr ht => good_any g cap gk kc' gh hc h.length X ks _ W (hX.kept hW) (hK.kept hW) hr hkl h2 h8 (by rw [laid_len]; omega) (laid_len _ _)
    have CO : Hid (∀ (W : World) (t gh hc : Nat), Below w.heap.size w W → Rw W gh (laidL h (t : Int)) → t ≤ h.length → Calls Try.prog 22 #[.slice (some ⟨g, 0, none⟩) X.length cap, .slice (some ⟨gk, 0, none⟩) X.length kc', .slice (some ⟨gh, 0, none⟩) (laidL h (t : Int)).length hc] W fun e w' => e = .returned (.bool (goF X X.length ks f (laidL h (t : Int)))) ∧ Below W.heap.size W w') := fun W t gh hc hW hr ht => goesOn_any g cap gk kc' X ks hkl h2 h8 f _ _ W (by rw [laid_len]; omega) (hH.laid ht) (Or.inr ⟨gh, hc, rfl, hr⟩) (hX.kept hW) (hK.kept hW)
    obtain ⟨gv, hgv⟩ : ∃ b, b = goF X X.length ks (f + 1) h := ⟨_, rfl⟩
    have HV : Hid (gv = ((List.range (h.length + 1)).any fun t => goodB X X.length ks (laidL h (t : Int)) && goF X X.length ks f (laidL h (t : Int)))) := hgv
    rw [← hgv]
    have q : ((h.length : Int) == (X.length : Int)) = false := by
      rw [beq_eq_false_iff_ne]
      omega
    have hlt : h.length < 8 := by omega
    clear hgv hS hH hX hK hl
    go_enter Try.func22, Try.ntmps22
    go_wp2
    go_loopg [17] (h.length + 1) (fun gk s17 wx => ∃ i : Nat, i ≤ h.length + 1 ∧ gk = h.length + 1 - i ∧ s17 = .int .i64 (i : Int) ∧ Below w.heap.size w wx ∧ ∀ t : Nat, t < i → (goodB X X.length ks (laidL h (t : Int)) && goF X X.length ks f (laidL h (t : Int))) = false)
    case atStart => exact ⟨0, by omega, rfl, rfl, bl_refl _, fun k hk => by omega⟩
    case round =>
      obtain ⟨i, hi, rfl, rfl, hB, hno⟩ := hrel
      have HB : Hid (Below w.heap.size w wr ∧ ∀ t : Nat, t < i → (goodB X X.length ks (laidL h (t : Int)) && goF X X.length ks f (laidL h (t : Int))) = false) := ⟨hB, hno⟩
      clear hB hno
      by_cases h1 : i < h.length + 1
      · have i1 : (i : Int) < (h.length : Int) + 1 := by omega
        obtain ⟨N, hN⟩ : ∃ N, N = laidL h (i : Int) := ⟨_, rfl⟩
        have C1 : Hid (∀ (W : World), Below w.heap.size w W → Calls Try.prog 24 #[.slice a h.length c, .int .i64 (i : Int)] W fun e w' => ∃ g cap, e = .returned (.slice (some ⟨g, 0, none⟩) N.length cap) ∧ Rw w' g N ∧ Below W.heap.size W w') := fun W hW => by
          rw [hN]
          exact CL.out W i hW (by omega)
        obtain ⟨gb, hgb⟩ : ∃ b, b = goodB X X.length ks N := ⟨_, rfl⟩
        obtain ⟨ob, hob⟩ : ∃ b, b = goF X X.length ks f N := ⟨_, rfl⟩
        have C2 : Hid (∀ (W : World) (gh hc : Nat), Below w.heap.size w W → Rw W gh N → Calls Try.prog 25 #[.slice (some ⟨g, 0, none⟩) X.length cap, .slice (some ⟨gk, 0, none⟩) X.length kc', .slice (some ⟨gh, 0, none⟩) N.length hc] W fun e w' => e = .returned (.bool gb) ∧ Below W.heap.size W w') := fun W gh hc hW hr => by
          rw [hgb, hN]
          rw [hN] at hr
          exact CG.out W i gh hc hW hr (by omega)
        have C3 : Hid (∀ (W : World) (gh hc : Nat), Below w.heap.size w W → Rw W gh N → Calls Try.prog 22 #[.slice (some ⟨g, 0, none⟩) X.length cap, .slice (some ⟨gk, 0, none⟩) X.length kc', .slice (some ⟨gh, 0, none⟩) N.length hc] W fun e w' => e = .returned (.bool ob) ∧ Below W.heap.size W w') := fun W gh hc hW hr => by
          rw [hob, hN]
          rw [hN] at hr
          exact CO.out W i gh hc hW hr (by omega)
        have HQ : Hid ((goodB X X.length ks (laidL h (i : Int)) && goF X X.length ks f (laidL h (i : Int))) = (gb && ob)) := by
          have : (goodB X X.length ks (laidL h (i : Int)) && goF X X.length ks f (laidL h (i : Int))) = (gb && ob) := by rw [hgb, hob, hN]
          exact this
        clear hN hgb hob CL CG CO
        have HB1 : Hid (Below w.heap.size w wr) := HB.out.1
        cases gb
        · go_wp2_with (first | (go_at_call 24; refine (C1.out _ HB1.out).mono ?_; rintro e w1 ⟨gh, hc, rfl, hrw, hb⟩; have HR1 : Hid (Rw w1 gh N ∧ Below wr.heap.size wr w1) := ⟨hrw, hb⟩; clear hrw hb) | (go_at_call 25; refine (C2.out _ _ _ (bl_via HB1.out HR1.out.2) HR1.out.1).mono ?_; rintro e w2 ⟨rfl, hb2⟩))
          go_roundg (h.length + 1 - (i + 1))
          case measure => omega
          case rel =>
            refine ⟨i + 1, by omega, rfl, by go_num, bl_via HB.out.1 (bl_via HR1.out.2 hb2), fun k hk => ?_⟩
            by_cases hki : k < i
            · exact HB.out.2 k hki
            · have : k = i := by omega
              rw [this, HQ.out]
              rfl
        · cases ob
          · go_wp2_with (first | (go_at_call 24; refine (C1.out _ HB1.out).mono ?_; rintro e w1 ⟨gh, hc, rfl, hrw, hb⟩; have HR1 : Hid (Rw w1 gh N ∧ Below wr.heap.size wr w1) := ⟨hrw, hb⟩; clear hrw hb) | (go_at_call 25; refine (C2.out _ _ _ (bl_via HB1.out HR1.out.2) HR1.out.1).mono ?_; rintro e w2 ⟨rfl, hb2⟩) | (go_at_call 22; refine (C3.out _ _ _ (bl_via HB1.out (bl_via HR1.out.2 hb2)) (HR1.out.1.kept hb2)).mono ?_; rintro e w3 ⟨rfl, hb3⟩))
            go_roundg (h.length + 1 - (i + 1))
            case measure => omega
            case rel =>
              refine ⟨i + 1, by omega, rfl, by go_num, bl_via HB.out.1 (bl_via HR1.out.2 (bl_via hb2 hb3)), fun k hk => ?_⟩
              by_cases hki : k < i
              · exact HB.out.2 k hki
              · have : k = i := by omega
                rw [this, HQ.out]
                rfl
          · go_wp2_with (first | (go_at_call 24; refine (C1.out _ HB1.out).mono ?_; rintro e w1 ⟨gh, hc, rfl, hrw, hb⟩; have HR1 : Hid (Rw w1 gh N ∧ Below wr.heap.size wr w1) := ⟨hrw, hb⟩; clear hrw hb) | (go_at_call 25; refine (C2.out _ _ _ (bl_via HB1.out HR1.out.2) HR1.out.1).mono ?_; rintro e w2 ⟨rfl, hb2⟩) | (go_at_call 22; refine (C3.out _ _ _ (bl_via HB1.out (bl_via HR1.out.2 hb2)) (HR1.out.1.kept hb2)).mono ?_; rintro e w3 ⟨rfl, hb3⟩))
            go_ret
            refine ⟨ret_bool ?_, bl_via HB.out.1 (bl_via HR1.out.2 (bl_via hb2 hb3))⟩
            rw [HV.out]
            symm
            rw [List.any_eq_true]
            exact ⟨i, List.mem_range.2 h1, by rw [HQ.out]; rfl⟩
      · have i1 : ¬ (i : Int) < (h.length : Int) + 1 := by omega
        obtain rfl : i = h.length + 1 := by omega
        go_wp2
        go_ret
        refine ⟨ret_bool ?_, HB.out.1⟩
        rw [HV.out]
        symm
        rw [List.any_eq_false]
        intro k hk
        simp only [HB.out.2 k (List.mem_range.1 hk)]
        simp
theorem goes_any (g cap gk kc' : Nat) (X ks : List Int) (w : World) (hkl : ks.length = X.length) (h2 : 2 ≤ X.length) (h8 : X.length ≤ 8) (hX : Rw w g X) (hK : Rw w gk ks) :
    Calls Try.prog 15 #[.slice (some ⟨g, 0, none⟩) X.length cap, .slice (some ⟨gk, 0, none⟩) X.length kc'] w fun e w' => e = .returned (.bool (goF X X.length ks X.length [])) ∧ Below w.heap.size w w' := by
  have C : Hid (∀ W : World, Below w.heap.size w W → Calls Try.prog 22 #[.slice (some ⟨g, 0, none⟩) X.length cap, .slice (some ⟨gk, 0, none⟩) X.length kc', .slice none 0 0] W fun e w' => e = .returned (.bool (goF X X.length ks X.length [])) ∧ Below W.heap.size W w') := fun W hW => goesOn_any g cap gk kc' X ks hkl h2 h8 X.length [] _ W (by simp) hts_nil (Or.inl ⟨rfl, rfl⟩) (hX.kept hW) (hK.kept hW)
  clear hX hK
  go_enter Try.func15, Try.ntmps15
  go_wp2_with (go_at_call 22; refine (C.out _ (bl_refl _)).mono ?_; rintro e w1 ⟨rfl, hb⟩)
  go_ret
  exact ⟨rfl, hb⟩
end Go.Proofs.Ytioajagblphbnaa
