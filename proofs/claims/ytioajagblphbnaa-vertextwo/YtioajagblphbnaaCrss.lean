/- crossed and good: is all well at the creases of which both sectors lie? -/
import Derived.Test.YtioajagblphbnaaLea2
namespace Go.Proofs.Ytioajagblphbnaa
open Go.RowKit

set_option maxRecDepth 100000 in
set_option maxHeartbeats 1600000 in
theorem crossed_any (g cap j gh hc : Nat) (X h : List Int) (w : World) (hr : Rw w g X) (hrh : Rw w gh h) (h2 : 2 ≤ X.length) (h8 : X.length ≤ 8) (hj : j < X.length) (hh8 : h.length ≤ X.length) (hl : liesB X.length h.length j = true) :
    Calls Try.prog 30 #[.slice (some ⟨g, 0, none⟩) X.length cap, .int .i64 (j : Int), .slice (some ⟨gh, 0, none⟩) h.length hc] w fun e w' => e = .returned (.bool (crossedB X X.length h j)) ∧ Below w.heap.size w w' := by
  have CP : Hid (∀ (W : World) (k : Nat), Below w.heap.size w W → k < h.length → Calls Try.prog 27 #[.slice (some ⟨g, 0, none⟩) X.length cap, .int .i64 (j : Int), .int .i64 (k : Int), .slice (some ⟨gh, 0, none⟩) h.length hc] W fun e w' => e = .returned (.bool (piercedB X X.length h j k)) ∧ Below W.heap.size W w') := fun W k hW hk => pierced_any g cap j k gh hc X h W (hr.kept hW) (hrh.kept hW) h2 h8 hj hh8 hk hl
  have CM : Hid (∀ (W : World) (i : Nat), Below w.heap.size w W → i < X.length → Calls Try.prog 33 #[.slice (some ⟨g, 0, none⟩) X.length cap, .int .i64 (i : Int), .int .i64 (j : Int)] W fun e w' => e = .returned (.bool (meetB X i j)) ∧ Below W.heap.size W w') := fun W i hW hi => meet_any g cap X i j W (hr.kept hW) h8 hi hj
  have CL : Hid (∀ (W : World) (i : Nat), i < X.length → Calls Try.prog 26 #[.slice (some ⟨g, 0, none⟩) X.length cap, .int .i64 (i : Int), .slice (some ⟨gh, 0, none⟩) h.length hc] W fun e w' => e = .returned (.bool (liesB X.length h.length i)) ∧ Below W.heap.size W w') := fun W i hi => lies_any _ _ _ cap i _ hc W h2 h8 hi (by omega)
  have CT : Hid (∀ (W : World) (i : Nat), Below w.heap.size w W → i < X.length → liesB X.length h.length i = true → Calls Try.prog 34 #[.slice (some ⟨g, 0, none⟩) X.length cap, .int .i64 (i : Int), .int .i64 (j : Int), .slice (some ⟨gh, 0, none⟩) h.length hc] W fun e w' => e = .returned (.bool (tangledB X.length h i j)) ∧ Below W.heap.size W w') := fun W i hW hi hli => tangled_any _ _ cap i j gh hc h W (hrh.kept hW) h2 h8 hi hj hh8 hl hli
  obtain ⟨cv, hcv⟩ : ∃ b, b = crossedB X X.length h j := ⟨_, rfl⟩
  have HV : Hid (cv = (((List.range h.length).any fun k => piercedB X X.length h j k) || ((List.range X.length).any fun i => meetB X i j && (liesB X.length h.length i && tangledB X.length h i j)))) := hcv
  rw [← hcv]
  clear hcv hr hrh hl
  go_enter Try.func30, Try.ntmps30
  go_wp2
  go_loopg [11] h.length (fun gk s11 wx => ∃ i : Nat, i ≤ h.length ∧ gk = h.length - i ∧ s11 = .int .i64 (i : Int) ∧ Below w.heap.size w wx ∧ ∀ k, k < i → piercedB X X.length h j k = false)
  case atStart => exact ⟨0, by omega, rfl, rfl, bl_refl _, fun k hk => by omega⟩
  case round =>
    obtain ⟨i, hi, rfl, rfl, hB, hno⟩ := hrel
    have HB : Hid (Below w.heap.size w wr ∧ ∀ k, k < i → piercedB X X.length h j k = false) := ⟨hB, hno⟩
    clear hB hno
    by_cases h1 : i < h.length
    · have i1 : (i : Int) < (h.length : Int) := by omega
      obtain ⟨pb, hpb⟩ : ∃ b, b = piercedB X X.length h j i := ⟨_, rfl⟩
      have HP : Hid (pb = piercedB X X.length h j i) := hpb
      have C1 : Hid (Calls Try.prog 27 #[.slice (some ⟨g, 0, none⟩) X.length cap, .int .i64 (j : Int), .int .i64 (i : Int), .slice (some ⟨gh, 0, none⟩) h.length hc] wr fun e w' => e = .returned (.bool pb) ∧ Below wr.heap.size wr w') := by
        rw [hpb]
        exact CP.out wr i HB.out.1 h1
      clear hpb
      cases pb
      · go_wp2_with (go_at_call 27; refine C1.out.mono ?_; rintro e w1 ⟨rfl, hb⟩)
        go_roundg (h.length - (i + 1))
        case measure => omega
        case rel =>
          refine ⟨i + 1, by omega, rfl, by go_num, bl_via HB.out.1 hb, fun k hk => ?_⟩
          by_cases hki : k < i
          · exact HB.out.2 k hki
          · have : k = i := by omega
            rw [this]
            exact HP.out.symm
      · go_wp2_with (go_at_call 27; refine C1.out.mono ?_; rintro e w1 ⟨rfl, hb⟩)
        go_ret
        refine ⟨ret_bool ?_, bl_via HB.out.1 hb⟩
        rw [HV.out, Bool.eq_iff_iff]
        simp only [Bool.or_eq_true, List.any_eq_true, true_iff]
        exact Or.inl ⟨i, List.mem_range.2 h1, HP.out.symm⟩
    · have i1 : ¬ (i : Int) < (h.length : Int) := by omega
      obtain rfl : i = h.length := by omega
      have HN : Hid (((List.range h.length).any fun k => piercedB X X.length h j k) = false) := by
        have : ((List.range h.length).any fun k => piercedB X X.length h j k) = false := by
          rw [List.any_eq_false]
          intro k hk
          simp [HB.out.2 k (List.mem_range.1 hk)]
        exact this
      go_wp2
      go_loopg [22] X.length (fun gk s22 wx => ∃ i : Nat, i ≤ X.length ∧ gk = X.length - i ∧ s22 = .int .i64 (i : Int) ∧ Below w.heap.size w wx ∧ ∀ k, k < i → (meetB X k j && (liesB X.length h.length k && tangledB X.length h k j)) = false)
      case atStart => exact ⟨0, by omega, rfl, rfl, HB.out.1, fun k hk => by omega⟩
      case round =>
        clear HB
        obtain ⟨i, hi, rfl, rfl, hB, hno⟩ := hrel
        have HB : Hid (Below w.heap.size w wr ∧ ∀ k, k < i → (meetB X k j && (liesB X.length h.length k && tangledB X.length h k j)) = false) := ⟨hB, hno⟩
        clear hB hno
        by_cases h1 : i < X.length
        · have i1 : (i : Int) < (X.length : Int) := by omega
          obtain ⟨mb, hmb⟩ : ∃ b, b = meetB X i j := ⟨_, rfl⟩
          obtain ⟨lb, hlb⟩ : ∃ b, b = liesB X.length h.length i := ⟨_, rfl⟩
          obtain ⟨tb, htb⟩ : ∃ b, b = tangledB X.length h i j := ⟨_, rfl⟩
          have HP : Hid (mb = meetB X i j ∧ lb = liesB X.length h.length i ∧ tb = tangledB X.length h i j) := ⟨hmb, hlb, htb⟩
          have C1 : Hid (∀ W : World, Below w.heap.size w W → Calls Try.prog 33 #[.slice (some ⟨g, 0, none⟩) X.length cap, .int .i64 (i : Int), .int .i64 (j : Int)] W fun e w' => e = .returned (.bool mb) ∧ Below W.heap.size W w') := fun W hW => by
            rw [hmb]
            exact CM.out W i hW h1
          have C2 : Hid (∀ W : World, Calls Try.prog 26 #[.slice (some ⟨g, 0, none⟩) X.length cap, .int .i64 (i : Int), .slice (some ⟨gh, 0, none⟩) h.length hc] W fun e w' => e = .returned (.bool lb) ∧ Below W.heap.size W w') := fun W => by
            rw [hlb]
            exact CL.out W i h1
          have C3 : Hid (lb = true → ∀ W : World, Below w.heap.size w W → Calls Try.prog 34 #[.slice (some ⟨g, 0, none⟩) X.length cap, .int .i64 (i : Int), .int .i64 (j : Int), .slice (some ⟨gh, 0, none⟩) h.length hc] W fun e w' => e = .returned (.bool tb) ∧ Below W.heap.size W w') := fun hl W hW => by
            rw [htb]
            exact CT.out W i hW h1 (hlb.symm.trans hl)
          clear hmb hlb htb CP CM CL CT
          have HB1 : Hid (Below w.heap.size w wr) := HB.out.1
          cases mb
          · go_wp2_with (go_at_call 33; refine (C1.out _ HB1.out).mono ?_; rintro e w1 ⟨rfl, hb⟩)
            go_roundg (X.length - (i + 1))
            case measure => omega
            case rel =>
              refine ⟨i + 1, by omega, rfl, by go_num, bl_via HB.out.1 hb, fun k hk => ?_⟩
              by_cases hki : k < i
              · exact HB.out.2 k hki
              · have : k = i := by omega
                rw [this, ← HP.out.1]
                rfl
          · cases lb
            · go_wp2_with (first | (go_at_call 33; refine (C1.out _ HB1.out).mono ?_; rintro e w1 ⟨rfl, hb⟩) | (go_at_call 26; refine (C2.out _).mono ?_; rintro e w2 ⟨rfl, hb2⟩))
              go_roundg (X.length - (i + 1))
              case measure => omega
              case rel =>
                refine ⟨i + 1, by omega, rfl, by go_num, bl_via HB.out.1 (bl_via hb hb2), fun k hk => ?_⟩
                by_cases hki : k < i
                · exact HB.out.2 k hki
                · have : k = i := by omega
                  rw [this, ← HP.out.1, ← HP.out.2.1]
                  rfl
            · have C4 : Hid (∀ W : World, Below w.heap.size w W → Calls Try.prog 34 #[.slice (some ⟨g, 0, none⟩) X.length cap, .int .i64 (i : Int), .int .i64 (j : Int), .slice (some ⟨gh, 0, none⟩) h.length hc] W fun e w' => e = .returned (.bool tb) ∧ Below W.heap.size W w') := C3.out rfl
              clear C3
              cases tb
              · go_wp2_with (first | (go_at_call 33; refine (C1.out _ HB1.out).mono ?_; rintro e w1 ⟨rfl, hb⟩) | (go_at_call 26; refine (C2.out _).mono ?_; rintro e w2 ⟨rfl, hb2⟩) | (go_at_call 34; refine (C4.out _ (bl_via HB1.out (bl_via hb hb2))).mono ?_; rintro e w3 ⟨rfl, hb3⟩))
                go_roundg (X.length - (i + 1))
                case measure => omega
                case rel =>
                  refine ⟨i + 1, by omega, rfl, by go_num, bl_via HB.out.1 (bl_via hb (bl_via hb2 hb3)), fun k hk => ?_⟩
                  by_cases hki : k < i
                  · exact HB.out.2 k hki
                  · have : k = i := by omega
                    rw [this, ← HP.out.1, ← HP.out.2.1, ← HP.out.2.2]
                    rfl
              · go_wp2_with (first | (go_at_call 33; refine (C1.out _ HB1.out).mono ?_; rintro e w1 ⟨rfl, hb⟩) | (go_at_call 26; refine (C2.out _).mono ?_; rintro e w2 ⟨rfl, hb2⟩) | (go_at_call 34; refine (C4.out _ (bl_via HB1.out (bl_via hb hb2))).mono ?_; rintro e w3 ⟨rfl, hb3⟩))
                go_ret
                refine ⟨ret_bool ?_, bl_via HB.out.1 (bl_via hb (bl_via hb2 hb3))⟩
                rw [HV.out, Bool.eq_iff_iff]
                simp only [Bool.or_eq_true, List.any_eq_true, true_iff]
                refine Or.inr ⟨i, List.mem_range.2 h1, ?_⟩
                rw [← HP.out.1, ← HP.out.2.1, ← HP.out.2.2]
                rfl
        · have i1 : ¬ (i : Int) < (X.length : Int) := by omega
          obtain rfl : i = X.length := by omega
          go_wp2
          go_ret
          refine ⟨ret_bool ?_, HB.out.1⟩
          rw [HV.out, HN.out, Bool.false_or]
          symm
          rw [List.any_eq_false]
          intro k hk
          simp only [HB.out.2 k (List.mem_range.1 hk)]
          simp
end Go.Proofs.Ytioajagblphbnaa
