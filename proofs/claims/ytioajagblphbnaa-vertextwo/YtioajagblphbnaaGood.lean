/- good: is all well at the creases of which both sectors lie, if it was so without the last sector? -/
import Derived.Test.YtioajagblphbnaaCrss
namespace Go.Proofs.Ytioajagblphbnaa
open Go.RowKit

set_option maxRecDepth 100000 in
set_option maxHeartbeats 600000 in
theorem good_any (g cap gk kc' gh hc m : Nat) (X ks h : List Int) (w : World) (hr : Rw w g X) (hrk : Rw w gk ks) (hrh : Rw w gh h) (hkl : ks.length = X.length) (h2 : 2 ≤ X.length) (h8 : X.length ≤ 8) (hh8 : h.length ≤ X.length) (hm : h.length = m + 1) :
    Calls Try.prog 25 #[.slice (some ⟨g, 0, none⟩) X.length cap, .slice (some ⟨gk, 0, none⟩) X.length kc', .slice (some ⟨gh, 0, none⟩) h.length hc] w fun e w' => e = .returned (.bool (goodB X X.length ks h)) ∧ Below w.heap.size w w' := by
  have CL : Hid (∀ (W : World) (i : Nat), i < X.length → Calls Try.prog 26 #[.slice (some ⟨g, 0, none⟩) X.length cap, .int .i64 (i : Int), .slice (some ⟨gh, 0, none⟩) h.length hc] W fun e w' => e = .returned (.bool (liesB X.length h.length i)) ∧ Below W.heap.size W w') := fun W i hi => lies_any _ _ _ cap i _ hc W h2 h8 hi (by omega)
  have CP : Hid (∀ (W : World) (j : Nat), Below w.heap.size w W → j < X.length → liesB X.length h.length j = true → Calls Try.prog 27 #[.slice (some ⟨g, 0, none⟩) X.length cap, .int .i64 (j : Int), .int .i64 (m : Int), .slice (some ⟨gh, 0, none⟩) h.length hc] W fun e w' => e = .returned (.bool (piercedB X X.length h j m)) ∧ Below W.heap.size W w') := fun W j hW hj hl => pierced_any g cap j m gh hc X h W (hr.kept hW) (hrh.kept hW) h2 h8 hj hh8 (by omega) hl
  have CS : Hid (∀ (W : World) (j : Nat), j < X.length → Calls Try.prog 28 #[.slice (some ⟨g, 0, none⟩) X.length cap, .int .i64 (j : Int)] W fun e w' => e = .returned (.tuple #[.int .i64 ((sA X.length j : Nat) : Int), .int .i64 (j : Int)]) ∧ Below W.heap.size W w') := fun W j hj => sectors_any _ _ cap j W h2 h8 (by omega)
  have CK : Hid (∀ (W : World) (j : Nat), Below w.heap.size w W → j < X.length → liesB X.length h.length j = true → Calls Try.prog 29 #[.slice (some ⟨g, 0, none⟩) X.length cap, .int .i64 (j : Int), .slice (some ⟨gh, 0, none⟩) h.length hc] W fun e w' => e = .returned (.int .i64 (kindV X.length h j)) ∧ Below W.heap.size W w') := fun W j hW hj hl => kind_any _ _ cap j gh hc h W (hrh.kept hW) h2 h8 hj (by omega) hl
  have CC : Hid (∀ (W : World) (j : Nat), Below w.heap.size w W → j < X.length → liesB X.length h.length j = true → Calls Try.prog 30 #[.slice (some ⟨g, 0, none⟩) X.length cap, .int .i64 (j : Int), .slice (some ⟨gh, 0, none⟩) h.length hc] W fun e w' => e = .returned (.bool (crossedB X X.length h j)) ∧ Below W.heap.size W w') := fun W j hW hj hl => crossed_any g cap j gh hc X h W (hr.kept hW) (hrh.kept hW) h2 h8 hj hh8 hl
  have HK : Hid (Rw w gk ks) := hrk
  have hlast : (h.length : Int) - 1 = (m : Int) := by omega
  have hlt : h.length - 1 = m := by omega
  have HLT : Hid (h.length - 1 = m) := hlt
  obtain ⟨gv, hgv⟩ : ∃ b, b = goodB X X.length ks h := ⟨_, rfl⟩
  have HV : Hid (gv = goodB X X.length ks h) := hgv
  rw [← hgv]
  have HKL : Hid (ks.length = X.length) := hkl
  clear hgv hr hrk hrh hlt hm hkl
  go_enter Try.func25, Try.ntmps25
  go_wp2
  go_loopg [16] X.length (fun gk s16 wx => ∃ i : Nat, i ≤ X.length ∧ gk = X.length - i ∧ s16 = .int .i64 (i : Int) ∧ Below w.heap.size w wx ∧ ∀ k, k < i → well X X.length ks h k = true)
  case atStart => exact ⟨0, by omega, rfl, rfl, bl_refl _, fun k hk => by omega⟩
  case round =>
    obtain ⟨i, hi, rfl, rfl, hB, hno⟩ := hrel
    have HB : Hid (Below w.heap.size w wr ∧ ∀ k, k < i → well X X.length ks h k = true) := ⟨hB, hno⟩
    clear hB hno
    by_cases h1 : i < X.length
    · have i1 : (i : Int) < (X.length : Int) := by omega
      have i0 : (0 : Int) ≤ (i : Int) := by omega
      obtain ⟨lb, hlb⟩ : ∃ b, b = liesB X.length h.length i := ⟨_, rfl⟩
      have HB1 : Hid (Below w.heap.size w wr) := HB.out.1
      have C1 : Hid (∀ W : World, Calls Try.prog 26 #[.slice (some ⟨g, 0, none⟩) X.length cap, .int .i64 (i : Int), .slice (some ⟨gh, 0, none⟩) h.length hc] W fun e w' => e = .returned (.bool lb) ∧ Below W.heap.size W w') := fun W => by
        rw [hlb]
        exact CL.out W i h1
      have HL : Hid (lb = liesB X.length h.length i) := hlb
      clear hlb CL
      cases lb
      · clear CP CS CK CC
        go_wp2_with (go_at_call 26; refine (C1.out _).mono ?_; rintro e w1 ⟨rfl, hb⟩)
        go_roundg (X.length - (i + 1))
        case measure => omega
        case rel =>
          refine ⟨i + 1, by omega, rfl, by go_num, bl_via HB.out.1 hb, fun k hk => ?_⟩
          by_cases hki : k < i
          · exact HB.out.2 k hki
          · have : k = i := by omega
            rw [this]
            unfold well
            rw [← HL.out]
            rfl
      · have hl : liesB X.length h.length i = true := HL.out.symm
        obtain ⟨pb, hpb⟩ : ∃ b, b = piercedB X X.length h i m := ⟨_, rfl⟩
        have HPB : Hid (pb = piercedB X X.length h i m) := hpb
        have C2 : Hid (∀ W : World, Below w.heap.size w W → Calls Try.prog 27 #[.slice (some ⟨g, 0, none⟩) X.length cap, .int .i64 (i : Int), .int .i64 (m : Int), .slice (some ⟨gh, 0, none⟩) h.length hc] W fun e w' => e = .returned (.bool pb) ∧ Below W.heap.size W w') := fun W hW => by
          rw [hpb]
          exact CP.out W i hW h1 hl
        obtain ⟨s, hs⟩ : ∃ s, s = sA X.length i := ⟨_, rfl⟩
        have HS : Hid (s = sA X.length i) := hs
        have C3 : Hid (∀ W : World, Calls Try.prog 28 #[.slice (some ⟨g, 0, none⟩) X.length cap, .int .i64 (i : Int)] W fun e w' => e = .returned (.tuple #[.int .i64 (s : Int), .int .i64 (i : Int)]) ∧ Below W.heap.size W w') := fun W => by
          rw [hs]
          exact CS.out W i h1
        obtain ⟨kv, hkv⟩ : ∃ b, b = kindV X.length h i := ⟨_, rfl⟩
        obtain ⟨cb, hcb⟩ : ∃ b, b = crossedB X X.length h i := ⟨_, rfl⟩
        obtain ⟨kw, hkw⟩ : ∃ b, b = gt ks i := ⟨_, rfl⟩
        have C4 : Hid (∀ W : World, Below w.heap.size w W → Calls Try.prog 29 #[.slice (some ⟨g, 0, none⟩) X.length cap, .int .i64 (i : Int), .slice (some ⟨gh, 0, none⟩) h.length hc] W fun e w' => e = .returned (.int .i64 kv) ∧ Below W.heap.size W w') := fun W hW => by
          rw [hkv]
          exact CK.out W i hW h1 hl
        have C5 : Hid (∀ W : World, Below w.heap.size w W → Calls Try.prog 30 #[.slice (some ⟨g, 0, none⟩) X.length cap, .int .i64 (i : Int), .slice (some ⟨gh, 0, none⟩) h.length hc] W fun e w' => e = .returned (.bool cb) ∧ Below W.heap.size W w') := fun W hW => by
          rw [hcb]
          exact CC.out W i hW h1 hl
        have C6 : Hid (w.cell? ⟨gk, i, none⟩ = some (.int .i64 kw)) := by
          have := HK.out i (by have := HKL.out; omega)
          rw [← hkw] at this
          exact this
        have HQ : Hid (well X X.length ks h i = (!pb && ((decide (s ≠ m) && decide (i ≠ m)) || (decide (kv = kw) && !cb)))) := by
          have : well X X.length ks h i = (!pb && ((decide (s ≠ m) && decide (i ≠ m)) || (decide (kv = kw) && !cb))) := by
            unfold well
            rw [hl, HLT.out, hpb, hs, hkv, hkw, hcb]
            rfl
          exact this
        clear hl hpb hs hkv hcb hkw CP CS CK CC HK HL
        cases pb
        · by_cases q1 : (s : Int) = (m : Int)
          rotate_left
          · by_cases q2 : (i : Int) = (m : Int)
            rotate_left
            · have q1b : ((s : Int) != (m : Int)) = true := by simpa using q1
              have q2b : ((i : Int) != (m : Int)) = true := by simpa using q2
              go_wp2_with (first | (go_at_call 26; refine (C1.out _).mono ?_; rintro e w1 ⟨rfl, hb⟩) | (go_at_call 27; refine (C2.out _ (bl_via HB1.out hb)).mono ?_; rintro e w2 ⟨rfl, hb2⟩) | (go_at_call 28; refine (C3.out _).mono ?_; rintro e w3 ⟨rfl, hb3⟩))
              go_roundg (X.length - (i + 1))
              case measure => omega
              case rel =>
                refine ⟨i + 1, by omega, rfl, by go_num, bl_via HB.out.1 (bl_via hb (bl_via hb2 hb3)), fun k hk => ?_⟩
                by_cases hki : k < i
                · exact HB.out.2 k hki
                · have : k = i := by omega
                  rw [this]
                  rw [HQ.out]
                  have e1 : s ≠ m := by omega
                  have e2 : i ≠ m := by omega
                  simp [e1, e2]
            · have q1b : ((s : Int) != (m : Int)) = true := by simpa using q1
              have q2b : ((i : Int) != (m : Int)) = false := by simpa using q2
              have HE : Hid ((decide (s ≠ m) && decide (i ≠ m)) = false) := by
                have : (decide (s ≠ m) && decide (i ≠ m)) = false := by
                  have : i = m := by omega
                  simp [this]
                exact this
              clear q2
              go_wp2_with (first | (go_at_call 26; refine (C1.out _).mono ?_; rintro e w1 ⟨rfl, hb⟩) | (go_at_call 27; refine (C2.out _ (bl_via HB1.out hb)).mono ?_; rintro e w2 ⟨rfl, hb2⟩) | (go_at_call 28; refine (C3.out _).mono ?_; rintro e w3 ⟨rfl, hb3⟩))
              have HB3 : Hid (Below w.heap.size w w3) := bl_via HB1.out (bl_via hb (bl_via hb2 hb3))
              have c6 := cl_kept HB3.out C6.out
              have zk : gk < w3.heap.size := World.block_lt_of_cell? _ _ c6
              have kc := Kin.cells w3
              have kn : Nonempty (Kin w3) := ⟨⟨w3, bl_refl _⟩⟩
              have K4 : Hid (∀ n : Kin w3, Calls Try.prog 29 #[.slice (some ⟨g, 0, none⟩) X.length cap, .int .i64 (i : Int), .slice (some ⟨gh, 0, none⟩) h.length hc] n.w fun e w' => e = .returned (.int .i64 kv) ∧ Below n.w.heap.size n.w w') := fun n => C4.out n.w (bl_via HB3.out n.h)
              have K5 : Hid (∀ n : Kin w3, Calls Try.prog 30 #[.slice (some ⟨g, 0, none⟩) X.length cap, .int .i64 (i : Int), .slice (some ⟨gh, 0, none⟩) h.length hc] n.w fun e w' => e = .returned (.bool cb) ∧ Below n.w.heap.size n.w w') := fun n => C5.out n.w (bl_via HB3.out n.h)
              by_cases q3 : kv = kw
              · have q3b : (kv != kw) = false := by simpa using q3
                have Q3 : Hid (kv = kw) := q3
                clear q3
                cases cb
                · refine wp_region_kin (by kernel_rfl) (by kernel_rfl) ?_
                  repeat (go_big_quiet_step (first | (go_at_call 29; exact kin_of (K4.out _)) | (go_at_call 30; exact kin_of (K5.out _))))
                  refine wpQuiet_nil ?_
                  intro wq hw'
                  obtain ⟨nq, hw''⟩ := hw'
                  have hq : Below w3.heap.size w3 wq := hw'' ▸ nq.h
                  clear hw'' nq
                  clear kc kn c6
                  go_wp2
                  go_roundg (X.length - (i + 1))
                  case measure => omega
                  case rel =>
                    refine ⟨i + 1, by omega, rfl, by go_num, bl_via HB3.out hq, fun k hk => ?_⟩
                    by_cases hki : k < i
                    · exact HB.out.2 k hki
                    · have : k = i := by omega
                      rw [this]
                      rw [HQ.out, HE.out, Q3.out]
                      simp
                · refine wp_region_kin (by kernel_rfl) (by kernel_rfl) ?_
                  repeat (go_big_quiet_step (first | (go_at_call 29; exact kin_of (K4.out _)) | (go_at_call 30; exact kin_of (K5.out _))))
                  refine wpQuiet_nil ?_
                  intro wq hw'
                  obtain ⟨nq, hw''⟩ := hw'
                  have hq : Below w3.heap.size w3 wq := hw'' ▸ nq.h
                  clear hw'' nq
                  clear kc kn c6
                  go_wp2
                  go_ret
                  refine ⟨ret_bool ?_, bl_via HB3.out hq⟩
                  rw [HV.out]
                  symm
                  rw [goodB, List.all_eq_false]
                  refine ⟨i, List.mem_range.2 h1, ?_⟩
                  rw [HQ.out, HE.out]
                  simp
              · have q3b : (kv != kw) = true := by simpa using q3
                refine wp_region_kin (by kernel_rfl) (by kernel_rfl) ?_
                repeat (go_big_quiet_step (first | (go_at_call 29; exact kin_of (K4.out _)) | (go_at_call 30; exact kin_of (K5.out _))))
                refine wpQuiet_nil ?_
                intro wq hw'
                obtain ⟨nq, hw''⟩ := hw'
                have hq : Below w3.heap.size w3 wq := hw'' ▸ nq.h
                clear hw'' nq
                clear kc kn c6
                go_wp2
                go_ret
                refine ⟨ret_bool ?_, bl_via HB3.out hq⟩
                rw [HV.out]
                symm
                rw [goodB, List.all_eq_false]
                refine ⟨i, List.mem_range.2 h1, ?_⟩
                rw [HQ.out, HE.out]
                simp [q3]
          · have q1b : ((s : Int) != (m : Int)) = false := by simpa using q1
            have HE : Hid ((decide (s ≠ m) && decide (i ≠ m)) = false) := by
              have : (decide (s ≠ m) && decide (i ≠ m)) = false := by
                have : s = m := by omega
                simp [this]
              exact this
            clear q1
            go_wp2_with (first | (go_at_call 26; refine (C1.out _).mono ?_; rintro e w1 ⟨rfl, hb⟩) | (go_at_call 27; refine (C2.out _ (bl_via HB1.out hb)).mono ?_; rintro e w2 ⟨rfl, hb2⟩) | (go_at_call 28; refine (C3.out _).mono ?_; rintro e w3 ⟨rfl, hb3⟩))
            have HB3 : Hid (Below w.heap.size w w3) := bl_via HB1.out (bl_via hb (bl_via hb2 hb3))
            have c6 := cl_kept HB3.out C6.out
            have zk : gk < w3.heap.size := World.block_lt_of_cell? _ _ c6
            have kc := Kin.cells w3
            have kn : Nonempty (Kin w3) := ⟨⟨w3, bl_refl _⟩⟩
            have K4 : Hid (∀ n : Kin w3, Calls Try.prog 29 #[.slice (some ⟨g, 0, none⟩) X.length cap, .int .i64 (i : Int), .slice (some ⟨gh, 0, none⟩) h.length hc] n.w fun e w' => e = .returned (.int .i64 kv) ∧ Below n.w.heap.size n.w w') := fun n => C4.out n.w (bl_via HB3.out n.h)
            have K5 : Hid (∀ n : Kin w3, Calls Try.prog 30 #[.slice (some ⟨g, 0, none⟩) X.length cap, .int .i64 (i : Int), .slice (some ⟨gh, 0, none⟩) h.length hc] n.w fun e w' => e = .returned (.bool cb) ∧ Below n.w.heap.size n.w w') := fun n => C5.out n.w (bl_via HB3.out n.h)
            by_cases q3 : kv = kw
            · have q3b : (kv != kw) = false := by simpa using q3
              have Q3 : Hid (kv = kw) := q3
              clear q3
              cases cb
              · refine wp_region_kin (by kernel_rfl) (by kernel_rfl) ?_
                repeat (go_big_quiet_step (first | (go_at_call 29; exact kin_of (K4.out _)) | (go_at_call 30; exact kin_of (K5.out _))))
                refine wpQuiet_nil ?_
                intro wq hw'
                obtain ⟨nq, hw''⟩ := hw'
                have hq : Below w3.heap.size w3 wq := hw'' ▸ nq.h
                clear hw'' nq
                clear kc kn c6
                go_wp2
                go_roundg (X.length - (i + 1))
                case measure => omega
                case rel =>
                  refine ⟨i + 1, by omega, rfl, by go_num, bl_via HB3.out hq, fun k hk => ?_⟩
                  by_cases hki : k < i
                  · exact HB.out.2 k hki
                  · have : k = i := by omega
                    rw [this]
                    rw [HQ.out, HE.out, Q3.out]
                    simp
              · refine wp_region_kin (by kernel_rfl) (by kernel_rfl) ?_
                repeat (go_big_quiet_step (first | (go_at_call 29; exact kin_of (K4.out _)) | (go_at_call 30; exact kin_of (K5.out _))))
                refine wpQuiet_nil ?_
                intro wq hw'
                obtain ⟨nq, hw''⟩ := hw'
                have hq : Below w3.heap.size w3 wq := hw'' ▸ nq.h
                clear hw'' nq
                clear kc kn c6
                go_wp2
                go_ret
                refine ⟨ret_bool ?_, bl_via HB3.out hq⟩
                rw [HV.out]
                symm
                rw [goodB, List.all_eq_false]
                refine ⟨i, List.mem_range.2 h1, ?_⟩
                rw [HQ.out, HE.out]
                simp
            · have q3b : (kv != kw) = true := by simpa using q3
              refine wp_region_kin (by kernel_rfl) (by kernel_rfl) ?_
              repeat (go_big_quiet_step (first | (go_at_call 29; exact kin_of (K4.out _)) | (go_at_call 30; exact kin_of (K5.out _))))
              refine wpQuiet_nil ?_
              intro wq hw'
              obtain ⟨nq, hw''⟩ := hw'
              have hq : Below w3.heap.size w3 wq := hw'' ▸ nq.h
              clear hw'' nq
              clear kc kn c6
              go_wp2
              go_ret
              refine ⟨ret_bool ?_, bl_via HB3.out hq⟩
              rw [HV.out]
              symm
              rw [goodB, List.all_eq_false]
              refine ⟨i, List.mem_range.2 h1, ?_⟩
              rw [HQ.out, HE.out]
              simp [q3]
        · go_wp2_with (first | (go_at_call 26; refine (C1.out _).mono ?_; rintro e w1 ⟨rfl, hb⟩) | (go_at_call 27; refine (C2.out _ (bl_via HB1.out hb)).mono ?_; rintro e w2 ⟨rfl, hb2⟩))
          go_ret
          refine ⟨ret_bool ?_, bl_via HB.out.1 (bl_via hb hb2)⟩
          rw [HV.out]
          symm
          rw [goodB, List.all_eq_false]
          refine ⟨i, List.mem_range.2 h1, ?_⟩
          rw [HQ.out]
          simp
    · have i1 : ¬ (i : Int) < (X.length : Int) := by omega
      obtain rfl : i = X.length := by omega
      go_wp2
      go_ret
      refine ⟨ret_bool ?_, HB.out.1⟩
      rw [HV.out]
      symm
      rw [goodB, List.all_eq_true]
      exact fun k hk => HB.out.2 k (List.mem_range.1 hk)
end Go.Proofs.Ytioajagblphbnaa
