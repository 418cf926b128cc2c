/- A part of the proof of cutPunches_holds. -/
import Derived.Test.YtmjhfdohcghhoaaGreatDoorQlbw
import Derived.Test.YtmjhfdohcghhoaaGreatDoorQlap
import Derived.Lib.SliceRun
import Derived.Deep.Upon
import Derived.Test.YtmjhfdohcghhoaaGreatDoorQlbl
import Derived.Test.YtmjhfdohcghhoaaGreatDoorQlbv
import Derived.Test.YtmjhfdohcghhoaaGreatDoorQlbu
import Derived.Test.YtmjhfdohcghhoaaGreatDoorQlai
import Derived.Laws.EntriesVeiled
import Derived.Test.YtmjhfdohcghhoaaGreatDoorQlam
namespace Go.Proofs.YtmjhfdohcghhoaaGreatDoor
open Go.RowKit Go.ChangeMaps

/-- The numbers below one that are kept. -/
def kpI (del : Nat → Bool) : Nat → List Nat
  | 0 => []
  | i + 1 => kpI del i ++ if del i then [] else [i]
theorem kpI_yes {del : Nat → Bool} {i : Nat} (h : del i = true) : kpI del (i + 1) = kpI del i := by
  show kpI del i ++ _ = _
  rw [if_pos h, List.append_nil]
theorem kpI_no {del : Nat → Bool} {i : Nat} (h : del i = false) : kpI del (i + 1) = kpI del i ++ [i] := by
  show kpI del i ++ _ = _
  rw [if_neg (by simp [h])]
theorem kpI_le (del : Nat → Bool) : ∀ i, (kpI del i).length ≤ i
  | 0 => Nat.le_refl _
  | i + 1 => by
    have := kpI_le del i
    cases h : del i
    · rw [kpI_no h, List.length_append]
      simp
      omega
    · rw [kpI_yes h]
      omega
theorem kpI_all {del : Nat → Bool} : ∀ {i : Nat}, (∀ k, k < i → del k = false) → kpI del i = List.range i
  | 0, _ => rfl
  | i + 1, h => by rw [kpI_no (h i (by omega)), kpI_all (i := i) (fun k hk => h k (by omega)), List.range_succ]
theorem kpI_lt {del : Nat → Bool} : ∀ {i : Nat}, (∃ k, k < i ∧ del k = true) → (kpI del i).length < i
  | 0, ⟨k, h, _⟩ => by omega
  | i + 1, ⟨k, h1, h2⟩ => by
    cases h : del i
    · have := kpI_lt (i := i) ⟨k, by
        by_cases e : k = i
        · rw [e, h] at h2
          cases h2
        · omega, h2⟩
      rw [kpI_no h, List.length_append]
      simp
      omega
    · rw [kpI_yes h]
      have := kpI_le del i
      omega
/-- Where the first is that is to go. -/
def DixTo (del : Nat → Bool) (n : Nat) (w w' : World) (e : Ending) : Prop := (((∀ k, k < n → del k = false) ∧ e = .returned (.int .i64 (-1))) ∨ ∃ i : Nat, i < n ∧ del i = true ∧ (∀ k, k < i → del k = false) ∧ e = .returned (.int .i64 (i : Int))) ∧ Below w.heap.size w w'
set_option maxRecDepth 100000 in
set_option maxHeartbeats 3200000 in
theorem indexFunc_any (w : World) (g pb n cap : Nat) (A : Nat → Option Addr) (N C : Nat → Nat) (del : Nat → Bool) (hn : n ≤ 300) (hc : ∀ k, k < n → w.cell? ⟨g, k, none⟩ = some (.slice (A k) (N k) (C k))) (hcl : ∀ (k : Nat) (V : World), k < n → Below w.heap.size w V → Calls Tryz.prog 74 #[.slice (A k) (N k) (C k), .pointer (some ⟨pb, 0, none⟩)] V fun e w' => e = .returned (.bool (del k)) ∧ Below V.heap.size V w') :
    Calls Tryz.prog 108 #[.slice (some ⟨g, 0, none⟩) n cap, .func (.func 74) #[] #[.pointer (some ⟨pb, 0, none⟩)]] w fun e w' => DixTo del n w w' e := by
  have HC : Hid (∀ k, k < n → w.cell? ⟨g, k, none⟩ = some (.slice (A k) (N k) (C k))) := hc
  have HCL : Hid (∀ (k : Nat) (V : World), k < n → Below w.heap.size w V → Calls Tryz.prog 74 #[.slice (A k) (N k) (C k), .pointer (some ⟨pb, 0, none⟩)] V fun e w' => e = .returned (.bool (del k)) ∧ Below V.heap.size V w') := hcl
  clear hc hcl
  go_enter Tryz.func108, Tryz.ntmps108
  go_wp2
  go_loopg [8] n (fun gk s8 wx => ∃ i : Nat, i ≤ n ∧ gk = n - i ∧ s8 = .int .i64 (i : Int) ∧ (∀ k, k < i → del k = false) ∧ Below w.heap.size w wx)
  case atStart => exact ⟨0, by omega, by omega, rfl, fun k h => by omega, bl_refl _⟩
  case round =>
    obtain ⟨i, hi, rfl, rfl, hk, hB⟩ := hrel
    have HB : Hid (Below w.heap.size w wr ∧ ∀ k, k < i → del k = false) := ⟨hB, hk⟩
    clear hB hk
    by_cases h1 : i < n
    · have i1 : (i : Int) < (n : Int) := by omega
      have i0 : (0 : Int) ≤ (i : Int) := by omega
      have x0 := cl_kept HB.out.1 (HC.out i h1)
      obtain ⟨d, hd⟩ : ∃ d : Bool, d = del i := ⟨_, rfl⟩
      have HD : Hid (d = del i) := hd
      have CC : Hid (Calls Tryz.prog 74 #[.slice (A i) (N i) (C i), .pointer (some ⟨pb, 0, none⟩)] wr fun e w' => e = .returned (.bool d) ∧ Below wr.heap.size wr w') := hd ▸ HCL.out i wr h1 HB.out.1
      obtain ⟨ai, hai⟩ : ∃ x, x = A i := ⟨_, rfl⟩
      obtain ⟨ni, hni⟩ : ∃ x, x = N i := ⟨_, rfl⟩
      obtain ⟨ci, hci⟩ : ∃ x, x = C i := ⟨_, rfl⟩
      rw [← hai, ← hni, ← hci] at x0 CC
      clear hd hai hni hci
      cases d
      · go_wp2_with (go_at_call 74; refine CC.out.mono ?_; rintro e w1 ⟨rfl, hb1⟩; have HB1 : Hid (Below w.heap.size w w1) := bl_via HB.out.1 hb1; clear hb1)
        go_roundg (n - (i + 1))
        case measure => omega
        case rel =>
          refine ⟨i + 1, by omega, rfl, by go_num, fun k hk => ?_, HB1.out⟩
          by_cases e : k = i
          · rw [e]
            exact HD.out.symm
          · exact HB.out.2 k (by omega)
      · go_wp2_with (go_at_call 74; refine CC.out.mono ?_; rintro e w1 ⟨rfl, hb1⟩; have HB1 : Hid (Below w.heap.size w w1) := bl_via HB.out.1 hb1; clear hb1)
        go_ret
        exact ⟨Or.inr ⟨i, h1, HD.out.symm, HB.out.2, rfl⟩, HB1.out⟩
    · have i1 : ¬ (i : Int) < (n : Int) := by omega
      go_wp2
      go_ret
      exact ⟨Or.inl ⟨fun k hk => HB.out.2 k (by omega), rfl⟩, HB.out.1⟩
/-- A row of slices, of which some were taken out: those before one are gone through. -/
structure DlI (w wx : World) (g n : Nat) (A : Nat → Option Addr) (N C : Nat → Nat) (del : Nat → Bool) (j : Nat) : Prop where
  kept : ∀ k (h : k < (kpI del j).length), wx.cell? ⟨g, k, none⟩ = some (.slice (A (kpI del j)[k]) (N (kpI del j)[k]) (C (kpI del j)[k]))
  left : ∀ k, j ≤ k → k < n → wx.cell? ⟨g, k, none⟩ = some (.slice (A k) (N k) (C k))
  ok : ∀ k, k < n → (wx.cell? ⟨g, k, none⟩).isSome = true
  free : ∀ k, k < n → wx.frozen? ⟨g, k, none⟩ = false
  gr : w.grownBy wx (some g)
theorem DlI.still {w wx wy : World} {g n j : Nat} {A : Nat → Option Addr} {N C : Nat → Nat} {del : Nat → Bool} (h : DlI w wx g n A N C del j) (hb : Below wx.heap.size wx wy) : DlI w wy g n A N C del j := by
  have ce : ∀ k, k < n → wy.cell? ⟨g, k, none⟩ = wx.cell? ⟨g, k, none⟩ := fun k hk => by
    have := h.ok k hk
    rw [Option.isSome_iff_exists] at this
    obtain ⟨v, hv⟩ := this
    rw [hv]
    exact cl_kept hb hv
  refine ⟨fun k hk => cl_kept hb (h.kept k hk), fun k h1 h2 => cl_kept hb (h.left k h1 h2), fun k hk => by rw [ce k hk]; exact h.ok k hk, fun k hk => ?_, h.gr.trans ⟨hb.os, hb.tape, hb.output, hb.size, fun i hi _ => hb.block i hi⟩⟩
  have := h.ok k hk
  rw [Option.isSome_iff_exists] at this
  obtain ⟨v, hv⟩ := this
  rw [World.frozen?_of_block (hb.block g (World.block_lt_of_cell? _ _ hv))]
  exact h.free k hk
theorem DlI.pass {w wx : World} {g n j : Nat} {A : Nat → Option Addr} {N C : Nat → Nat} {del : Nat → Bool} (h : DlI w wx g n A N C del j) (hd : del j = true) : DlI w wx g n A N C del (j + 1) :=
  ⟨by rw [kpI_yes hd]; exact h.kept, fun k h1 h2 => h.left k (by omega) h2, h.ok, h.free, h.gr⟩
theorem gr_setCell (w : World) (a : Addr) (u : Value) : w.grownBy (w.setCell a u) (some a.block) := ⟨rfl, rfl, rfl, by simp, fun k _ hk => heap_setCell_other w a k u (fun e => hk (by simp [e]))⟩
theorem gr_setCells (b : Nat) : ∀ (vs : List Value) (k : Nat) (w : World), w.grownBy (w.setCells b k vs) (some b)
  | [], _, _w => World.grownBy.refl _ _
  | v :: vs, k, w => (gr_setCell w ⟨b, k, none⟩ v).trans (gr_setCells b vs (k + 1) _)
theorem DlI.put {w wx : World} {g n j : Nat} {A : Nat → Option Addr} {N C : Nat → Nat} {del : Nat → Bool} (h : DlI w wx g n A N C del j) (hd : del j = false) (hj : j < n) (hl : (kpI del j).length < j) : DlI w (wx.setCell ⟨g, (kpI del j).length, none⟩ (.slice (A j) (N j) (C j))) g n A N C del (j + 1) := by
  have ne : ∀ k, k ≠ (kpI del j).length → (wx.setCell ⟨g, (kpI del j).length, none⟩ (.slice (A j) (N j) (C j))).cell? ⟨g, k, none⟩ = wx.cell? ⟨g, k, none⟩ := fun k hk => World.cell?_setCell_other _ _ _ _ (fun e => hk (by cases e; rfl))
  have sm : (wx.setCell ⟨g, (kpI del j).length, none⟩ (.slice (A j) (N j) (C j))).cell? ⟨g, (kpI del j).length, none⟩ = some (.slice (A j) (N j) (C j)) := World.cell?_setCell_same' _ _ _ (h.ok _ (by omega))
  refine ⟨fun k hk => ?_, fun k h1 h2 => ?_, fun k hk => ?_, fun k hk => ?_, h.gr.trans (gr_setCell wx ⟨g, (kpI del j).length, none⟩ _)⟩
  · have hk2 : k < (kpI del j ++ [j]).length := by rw [← kpI_no hd]; exact hk
    have e : (kpI del (j + 1))[k] = (kpI del j ++ [j])[k] := by simp [kpI_no hd]
    rw [e]
    by_cases e2 : k = (kpI del j).length
    · subst e2
      rw [sm]
      simp
    · have hk3 : k < (kpI del j).length := by
        rw [List.length_append] at hk2
        simp at hk2
        omega
      rw [ne k e2, List.getElem_append_left hk3]
      exact h.kept k hk3
  · rw [ne k (by omega)]
    exact h.left k (by omega) h2
  · by_cases e2 : k = (kpI del j).length
    · rw [e2, sm]
      rfl
    · rw [ne k e2]
      exact h.ok k hk
  · rw [World.frozen?_setCell]
    exact h.free k hk
/-- What is left of a row of slices. -/
def DlTo (g n cap : Nat) (A : Nat → Option Addr) (N C : Nat → Nat) (del : Nat → Bool) (w w' : World) (e : Ending) : Prop := e = .returned (.slice (some ⟨g, 0, none⟩) (kpI del n).length cap) ∧ (∀ k (h : k < (kpI del n).length), w'.cell? ⟨g, k, none⟩ = some (.slice (A (kpI del n)[k]) (N (kpI del n)[k]) (C (kpI del n)[k]))) ∧ w.grownBy w' (some g)
theorem zero44 (w : World) : (zeroValue 44).run Tryz.prog w = .ok (.slice none 0 0) w := by kernel_rfl
set_option maxRecDepth 100000 in
set_option maxHeartbeats 3200000 in
theorem deleteFunc_any (w : World) (g pb n cap : Nat) (A : Nat → Option Addr) (N C : Nat → Nat) (del : Nat → Bool) (hn : n ≤ 300) (hcap : n ≤ cap) (_hm : cap ≤ maxLen) (hc : ∀ k, k < n → w.cell? ⟨g, k, none⟩ = some (.slice (A k) (N k) (C k))) (hfz : ∀ k, k < n → w.frozen? ⟨g, k, none⟩ = false) (hcl : ∀ (k : Nat) (V : World), k < n → w.grownBy V (some g) → Calls Tryz.prog 74 #[.slice (A k) (N k) (C k), .pointer (some ⟨pb, 0, none⟩)] V fun e w' => e = .returned (.bool (del k)) ∧ Below V.heap.size V w') :
    Calls Tryz.prog 73 #[.slice (some ⟨g, 0, none⟩) n cap, .func (.func 74) #[] #[.pointer (some ⟨pb, 0, none⟩)]] w fun e w' => DlTo g n cap A N C del w w' e := by
  have HC : Hid (∀ k, k < n → w.cell? ⟨g, k, none⟩ = some (.slice (A k) (N k) (C k)) ∧ w.frozen? ⟨g, k, none⟩ = false) := fun k hk => ⟨hc k hk, hfz k hk⟩
  have HCL : Hid (∀ (k : Nat) (V : World), k < n → w.grownBy V (some g) → Calls Tryz.prog 74 #[.slice (A k) (N k) (C k), .pointer (some ⟨pb, 0, none⟩)] V fun e w' => e = .returned (.bool (del k)) ∧ Below V.heap.size V w') := hcl
  have CI : Hid (Calls Tryz.prog 108 #[.slice (some ⟨g, 0, none⟩) n cap, .func (.func 74) #[] #[.pointer (some ⟨pb, 0, none⟩)]] w fun e w' => DixTo del n w w' e) := indexFunc_any w g pb n cap A N C del hn hc (fun k V hk hV => hcl k V hk ⟨hV.os, hV.tape, hV.output, hV.size, fun i hi _ => hV.block i hi⟩)
  clear hc hfz hcl
  by_cases hall : ∀ k, k < n → del k = false
  · have C1 : Hid (Calls Tryz.prog 108 #[.slice (some ⟨g, 0, none⟩) n cap, .func (.func 74) #[] #[.pointer (some ⟨pb, 0, none⟩)]] w fun e w' => e = .returned (.int .i64 (-1)) ∧ Below w.heap.size w w') := CI.out.mono fun e w' h => by
      refine ⟨?_, h.2⟩
      rcases h.1 with ⟨_, h⟩ | ⟨i, h1, h2, _⟩
      · exact h
      · rw [hall i h1] at h2
        cases h2
    have HA : Hid (∀ k, k < n → del k = false) := hall
    clear hall CI HCL
    go_enter Tryz.func73, Tryz.ntmps73
    go_wp2_with (go_at_call 108; refine C1.out.mono ?_; rintro e w1 ⟨rfl, hb1⟩; have HB1 : Hid (Below w.heap.size w w1) := hb1; clear hb1)
    go_ret
    refine ⟨by rw [kpI_all HA.out, List.length_range]; rfl, fun k hk => ?_, ⟨HB1.out.os, HB1.out.tape, HB1.out.output, HB1.out.size, fun i hi _ => HB1.out.block i hi⟩⟩
    have e1 : (kpI del n)[k] = k := by simp [kpI_all HA.out]
    have hk2 : k < n := by
      rw [kpI_all HA.out, List.length_range] at hk
      exact hk
    rw [e1]
    exact cl_kept HB1.out (HC.out k hk2).1
  · obtain ⟨i0, hi0, hd0, hk0⟩ : ∃ i0, i0 < n ∧ del i0 = true ∧ ∀ k, k < i0 → del k = false := by
      have hex : ∃ k, k < n ∧ del k = true := by
        refine Classical.byContradiction fun h => hall fun k hk => ?_
        cases e : del k
        · rfl
        · exact absurd ⟨k, hk, e⟩ h
      obtain ⟨k, hk⟩ := hex
      induction k using Nat.strongRecOn with
      | ind k ih =>
        by_cases hq : ∃ m, m < k ∧ del m = true
        · obtain ⟨m, hm1, hm2⟩ := hq
          exact ih m hm1 ⟨by omega, hm2⟩
        · refine ⟨k, hk.1, hk.2, fun m hm => ?_⟩
          cases e : del m
          · rfl
          · exact absurd ⟨m, hm, e⟩ hq
    have C1 : Hid (Calls Tryz.prog 108 #[.slice (some ⟨g, 0, none⟩) n cap, .func (.func 74) #[] #[.pointer (some ⟨pb, 0, none⟩)]] w fun e w' => e = .returned (.int .i64 (i0 : Int)) ∧ Below w.heap.size w w') := CI.out.mono fun e w' h => by
      refine ⟨?_, h.2⟩
      rcases h.1 with ⟨h, _⟩ | ⟨i, h1, h2, h3, h4⟩
      · rw [h i0 hi0] at hd0
        cases hd0
      · have : i = i0 := by
          rcases Nat.lt_trichotomy i i0 with h | h | h
          · rw [hk0 i h] at h2
            cases h2
          · exact h
          · rw [h3 i0 h] at hd0
            cases hd0
        rw [h4, this]
    have HI0 : Hid (DlI w w g n A N C del (i0 + 1) ∧ (kpI del (i0 + 1)).length = i0 ∧ del i0 = true) := by
      have e1 : kpI del (i0 + 1) = List.range i0 := by rw [kpI_yes hd0, kpI_all hk0]
      refine ⟨⟨fun k hk => ?_, fun k _ h2 => (HC.out k h2).1, fun k hk => by rw [(HC.out k hk).1]; rfl, fun k hk => (HC.out k hk).2, World.grownBy.refl _ _⟩, by rw [e1, List.length_range], hd0⟩
      have e2 : (kpI del (i0 + 1))[k] = k := by simp [e1]
      rw [e2]
      rw [e1, List.length_range] at hk
      exact (HC.out k (by omega)).1
    have hne : ¬ (i0 : Int) = -1 := by omega
    clear hall CI hd0 hk0 HC
    go_enter Tryz.func73, Tryz.ntmps73
    go_wp2_with (go_at_call 108; refine C1.out.mono ?_; rintro e w1 ⟨rfl, hb1⟩; have HB1 : Hid (DlI w w1 g n A N C del (i0 + 1)) := HI0.out.1.still hb1; clear hb1)
    go_loopg [5, 6] (n - (i0 + 1)) (fun gk s5 s6 wx => ∃ i j : Nat, i0 < j ∧ j ≤ n ∧ gk = n - j ∧ s5 = .int .i64 (i : Int) ∧ s6 = .int .i64 (j : Int) ∧ (kpI del j).length = i ∧ DlI w wx g n A N C del j)
    case atStart => exact ⟨i0, i0 + 1, by omega, by omega, by omega, rfl, by go_num, HI0.out.2.1, HB1.out⟩
    case round =>
      obtain ⟨i, j, hij, hj, rfl, rfl, rfl, hl, hD⟩ := hrel
      have HD : Hid (DlI w wr g n A N C del j ∧ (kpI del j).length = i) := ⟨hD, hl⟩
      have hlt : i < j := by
        rw [← hl]
        exact kpI_lt ⟨i0, hij, HI0.out.2.2⟩
      clear hl hD
      by_cases h1 : j < n
      · have j1 : (j : Int) < (n : Int) := by omega
        have j0 : (0 : Int) ≤ (j : Int) := by omega
        have i1 : (i : Int) < (n : Int) := by omega
        have i0' : (0 : Int) ≤ (i : Int) := by omega
        have x0 := HD.out.1.left j (Nat.le_refl _) h1
        obtain ⟨d, hd⟩ : ∃ d : Bool, d = del j := ⟨_, rfl⟩
        have HDJ : Hid (d = del j) := hd
        have CC : Hid (Calls Tryz.prog 74 #[.slice (A j) (N j) (C j), .pointer (some ⟨pb, 0, none⟩)] wr fun e w' => e = .returned (.bool d) ∧ Below wr.heap.size wr w') := hd ▸ HCL.out j wr h1 HD.out.1.gr
        obtain ⟨ai, hai⟩ : ∃ x, x = A j := ⟨_, rfl⟩
        obtain ⟨ni, hni⟩ : ∃ x, x = N j := ⟨_, rfl⟩
        obtain ⟨ci, hci⟩ : ∃ x, x = C j := ⟨_, rfl⟩
        have HE : Hid (ai = A j ∧ ni = N j ∧ ci = C j) := ⟨hai, hni, hci⟩
        rw [← hai, ← hni, ← hci] at x0 CC
        clear hd hai hni hci
        cases d
        · go_wp2_with (go_at_call 74; refine CC.out.mono ?_; rintro e w2 ⟨rfl, hb2⟩; have HB2 : Hid (DlI w w2 g n A N C del j) := HD.out.1.still hb2; obtain ⟨y, y0⟩ := Option.isSome_iff_exists.1 (HB2.out.ok i (by omega)); have y1 := HB2.out.free i (by omega); clear hb2)
          go_roundg (n - (j + 1))
          case measure => omega
          case rel =>
            refine ⟨i + 1, j + 1, by omega, by omega, rfl, by go_num, by go_num, ?_, ?_⟩
            · rw [kpI_no HDJ.out.symm, List.length_append, HD.out.2]
              rfl
            · have := HB2.out.put HDJ.out.symm h1 (by rw [HD.out.2]; exact hlt)
              rw [HD.out.2, ← HE.out.1, ← HE.out.2.1, ← HE.out.2.2] at this
              exact this
        · go_wp2_with (go_at_call 74; refine CC.out.mono ?_; rintro e w2 ⟨rfl, hb2⟩; have HB2 : Hid (DlI w w2 g n A N C del j) := HD.out.1.still hb2; clear hb2)
          go_roundg (n - (j + 1))
          case measure => omega
          case rel =>
            refine ⟨i, j + 1, by omega, by omega, rfl, rfl, by go_num, ?_, HB2.out.pass HDJ.out.symm⟩
            rw [kpI_yes HDJ.out.symm, HD.out.2]
      · have j1 : ¬ (j : Int) < (n : Int) := by omega
        have hjn : j = n := by omega
        have i1 : (i : Int) ≤ (n : Int) := by omega
        have i2 : (i : Int) ≤ (cap : Int) := by omega
        have i0' : (0 : Int) ≤ (i : Int) := by omega
        subst hjn
        have hcl : ∀ ty, (Builtin.clear_ #[32] ty #[.slice (some ⟨g, i, none⟩) (j - i) (cap - i)]).run Tryz.prog wr = .ok (.tuple #[]) (wr.setCells g i (List.replicate (j - i) (.slice none 0 0))) := fun ty => Lib.run_clear_slice wr 32 44 ty _ Tryz.underlying32 zero44 rfl rfl g i (j - i) (cap - i) (by omega) (fun t ht => HD.out.1.ok (i + t) (by omega)) (fun t ht => HD.out.1.free (i + t) (by omega))
        obtain ⟨WC, hWC⟩ : ∃ W, W = wr.setCells g i (List.replicate (j - i) (.slice none 0 0)) := ⟨_, rfl⟩
        rw [← hWC] at hcl
        have HWC : Hid (WC = wr.setCells g i (List.replicate (j - i) (.slice none 0 0))) := hWC
        clear hWC
        go_wp2
        go_ret
        refine ⟨by rw [HD.out.2]; rfl, fun k hk => ?_, HD.out.1.gr.trans ?_⟩
        · rw [HWC.out, World.cell?_setCells_out _ _ _ _ _ (fun _ _ => Or.inl (by rw [← HD.out.2]; exact hk))]
          exact HD.out.1.kept k hk
        · rw [HWC.out]
          exact gr_setCells g _ i wr

theorem zero144 (w : World) : (zeroValue 144).run Tryz.prog w = .ok (.agg #[]) w := by kernel_rfl
/-- The map of those that fell, the first i put down. -/
structure RI (W0 wx : World) (r : Nat) (O : List (Int × Int × Int)) (i : Nat) : Prop where
  em : ∃ ls c, TEM wx r ls c ∧ TGood ls c ∧ ∀ t, Tlk ls t = if t ∈ O.take i then some (.agg #[]) else none
  gr : W0.grownBy wx (some r)
theorem RI.still {W0 wx wy : World} {r i : Nat} {O : List (Int × Int × Int)} (h : RI W0 wx r O i) (hb : Below wx.heap.size wx wy) : RI W0 wy r O i := by
  obtain ⟨⟨ls, c, h1, h2, h3⟩, h4⟩ := h
  exact ⟨⟨ls, c, h1.grown (bl_grown hb) (by simp), h2, h3⟩, h4.trans ⟨hb.os, hb.tape, hb.output, hb.size, fun i hi _ => hb.block i hi⟩⟩
theorem RI.next {W0 wx : World} {r i : Nat} {O : List (Int × Int × Int)} (h : RI W0 wx r O i) (hi : i < O.length) {x y k : Int} (e : O[i] = (x, y, k)) :
    ∃ W', (Instr.mapUpdate 143 (.map (some r)) (.agg #[.int .i64 x, .int .i64 y, .int .i64 k]) (.agg #[])).run Tryz.prog wx = .ok () W' ∧ RI W0 W' r O (i + 1) ∧ wx.heap.size ≤ W'.heap.size := by
  obtain ⟨⟨ls, c, h1, h2, h3⟩, h4⟩ := h
  obtain ⟨ls', c', r1, r2, r3, _⟩ := Tupdate27 Tryz.underlying143 h1 h2 (x, y, k) (.agg #[])
  have hb := h1
  unfold TEM at hb
  have hg := grown_set hb (.map (ls'.map TtoE).toArray c')
  refine ⟨_, r1, ⟨⟨ls', c', heap_setBlock_same hb _, r2, fun t => ?_⟩, h4.trans hg⟩, hg.size⟩
  rw [r3 t, h3 t, List.take_add_one, List.getElem?_eq_getElem hi, e]
  by_cases e1 : t = (x, y, k)
  · rw [if_pos e1, if_pos (by rw [e1]; simp)]
  · rw [if_neg e1]
    by_cases e2 : t ∈ O.take i
    · rw [if_pos e2, if_pos (List.mem_append_left _ e2)]
    · rw [if_neg e2, if_neg (by
        rw [List.mem_append]
        rintro (h | h)
        · exact e2 h
        · simp at h
          exact e1 h)]
theorem RI.fl {W0 wx : World} {r : Nat} {O : List (Int × Int × Int)} (h : RI W0 wx r O O.length) : FL wx r (fun t => decide (t ∈ O)) := fun t wy hb => by
  obtain ⟨⟨ls, c, h1, h2, h3⟩, h4⟩ := h
  rw [Tlookt27 Tryz.underlying143 zero144 (h1.grown (bl_grown hb) (by simp)) h2 t, h3 t, List.take_length]
  by_cases e : t ∈ O
  · simp [e]
  · simp [e]
theorem RI.cell {W0 wx : World} {r i : Nat} {O : List (Int × Int × Int)} (h : RI W0 wx r O i) {a : Addr} {v : Value} (ha : W0.cell? a = some v) (hne : a.block ≠ r) : wx.cell? a = some v := h.gr.cell ha (fun e => hne (by simpa using e))
theorem RI.below {w W0 wx : World} {r i : Nat} {O : List (Int × Int × Int)} (h : RI W0 wx r O i) (hb : Below w.heap.size w W0) (hr : w.heap.size ≤ r) : Below w.heap.size w wx := hb.grown h.gr hb.size (fun k hk => by simp at hk; omega)
theorem RI.far {W0 wx wy : World} {r g i : Nat} {O : List (Int × Int × Int)} (h : RI W0 wx r O i) (hg : wx.grownBy wy (some g)) (hne : g ≠ r) (hw : W0.heap.size ≤ g) : RI W0 wy r O i := by
  obtain ⟨⟨ls, c, h1, h2, h3⟩, h4⟩ := h
  exact ⟨⟨ls, c, h1.grown hg (fun e => hne (by simpa using e.symm)), h2, h3⟩, h4.andThen hg (fun j hj => Or.inl (by simp at hj; omega))⟩
def slA : Value → Option Addr
  | .slice a _ _ => a
  | _ => none
def slN : Value → Nat
  | .slice _ n _ => n
  | _ => 0
def slC : Value → Nat
  | .slice _ _ c => c
  | _ => 0
theorem kpI_mem {del : Nat → Bool} : ∀ {i k : Nat}, k ∈ kpI del i → k < i ∧ del k = false
  | 0, k, h => by simp [kpI] at h
  | i + 1, k, h => by
    cases e : del i
    · rw [kpI_no e, List.mem_append] at h
      rcases h with h | h
      · have := kpI_mem h
        exact ⟨by omega, this.2⟩
      · simp at h
        rw [h]
        exact ⟨by omega, e⟩
    · rw [kpI_yes e] at h
      have := kpI_mem h
      exact ⟨by omega, this.2⟩
/-- Which pieces go: those whose first fell. -/
def delF (F : List (List (Int × Int × Int))) (O : List (Int × Int × Int)) (k : Nat) : Bool := decide (((F.getD k []).getD 0 (0, 0, 0)) ∈ O)
/-- Which triangles are left. -/
def thO (L O : List (Int × Int × Int)) (i : Nat) : Bool := !(decide (L.getD i (0, 0, 0) ∈ O))
/-- The pieces that are left. -/
def RsTo (L O : List (Int × Int × Int)) (w w' : World) (e : Ending) : Prop := ∃ a c part, e = .returned (.slice a (kpI (delF (fcs L part L.length) O) (fcs L part L.length).length).length c) ∧ PartsOk (crS L (sdT (thO L O) (fun _ => 0))) L part ∧ NRe w' a ((kpI (delF (fcs L part L.length) O) (fcs L part L.length).length).map fun k => (fcs L part L.length).getD k []) ∧ Below w.heap.size w w'
set_option maxRecDepth 100000 in
set_option maxHeartbeats 3200000 in
theorem rest_any (w : World) (n m cc oc ra rk : Nat) (ad oa : Option Addr) (L O : List (Int × Int × Int)) (hs : Steps w) (hPA : PA w ad ra L) (hn : n = L.length) (hlen : n ≤ 300) (h0 : 0 < n) (hnd : L.Nodup) (hbd : ∀ t ∈ L, (0 ≤ t.1 ∧ t.1 ≤ 8) ∧ (0 ≤ t.2.1 ∧ t.2.1 ≤ 8) ∧ (0 ≤ t.2.2 ∧ t.2.2 ≤ 3)) (hO : TRow w oa O) (hm : m = O.length) (hml : m ≤ 300) :
    Calls Tryz.prog 39 #[.agg #[.slice ad n cc, .map (some ra), .map (some rk)], .slice oa m oc] w fun e w' => RsTo L O w w' e := by
  have HR : Hid (PA w ad ra L ∧ TRow w oa O ∧ n = L.length ∧ m = O.length ∧ L.Nodup ∧ (∀ t ∈ L, (0 ≤ t.1 ∧ t.1 ≤ 8) ∧ (0 ≤ t.2.1 ∧ t.2.1 ≤ 8) ∧ (0 ≤ t.2.2 ∧ t.2.2 ≤ 3)) ∧ Steps w) := ⟨hPA, hO, hn, hm, hnd, hbd, hs⟩
  clear hs hPA hn hnd hbd hO hm
  have hmm := @run_makeMap Tryz.prog
  have hmf := make_fun
  go_enter Tryz.func39, Tryz.ntmps39
  go_upto_region 2 with fail
  refine wp_named (fun W0 hW0 => ?_)
  have hw0 : Below w.heap.size w W0 := by
    rw [hW0]
    with_reducible repeat (first | exact bl_refl _ | refine bl_alloc ?_ | refine bl_set ?_ ?_)
  have x0 : W0.cell? ⟨w.heap.size, 0, none⟩ = some (.slice ad n cc) := by rw [hW0]; simp [go_sem]
  have x1 : W0.cell? ⟨w.heap.size, 1, none⟩ = some (.map (some ra)) := by rw [hW0]; simp [go_sem]
  have x2 : W0.cell? ⟨w.heap.size, 2, none⟩ = some (.map (some rk)) := by rw [hW0]; simp [go_sem]
  have x3 : W0.cell? ⟨w.heap.size + 1 + 1, 0, none⟩ = some (.map (some (w.heap.size + 1))) := by rw [hW0]; simp [go_sem]
  have xm : RI W0 W0 (w.heap.size + 1) O 0 := by
    refine ⟨⟨[], 0, ?_, Tgood_nil, fun t => by simp [Tlk]⟩, World.grownBy.refl _ _⟩
    rw [hW0]
    have h := Tem_made (w.alloc (.cells #[.slice ad n cc, .map (some ra), .map (some rk)] 67))
    rw [show (w.alloc (.cells #[.slice ad n cc, .map (some ra), .map (some rk)] 67)).heap.size = w.heap.size + 1 by simp] at h
    exact h.grown (World.grownBy_alloc _ _ none) (by simp)
  have HW : Hid (Below w.heap.size w W0) := hw0
  have HX : Hid (W0.cell? ⟨w.heap.size, 0, none⟩ = some (.slice ad n cc) ∧ W0.cell? ⟨w.heap.size, 1, none⟩ = some (.map (some ra)) ∧ W0.cell? ⟨w.heap.size, 2, none⟩ = some (.map (some rk)) ∧ W0.cell? ⟨w.heap.size + 1 + 1, 0, none⟩ = some (.map (some (w.heap.size + 1)))) := ⟨x0, x1, x2, x3⟩
  have HM : Hid (RI W0 W0 (w.heap.size + 1) O 0) := xm
  have zz : W0.heap.size = w.heap.size + 3 := by rw [hW0]; simp
  have HZ : Hid (W0.heap.size = w.heap.size + 3) := zz
  clear hW0 hw0 x0 x1 x2 x3 xm zz
  go_wp2
  go_loopg [14] m (fun gk s14 wx => ∃ i : Nat, i ≤ m ∧ gk = m - i ∧ s14 = .int .i64 (i : Int) ∧ RI W0 wx (w.heap.size + 1) O i)
  case atStart => exact ⟨0, by omega, rfl, rfl, HM.out⟩
  case round =>
    obtain ⟨i, hi, rfl, rfl, hRI⟩ := hrel
    have HI : Hid (RI W0 wr (w.heap.size + 1) O i ∧ Below w.heap.size w wr) := ⟨hRI, hRI.below HW.out (by omega)⟩
    have x0 := hRI.cell HX.out.1 (by simp)
    have x1 := hRI.cell HX.out.2.1 (by simp)
    have x2 := hRI.cell HX.out.2.2.1 (by simp)
    have x3 := hRI.cell HX.out.2.2.2 (by simp)
    clear hRI
    have z0 : w.heap.size < wr.heap.size := World.block_lt_of_cell? _ _ x0
    have z2 : w.heap.size + 1 + 1 < wr.heap.size := World.block_lt_of_cell? _ _ x3
    by_cases h1 : i < m
    · have i1 : (i : Int) < (m : Int) := by omega
      have i0 : (0 : Int) ≤ (i : Int) := by omega
      have hiO : i < O.length := by rw [← HR.out.2.2.2.1]; exact h1
      obtain ⟨gp, ep, t0, t1, t2⟩ := (HR.out.2.1.kept HI.out.2) i hiO
      subst ep
      obtain ⟨px, py, pk, hti⟩ : ∃ x y k, O[i] = (x, y, k) := ⟨_, _, _, rfl⟩
      rw [hti] at t0 t1 t2
      dsimp only at t0 t1 t2
      have zp : gp < wr.heap.size := World.block_lt_of_cell? _ _ t0
      obtain ⟨W', hrun, hRI', hsz⟩ := (HI.out.1.still (bl_alloc (o := .cells #[.int .i64 px, .int .i64 py, .int .i64 pk] 43) (bl_refl wr))).next hiO hti
      have HN : Hid (RI W0 W' (w.heap.size + 1) O (i + 1)) := hRI'
      clear hti hRI' hsz hiO
      go_wp2
      go_roundg (m - (i + 1))
      case measure => omega
      case rel => exact ⟨i + 1, by omega, rfl, by go_num, HN.out⟩
    · have i1 : ¬ (i : Int) < (m : Int) := by omega
      have him : i = O.length := by
        have := HR.out.2.2.2.1
        omega
      have HI2 : Hid (RI W0 wr (w.heap.size + 1) O O.length ∧ Below w.heap.size w wr) := him ▸ HI.out
      clear HI him
      go_upto_region 9 with fail
      refine wp_named (fun W4 hW4 => ?_)
      obtain ⟨B, hB⟩ : ∃ B, B = wr.heap.size := ⟨_, rfl⟩
      have hb4 : Below wr.heap.size wr W4 := by
        rw [hW4]
        with_reducible repeat (first | exact bl_refl _ | refine bl_alloc ?_ | refine bl_set ?_ ?_)
      have p0 : W4.cell? ⟨B, 0, none⟩ = some (.func (.func 71) #[] #[.pointer (some ⟨w.heap.size + 1 + 1, 0, none⟩)]) := by rw [hW4, hB]; simp [go_sem]
      rw [← hB]
      replace x0 := cl_kept hb4 x0
      replace x1 := cl_kept hb4 x1
      replace x2 := cl_kept hb4 x2
      replace x3 := cl_kept hb4 x3
      have HB4 : Hid (Below w.heap.size w W4 ∧ RI W0 W4 (w.heap.size + 1) O O.length ∧ W4.cell? ⟨B, 0, none⟩ = some (.func (.func 71) #[] #[.pointer (some ⟨w.heap.size + 1 + 1, 0, none⟩)]) ∧ W4.cell? ⟨w.heap.size + 1 + 1, 0, none⟩ = some (.map (some (w.heap.size + 1))) ∧ W4.cell? ⟨w.heap.size, 0, none⟩ = some (.slice ad n cc)) := ⟨bl_via HI2.out.2 hb4, HI2.out.1.still hb4, p0, x3, x0⟩
      have hBs : B < W4.heap.size := World.block_lt_of_cell? _ _ p0
      have hBl : W0.heap.size ≤ B := by rw [hB]; exact HI2.out.1.gr.size
      have zb : w.heap.size < W4.heap.size := World.block_lt_of_cell? _ _ x0
      clear hW4 hB hb4 z0 z2
      have CP : Hid (∀ V : World, Below W4.heap.size W4 V → Calls Tryz.prog 26 #[.agg #[.slice ad n cc, .map (some ra), .map (some rk)], .func (.func 72) #[] #[.pointer (some ⟨B, 0, none⟩), .pointer (some ⟨w.heap.size, 0, none⟩)]] V fun e w' => ∃ g' part, e = .returned (.slice (some ⟨g', 0, none⟩) n n) ∧ ZRow w' g' n part ∧ PartsOk (crS L (sdT (thO L O) (fun _ => 0))) L part ∧ Below V.heap.size V w') := fun V hV => by
        have := parts_x V cc ra rk ad L B w.heap.size (crS L (sdT (thO L O) (fun _ => 0))) (HR.out.2.2.2.2.2.2.kept (bl_via HB4.out.1 hV)) (HR.out.1.kept (bl_via HB4.out.1 hV)) (by rw [← HR.out.2.2.1]; exact hlen) HR.out.2.2.2.2.1 HR.out.2.2.2.2.2.1 (fun i j hi hj r0 r1 r2 r3 V' hne e1 e2 hV' => by
          rw [crS_is HR.out.2.2.2.2.1 (fun t ht => (HR.out.2.2.2.2.2.1 t ht).2.2) hi hj hne e1 e2, sdT_eq hne]
          have hVV := bl_via hV hV'
          have := restCl_any V' B w.heap.size (w.heap.size + 1) (w.heap.size + 1 + 1) n cc i j ad L (fun t => decide (t ∈ O)) r0 r1 r2 r3 (by rw [HR.out.2.2.1]; exact hi) (by rw [HR.out.2.2.1]; exact hj) HR.out.2.2.1 hlen (cl_kept hVV HB4.out.2.2.1) (cl_kept hVV HB4.out.2.2.2.2) (HR.out.1.1.kept (bl_via HB4.out.1 hVV)) (HB4.out.2.1.still hVV).fl (cl_kept hVV HB4.out.2.2.2.1)
          simpa [thO] using this)
        rw [← HR.out.2.2.1] at this
        exact this.mono fun e w' ⟨g', part, he, h1, h2, _, h4⟩ => ⟨g', part, he, h1, h2, h4⟩
      have CG : Hid (∀ (V : World) (g' : Nat) (part : Nat → Int), Below W4.heap.size W4 V → ZRow V g' n part → NumOk part L.length → Calls Tryz.prog 25 #[.agg #[.slice ad n cc, .map (some ra), .map (some rk)], .slice (some ⟨g', 0, none⟩) n n] V fun e w' => ∃ u, e = .returned u ∧ Nest w' V.heap.size u (fcs L part L.length) ∧ Below V.heap.size V w') := fun V g' part hV hz hnm => by
        have := gathered_any V cc ra rk g' n ad L part (HR.out.1.1.kept (bl_via HB4.out.1 hV)) (by rw [← HR.out.2.2.1]; exact hz) hnm (by rw [← HR.out.2.2.1]; exact hlen)
        rw [← HR.out.2.2.1] at this
        exact HR.out.2.2.1 ▸ this
      clear p0 x3
      go_region_held3 (fun w' => w'.cell? ⟨w.heap.size, 0, none⟩ = some (.slice ad n cc) ∧ w'.cell? ⟨w.heap.size, 1, none⟩ = some (.map (some ra)) ∧ w'.cell? ⟨w.heap.size, 2, none⟩ = some (.map (some rk)))
        ((refine ⟨?_, ?_, ?_⟩ <;> (with_reducible repeat (first | assumption | refine dr_old ?_ | refine cl_kept hb5 ?_ | refine cl_kept hb6 ?_))))
        (first
          | (go_at_call 26; refine (CP.out _ (by with_reducible repeat (first | exact bl_refl _ | refine bl_drew ?_))).mono ?_; rintro e w5 ⟨g5, part, rfl, hz5, hp5, hb5⟩; have H5 : Hid (ZRow w5 g5 n part ∧ PartsOk (crS L (sdT (thO L O) (fun _ => 0))) L part ∧ Below W4.heap.size W4 w5) := ⟨hz5, hp5, bl_via (by with_reducible repeat (first | exact bl_refl _ | refine bl_drew ?_)) hb5⟩; clear hz5 hp5)
          | (go_at_call 25; refine (CG.out _ g5 part (bl_via H5.out.2.2 (by with_reducible repeat (first | exact bl_refl _ | refine bl_drew ?_))) (H5.out.1.kept (by with_reducible repeat (first | exact bl_refl _ | refine bl_drew ?_))) H5.out.2.1.num).mono ?_; rintro e w6 ⟨u6, rfl, hn6, hb6⟩; have H6 : Hid (Nest w6 W4.heap.size u6 (fcs L part L.length) ∧ Below W4.heap.size W4 w6) := ⟨hn6.mono (bl_via H5.out.2.2 (by with_reducible repeat (first | exact bl_refl _ | refine bl_drew ?_))).size, bl_via (bl_via H5.out.2.2 (by with_reducible repeat (first | exact bl_refl _ | refine bl_drew ?_))) hb6⟩; clear hn6)
          | fail)
      all_goals
        obtain ⟨vs, hv⟩ := H6.out.1
        obtain ⟨F, hF⟩ : ∃ F, F = fcs L part L.length := ⟨_, rfl⟩
        rw [← hF] at hv
        have hFO : FacesOk L part F := hF ▸ faces_ok H5.out.2.1
        have hF0 : 0 < F.length := by
          have := hFO.1 0 (by rw [← HR.out.2.2.1]; exact h0)
          omega
        have hFl : F.length ≤ 300 := by
          have h1 := fcs_le L part L.length
          have h2 := HR.out.2.2.1
          rw [hF]
          omega
        have hFne : ∀ k (hk : k < F.length), 0 < F[k].length := fun k hk => by
          obtain ⟨b, hb1, hb2⟩ := hFO.2.2.2 k hk
          obtain ⟨q, hq, _⟩ := hFO.2.2.1 b hb1 k hk hb2
          omega
        obtain ⟨a8, c8, rfl, hg⟩ := own_form hv.2.1
        obtain ⟨g, rfl⟩ := hg hF0
        have hcap : F.length ≤ c8 ∧ c8 ≤ maxLen ∧ W4.heap.size ≤ g := by
          rcases hv.2.1.2 with ⟨h, _⟩ | ⟨g', cap, cur, h, h1, _, h2, h3, _⟩
          · simp at h
          · simp only [Value.slice.injEq, Option.some.injEq, Addr.mk.injEq, and_true, true_and] at h
            obtain ⟨rfl, rfl⟩ := h
            exact ⟨h2, h3, h1⟩
        have hvs : ∀ k (hk : k < F.length), ∃ a' c', vs.getD k (.slice none 0 0) = .slice a' F[k].length c' ∧ ∀ V : World, w6.grownBy V (some g) → TRow V a' F[k] := fun k hk => by
          have hk2 : k < vs.length := by rw [hv.1]; exact hk
          have e0 : vs.getD k (.slice none 0 0) = vs[k] := by rw [List.getD_eq_getElem?_getD, List.getElem?_eq_getElem hk2]; rfl
          obtain ⟨a', c', e1, _⟩ := own_tris (hv.2.2.1 k hk2 hk)
          refine ⟨a', c', by rw [e0, e1], fun V hV => ?_⟩
          obtain ⟨a2, c2, e2, hT⟩ := own_tris ((hv.2.2.1 k hk2 hk).kept hV (hv.apart hk2))
          rw [e1] at e2
          simp only [Value.slice.injEq] at e2
          rw [e2.1]
          exact hT
        have hsl : ∀ k (hk : k < F.length) V, w6.grownBy V (some g) → slN (vs.getD k (.slice none 0 0)) = F[k].length ∧ TRow V (slA (vs.getD k (.slice none 0 0))) F[k] := fun k hk V hV => by
          obtain ⟨a', c', e, hT⟩ := hvs k hk
          rw [e]
          exact ⟨rfl, hT V hV⟩
        have gd : ∀ k (hk : k < F.length), F.getD k [] = F[k] := fun k hk => by rw [List.getD_eq_getElem?_getD, List.getElem?_eq_getElem hk]; rfl
        have C73 : Hid (Calls Tryz.prog 73 #[.slice (some ⟨g, 0, none⟩) F.length c8, .func (.func 74) #[] #[.pointer (some ⟨B, 0, none⟩)]] w6 fun e w' => DlTo g F.length c8 (fun k => slA (vs.getD k (.slice none 0 0))) (fun k => slN (vs.getD k (.slice none 0 0))) (fun k => slC (vs.getD k (.slice none 0 0))) (delF F O) w6 w' e) := by
          refine deleteFunc_any w6 g B F.length c8 _ _ _ (delF F O) hFl hcap.1 hcap.2.1 (fun k hk => ?_) (fun k _ => hv.2.1.frozenAt k) (fun k V hk hV => ?_)
          · have hk2 : k < vs.length := by rw [hv.1]; exact hk
            rw [hv.2.1.cellAt k (by omega), List.getElem?_eq_getElem hk2]
            obtain ⟨a', c', e, _⟩ := hvs k hk
            have e0 : vs.getD k (.slice none 0 0) = vs[k] := by rw [List.getD_eq_getElem?_getD, List.getElem?_eq_getElem hk2]; rfl
            rw [← e0, e]
            rfl
          · obtain ⟨a', c', e, hT⟩ := hvs k hk
            have q3 : w.heap.size + 1 + 1 < W4.heap.size := World.block_lt_of_cell? _ _ HB4.out.2.2.2.1
            have := headCl_any V B (w.heap.size + 1) (w.heap.size + 1 + 1) F[k].length c' a' F[k] (fun t => decide (t ∈ O)) rfl (hFne k hk) (hV.cell (cl_kept H6.out.2 HB4.out.2.2.1) (by simp; omega)) (hT V hV) ((HB4.out.2.1.still H6.out.2).far hV (by omega) (by omega)).fl (hV.cell (cl_kept H6.out.2 HB4.out.2.2.2.1) (by simp; omega))
            rw [e]
            refine this.mono fun e9 w9 h9 => ⟨?_, h9.2⟩
            rw [h9.1]
            show _ = Ending.returned (.bool (decide (((F.getD k []).getD 0 (0, 0, 0)) ∈ O)))
            rw [gd k hk]
        have HF : Hid (F = fcs L part L.length ∧ W4.heap.size ≤ g ∧ ∀ k (hk : k < F.length) V, w6.grownBy V (some g) → slN (vs.getD k (.slice none 0 0)) = F[k].length ∧ TRow V (slA (vs.getD k (.slice none 0 0))) F[k]) := ⟨hF, hcap.2.2, hsl⟩
        have HGD : Hid (∀ k (hk : k < F.length), F.getD k [] = F[k]) := gd
        clear hv hF hFO hF0 hFl hFne hg hcap hvs hsl gd x0 x1 x2 hBs hBl zb
        go_wp2_with (go_at_call 73; refine C73.out.mono ?_; rintro e w7 hd; obtain ⟨rfl, hd2, hd3⟩ := hd; have HD : Hid ((∀ k (h : k < (kpI (delF F O) F.length).length), w7.cell? ⟨g, k, none⟩ = some (.slice (slA (vs.getD (kpI (delF F O) F.length)[k] (.slice none 0 0))) (slN (vs.getD (kpI (delF F O) F.length)[k] (.slice none 0 0))) (slC (vs.getD (kpI (delF F O) F.length)[k] (.slice none 0 0))))) ∧ w6.grownBy w7 (some g)) := ⟨hd2, hd3⟩; clear hd2 hd3)
        go_ret
        refine ⟨some ⟨g, 0, none⟩, c8, part, by rw [← HF.out.1]; rfl, H5.out.2.1, ?_, (bl_via HB4.out.1 H6.out.2).grown HD.out.2 (bl_via HB4.out.1 H6.out.2).size (fun k hk => by have := HF.out.2.1; have := HB4.out.1.size; simp at hk; omega)⟩
        rw [← HF.out.1]
        intro q hq
        have hq2 : q < (kpI (delF F O) F.length).length := by simpa using hq
        have hkk : (kpI (delF F O) F.length)[q] < F.length := (kpI_mem (List.getElem_mem hq2)).1
        obtain ⟨e1, hT⟩ := HF.out.2.2 _ hkk w7 HD.out.2
        have e2 : ((kpI (delF F O) F.length).map fun k => F.getD k [])[q] = F[(kpI (delF F O) F.length)[q]] := by rw [List.getElem_map, HGD.out _ hkk]
        refine ⟨g, slA (vs.getD (kpI (delF F O) F.length)[q] (.slice none 0 0)), slC (vs.getD (kpI (delF F O) F.length)[q] (.slice none 0 0)), rfl, ?_, ?_⟩
        · rw [e2, ← e1]
          exact HD.out.1 q hq2
        · rw [e2]
          exact hT

set_option maxRecDepth 100000 in
set_option maxHeartbeats 3200000 in
theorem punch_no (W H x y t : Int) (a c mp sp : Option Addr) (zl ca n cc mn mc sn sc : Nat) (w : World) (CO : Hid (∀ V : World, Below w.heap.size w V → Calls Tryz.prog 22 #[.agg #[.int .i64 W, .int .i64 H, .slice a zl ca, .slice c n cc, .slice mp mn mc, .slice sp sn sc]] V fun e w' => ∃ z0 k0 d0 m1 m2 z3 k3 d3 z4 k4 d4 f, e = .returned (.tuple #[.agg #[.slice z0 k0 d0, .map m1, .map m2, .slice z3 k3 d3, .slice z4 k4 d4], f, .bool false]) ∧ Below V.heap.size V w')) :
    Calls Tryz.prog 12 #[.agg #[.int .i64 W, .int .i64 H, .slice a zl ca, .slice c n cc, .slice mp mn mc, .slice sp sn sc], .agg #[.int .i64 x, .int .i64 y, .int .i64 t]] w fun e w' => e = .returned (.tuple #[.slice none 0 0, .slice none 0 0, .int .i64 10]) ∧ Below w.heap.size w w' := by
  go_enter Tryz.func12, Tryz.ntmps12
  go_upto_region 1 with fail
  refine wp_named (fun W0 hW0 => ?_)
  have hw0 : Below w.heap.size w W0 := by rw [hW0]; exact bl_alloc (bl_alloc (bl_refl _))
  have x0 : W0.cell? ⟨w.heap.size, 0, none⟩ = some (.int .i64 W) := by rw [hW0]; simp [go_sem]
  have x1 : W0.cell? ⟨w.heap.size, 1, none⟩ = some (.int .i64 H) := by rw [hW0]; simp [go_sem]
  have x2 : W0.cell? ⟨w.heap.size, 2, none⟩ = some (.slice a zl ca) := by rw [hW0]; simp [go_sem]
  have x3 : W0.cell? ⟨w.heap.size, 3, none⟩ = some (.slice c n cc) := by rw [hW0]; simp [go_sem]
  have x4 : W0.cell? ⟨w.heap.size, 4, none⟩ = some (.slice mp mn mc) := by rw [hW0]; simp [go_sem]
  have x5 : W0.cell? ⟨w.heap.size, 5, none⟩ = some (.slice sp sn sc) := by rw [hW0]; simp [go_sem]
  have y0 : W0.cell? ⟨w.heap.size + 1, 0, none⟩ = some (.int .i64 x) := by rw [hW0]; simp [go_sem]
  have y1 : W0.cell? ⟨w.heap.size + 1, 1, none⟩ = some (.int .i64 y) := by rw [hW0]; simp [go_sem]
  have y2 : W0.cell? ⟨w.heap.size + 1, 2, none⟩ = some (.int .i64 t) := by rw [hW0]; simp [go_sem]
  clear hW0
  go_wp2_with (go_at_call 22; refine (CO.out _ hw0).mono ?_; rintro e w1 ⟨z0, k0, d0, m1, m2, z3, k3, d3, z4, k4, d4, f, rfl, hb1⟩; have HB1 : Hid (Below w.heap.size w w1) := bl_via hw0 hb1; clear hb1)
  refine bodyPost_ret (v := .tuple #[.slice none 0 0, .slice none 0 0, .int .i64 10]) (by simp [results, Tryz.results12, go_sem]) rfl ⟨rfl, ?_⟩
  have := HB1.out.size
  with_reducible repeat (first | exact HB1.out | refine bl_alloc ?_ | refine bl_set ?_ ?_)
  all_goals first | exact HB1.out | (dsimp only; omega)
set_option maxRecDepth 100000 in
set_option maxHeartbeats 3200000 in
theorem punch_place (W H x y t : Int) (a c mp sp : Option Addr) (zl ca n cc mn mc sn sc : Nat) (nn : Nat) (L : List (Int × Int × Int)) (kd : Int × Int × Int × Int → Int) (P : (Nat → M6) → Prop) (w : World) (ht : triB x y t = false) (CO : Hid (∀ V : World, Below w.heap.size w V → Calls Tryz.prog 22 #[.agg #[.int .i64 W, .int .i64 H, .slice a zl ca, .slice c n cc, .slice mp mn mc, .slice sp sn sc]] V fun e w' => ∃ M ad k ra rk gm cm pa pc f, e = .returned (.tuple #[.agg #[.slice ad nn k, .map (some ra), .map (some rk), .slice (some ⟨gm, 0, none⟩) nn cm, .slice pa nn pc], f, .bool true]) ∧ PileAt w' ad k ra rk gm cm pa pc L kd M ∧ P M ∧ Below V.heap.size V w')) :
    Calls Tryz.prog 12 #[.agg #[.int .i64 W, .int .i64 H, .slice a zl ca, .slice c n cc, .slice mp mn mc, .slice sp sn sc], .agg #[.int .i64 x, .int .i64 y, .int .i64 t]] w fun e w' => e = .returned (.tuple #[.slice none 0 0, .slice none 0 0, .int .i64 3]) ∧ Below w.heap.size w w' := by
  have CC : Hid (∀ V : World, Calls Tryz.prog 37 #[.agg #[.int .i64 x, .int .i64 y, .int .i64 t]] V fun r w' => r = .returned (.tuple #[.agg #[.int .i64 0, .int .i64 0, .int .i64 0, .int .i64 0, .int .i64 0, .int .i64 0], .int .i64 3]) ∧ Below V.heap.size V w') := fun V => Corners_out x y t V ht
  clear ht
  go_enter Tryz.func12, Tryz.ntmps12
  go_upto_region 1 with fail
  refine wp_named (fun W0 hW0 => ?_)
  have hw0 : Below w.heap.size w W0 := by rw [hW0]; exact bl_alloc (bl_alloc (bl_refl _))
  have x0 : W0.cell? ⟨w.heap.size, 0, none⟩ = some (.int .i64 W) := by rw [hW0]; simp [go_sem]
  have x1 : W0.cell? ⟨w.heap.size, 1, none⟩ = some (.int .i64 H) := by rw [hW0]; simp [go_sem]
  have x2 : W0.cell? ⟨w.heap.size, 2, none⟩ = some (.slice a zl ca) := by rw [hW0]; simp [go_sem]
  have x3 : W0.cell? ⟨w.heap.size, 3, none⟩ = some (.slice c n cc) := by rw [hW0]; simp [go_sem]
  have x4 : W0.cell? ⟨w.heap.size, 4, none⟩ = some (.slice mp mn mc) := by rw [hW0]; simp [go_sem]
  have x5 : W0.cell? ⟨w.heap.size, 5, none⟩ = some (.slice sp sn sc) := by rw [hW0]; simp [go_sem]
  have y0 : W0.cell? ⟨w.heap.size + 1, 0, none⟩ = some (.int .i64 x) := by rw [hW0]; simp [go_sem]
  have y1 : W0.cell? ⟨w.heap.size + 1, 1, none⟩ = some (.int .i64 y) := by rw [hW0]; simp [go_sem]
  have y2 : W0.cell? ⟨w.heap.size + 1, 2, none⟩ = some (.int .i64 t) := by rw [hW0]; simp [go_sem]
  clear hW0
  go_upto_region 2 with (go_at_call 22; refine (CO.out _ hw0).mono ?_; rintro e w1 ⟨M, ad, k, ra, rk, gm, cm, pa, pc, f, rfl, hp1, hP1, hb1⟩; have HB1 : Hid (Below w.heap.size w w1 ∧ Below W0.heap.size W0 w1 ∧ PileAt w1 ad k ra rk gm cm pa pc L kd M ∧ P M) := ⟨bl_via hw0 hb1, hb1, hp1, hP1⟩; have u0 := cl_kept hb1 y0; have u1 := cl_kept hb1 y1; have u2 := cl_kept hb1 y2; have zu : w.heap.size + 1 < w1.heap.size := World.block_lt_of_cell? _ _ u0; clear hb1 hp1 hP1)
  refine wp_named (fun W2 hW2 => ?_)
  obtain ⟨G, hG⟩ : ∃ G, G = w1.heap.size := ⟨_, rfl⟩
  have hb2 : Below w1.heap.size w1 W2 := by
    rw [hW2]
    with_reducible repeat (first | exact bl_refl _ | refine bl_alloc ?_ | refine bl_set ?_ ?_)
    all_goals (dsimp only; omega)
  have q0 : W2.cell? ⟨G, 0, none⟩ = some (.slice ad nn k) := by rw [hW2, hG]; simp [go_sem]
  have q1 : W2.cell? ⟨G, 1, none⟩ = some (.map (some ra)) := by rw [hW2, hG]; simp [go_sem]
  have q2 : W2.cell? ⟨G, 2, none⟩ = some (.map (some rk)) := by rw [hW2, hG]; simp [go_sem]
  have q3 : W2.cell? ⟨G, 3, none⟩ = some (.slice (some ⟨gm, 0, none⟩) nn cm) := by rw [hW2, hG]; simp [go_sem]
  have q4 : W2.cell? ⟨G, 4, none⟩ = some (.slice pa nn pc) := by rw [hW2, hG]; simp [go_sem]
  rw [← hG]
  replace u0 := cl_kept hb2 u0
  replace u1 := cl_kept hb2 u1
  replace u2 := cl_kept hb2 u2
  have HB2 : Hid (Below w.heap.size w W2 ∧ PileAt W2 ad k ra rk gm cm pa pc L kd M ∧ P M) := ⟨bl_via HB1.out.1 hb2, HB1.out.2.2.1.kept hb2, HB1.out.2.2.2⟩
  have zq : G < W2.heap.size := World.block_lt_of_cell? _ _ q4
  have zv : w.heap.size + 1 < W2.heap.size := World.block_lt_of_cell? _ _ u0
  clear hW2 hG hb2 x0 x1 x2 x3 x4 x5 y0 y1 y2 hw0
  go_wp2_with (go_at_call 37; refine (CC.out _).mono ?_; rintro e w3 ⟨rfl, hb3⟩; have HB3 : Hid (Below w.heap.size w w3) := bl_via HB2.out.1 hb3; clear hb3)
  refine bodyPost_ret (v := .tuple #[.slice none 0 0, .slice none 0 0, .int .i64 3]) (by simp [results, Tryz.results12, go_sem]) rfl ⟨rfl, ?_⟩
  have := HB3.out.size
  with_reducible repeat (first | exact HB3.out | refine bl_alloc ?_ | refine bl_set ?_ ?_)
  all_goals first | exact HB3.out | (dsimp only; omega)
/-- What falls out, and the pieces that are left. -/
def PnTo (L : List (Int × Int × Int)) (P : (Nat → M6) → Prop) (x y t : Int) (w w' : World) (e : Ending) : Prop := ∃ M a1 c1 a2 c2 part, P M ∧ e = .returned (.tuple #[.slice a1 (lyL L (pls L M L.length) (x, y, t) L.length).length c1, .slice a2 (kpI (delF (fcs L part L.length) (lyL L (pls L M L.length) (x, y, t) L.length)) (fcs L part L.length).length).length c2, .int .i64 0]) ∧ TRow w' a1 (lyL L (pls L M L.length) (x, y, t) L.length) ∧ PartsOk (crS L (sdT (thO L (lyL L (pls L M L.length) (x, y, t) L.length)) (fun _ => 0))) L part ∧ NRe w' a2 ((kpI (delF (fcs L part L.length) (lyL L (pls L M L.length) (x, y, t) L.length)) (fcs L part L.length).length).map fun k => (fcs L part L.length).getD k []) ∧ Below w.heap.size w w'
set_option maxRecDepth 100000 in
set_option maxHeartbeats 3200000 in
theorem punch_ok (W H x y t : Int) (a c mp sp : Option Addr) (zl ca n cc mn mc sn sc : Nat) (nn : Nat) (L : List (Int × Int × Int)) (kd : Int × Int × Int × Int → Int) (P : (Nat → M6) → Prop) (w : World) (hnn : nn = L.length) (h0 : 0 < nn) (hlen : nn ≤ 300) (ht : triB x y t = true) (hs : Steps w) (hnd : L.Nodup) (hbd : ∀ t ∈ L, (0 ≤ t.1 ∧ t.1 ≤ 8) ∧ (0 ≤ t.2.1 ∧ t.2.1 ≤ 8) ∧ (0 ≤ t.2.2 ∧ t.2.2 ≤ 3)) (CO : Hid (∀ V : World, Below w.heap.size w V → Calls Tryz.prog 22 #[.agg #[.int .i64 W, .int .i64 H, .slice a zl ca, .slice c n cc, .slice mp mn mc, .slice sp sn sc]] V fun e w' => ∃ M ad k ra rk gm cm pa pc f, e = .returned (.tuple #[.agg #[.slice ad nn k, .map (some ra), .map (some rk), .slice (some ⟨gm, 0, none⟩) nn cm, .slice pa nn pc], f, .bool true]) ∧ PileAt w' ad k ra rk gm cm pa pc L kd M ∧ P M ∧ Below V.heap.size V w')) :
    Calls Tryz.prog 12 #[.agg #[.int .i64 W, .int .i64 H, .slice a zl ca, .slice c n cc, .slice mp mn mc, .slice sp sn sc], .agg #[.int .i64 x, .int .i64 y, .int .i64 t]] w fun e w' => PnTo L P x y t w w' e := by
  have HN : Hid (nn = L.length ∧ L.Nodup ∧ (∀ t ∈ L, (0 ≤ t.1 ∧ t.1 ≤ 8) ∧ (0 ≤ t.2.1 ∧ t.2.1 ≤ 8) ∧ (0 ≤ t.2.2 ∧ t.2.2 ≤ 3)) ∧ Steps w) := ⟨hnn, hnd, hbd, hs⟩
  have CC : Hid (∀ V : World, Below w.heap.size w V → Calls Tryz.prog 37 #[.agg #[.int .i64 x, .int .i64 y, .int .i64 t]] V fun r w' => r = .returned (.tuple #[.agg #[.int .i64 (2 * x + 1), .int .i64 (2 * y + 1), .int .i64 (c1x x t), .int .i64 (c1y y t), .int .i64 (c2x x t), .int .i64 (c2y y t)], .int .i64 0]) ∧ Below V.heap.size V w') := fun V hV => Corners_yes x y t V ht (hs.kept hV)
  clear hnn ht hs hnd hbd
  go_enter Tryz.func12, Tryz.ntmps12
  go_upto_region 1 with fail
  refine wp_named (fun W0 hW0 => ?_)
  have hw0 : Below w.heap.size w W0 := by rw [hW0]; exact bl_alloc (bl_alloc (bl_refl _))
  have x0 : W0.cell? ⟨w.heap.size, 0, none⟩ = some (.int .i64 W) := by rw [hW0]; simp [go_sem]
  have x1 : W0.cell? ⟨w.heap.size, 1, none⟩ = some (.int .i64 H) := by rw [hW0]; simp [go_sem]
  have x2 : W0.cell? ⟨w.heap.size, 2, none⟩ = some (.slice a zl ca) := by rw [hW0]; simp [go_sem]
  have x3 : W0.cell? ⟨w.heap.size, 3, none⟩ = some (.slice c n cc) := by rw [hW0]; simp [go_sem]
  have x4 : W0.cell? ⟨w.heap.size, 4, none⟩ = some (.slice mp mn mc) := by rw [hW0]; simp [go_sem]
  have x5 : W0.cell? ⟨w.heap.size, 5, none⟩ = some (.slice sp sn sc) := by rw [hW0]; simp [go_sem]
  have y0 : W0.cell? ⟨w.heap.size + 1, 0, none⟩ = some (.int .i64 x) := by rw [hW0]; simp [go_sem]
  have y1 : W0.cell? ⟨w.heap.size + 1, 1, none⟩ = some (.int .i64 y) := by rw [hW0]; simp [go_sem]
  have y2 : W0.cell? ⟨w.heap.size + 1, 2, none⟩ = some (.int .i64 t) := by rw [hW0]; simp [go_sem]
  clear hW0
  go_upto_region 2 with (go_at_call 22; refine (CO.out _ hw0).mono ?_; rintro e w1 ⟨M, ad, k, ra, rk, gm, cm, pa, pc, f, rfl, hp1, hP1, hb1⟩; have HB1 : Hid (Below w.heap.size w w1 ∧ Below W0.heap.size W0 w1 ∧ PileAt w1 ad k ra rk gm cm pa pc L kd M ∧ P M) := ⟨bl_via hw0 hb1, hb1, hp1, hP1⟩; have u0 := cl_kept hb1 y0; have u1 := cl_kept hb1 y1; have u2 := cl_kept hb1 y2; have zu : w.heap.size + 1 < w1.heap.size := World.block_lt_of_cell? _ _ u0; clear hb1 hp1 hP1)
  refine wp_named (fun W2 hW2 => ?_)
  obtain ⟨G, hG⟩ : ∃ G, G = w1.heap.size := ⟨_, rfl⟩
  have hb2 : Below w1.heap.size w1 W2 := by
    rw [hW2]
    with_reducible repeat (first | exact bl_refl _ | refine bl_alloc ?_ | refine bl_set ?_ ?_)
    all_goals (dsimp only; omega)
  have q0 : W2.cell? ⟨G, 0, none⟩ = some (.slice ad nn k) := by rw [hW2, hG]; simp [go_sem]
  have q1 : W2.cell? ⟨G, 1, none⟩ = some (.map (some ra)) := by rw [hW2, hG]; simp [go_sem]
  have q2 : W2.cell? ⟨G, 2, none⟩ = some (.map (some rk)) := by rw [hW2, hG]; simp [go_sem]
  have q3 : W2.cell? ⟨G, 3, none⟩ = some (.slice (some ⟨gm, 0, none⟩) nn cm) := by rw [hW2, hG]; simp [go_sem]
  have q4 : W2.cell? ⟨G, 4, none⟩ = some (.slice pa nn pc) := by rw [hW2, hG]; simp [go_sem]
  rw [← hG]
  replace u0 := cl_kept hb2 u0
  replace u1 := cl_kept hb2 u1
  replace u2 := cl_kept hb2 u2
  have HB2 : Hid (Below w.heap.size w W2 ∧ PileAt W2 ad k ra rk gm cm pa pc L kd M ∧ P M) := ⟨bl_via HB1.out.1 hb2, HB1.out.2.2.1.kept hb2, HB1.out.2.2.2⟩
  have zq : G < W2.heap.size := World.block_lt_of_cell? _ _ q4
  have zv : w.heap.size + 1 < W2.heap.size := World.block_lt_of_cell? _ _ u0
  clear hW2 hG hb2 x0 x1 x2 x3 x4 x5 y0 y1 y2 hw0
  go_upto_region 7 with (go_at_call 37; refine (CC.out _ HB2.out.1).mono ?_; rintro e w3 ⟨rfl, hb3⟩; have HB3 : Hid (Below w.heap.size w w3 ∧ PileAt w3 ad k ra rk gm cm pa pc L kd M) := ⟨bl_via HB2.out.1 hb3, HB2.out.2.1.kept hb3⟩; replace q0 := cl_kept hb3 q0; replace q1 := cl_kept hb3 q1; replace q2 := cl_kept hb3 q2; replace q3 := cl_kept hb3 q3; replace q4 := cl_kept hb3 q4; replace u0 := cl_kept hb3 u0; replace u1 := cl_kept hb3 u1; replace u2 := cl_kept hb3 u2; have z3 : G < w3.heap.size := World.block_lt_of_cell? _ _ q0; clear hb3)
  refine wp_named (fun W4 hW4 => ?_)
  have hb4 : Below w3.heap.size w3 W4 := by
    rw [hW4]
    with_reducible repeat (first | exact bl_refl _ | refine bl_alloc ?_ | refine bl_set ?_ ?_)
    all_goals (dsimp only; omega)
  replace q0 := cl_kept hb4 q0
  replace q1 := cl_kept hb4 q1
  replace q2 := cl_kept hb4 q2
  replace q3 := cl_kept hb4 q3
  replace q4 := cl_kept hb4 q4
  replace u0 := cl_kept hb4 u0
  replace u1 := cl_kept hb4 u1
  replace u2 := cl_kept hb4 u2
  have HB4 : Hid (Below w.heap.size w W4 ∧ PileAt W4 ad k ra rk gm cm pa pc L kd M ∧ P M) := ⟨bl_via HB3.out.1 hb4, HB3.out.2.kept hb4, HB2.out.2.2⟩
  have zG : G < W4.heap.size := World.block_lt_of_cell? _ _ q0
  have zB : w.heap.size + 1 < W4.heap.size := World.block_lt_of_cell? _ _ u0
  obtain ⟨O, hO⟩ : ∃ O, O = lyL L (pls L M L.length) (x, y, t) L.length := ⟨_, rfl⟩
  have HO : Hid (O = lyL L (pls L M L.length) (x, y, t) L.length) := hO
  have hOl : O.length ≤ 300 := by
    rw [hO]
    have h1 := lyL_len L (pls L M L.length) (x, y, t) L.length
    have h2 := HN.out.1
    omega
  clear hW4 hb4 HB3 HB2 CC hO
  have CL : Hid (∀ V : World, Below W4.heap.size W4 V → Calls Tryz.prog 38 #[.agg #[.slice ad nn k, .map (some ra), .map (some rk), .slice (some ⟨gm, 0, none⟩) nn cm, .slice pa nn pc], .agg #[.int .i64 x, .int .i64 y, .int .i64 t]] V fun e w' => ∃ a1 c1, e = .returned (.slice a1 O.length c1) ∧ TRow w' a1 O ∧ Below V.heap.size V w') := fun V hV => by
    have := lyingAt_any x y t ad pa k pc (.map (some ra)) (.map (some rk)) (.slice (some ⟨gm, 0, none⟩) nn cm) L (pls L M L.length) nn V (HB4.out.2.1.kept hV).tr.1 (HB4.out.2.1.kept hV).pl HN.out.1 (by rw [pls_len]; exact HN.out.1) hlen
    refine this.mono fun e w' ⟨u, he, ho, hb⟩ => ?_
    rw [HN.out.1, ← HO.out] at ho
    obtain ⟨a1, c1, rfl, hT⟩ := own_tris ho
    exact ⟨a1, c1, he, hT, hb⟩
  have CR : Hid (∀ (V : World) (a1 : Option Addr) (c1 : Nat), Below W4.heap.size W4 V → TRow V a1 O → Calls Tryz.prog 39 #[.agg #[.slice ad nn k, .map (some ra), .map (some rk)], .slice a1 O.length c1] V fun e w' => RsTo L O V w' e) := fun V a1 c1 hV hT => rest_any V nn O.length k c1 ra rk ad a1 L O (HN.out.2.2.2.kept (bl_via HB4.out.1 hV)) (HB4.out.2.1.kept hV).tr HN.out.1 hlen h0 HN.out.2.1 HN.out.2.2.1 hT rfl hOl
  obtain ⟨ol, hol⟩ : ∃ m, m = O.length := ⟨_, rfl⟩
  rw [← hol] at CL CR hOl
  have HOL : Hid (ol = O.length) := hol
  clear hol
  go_wp2_with (first
    | (go_at_call 38; refine (CL.out _ (bl_refl _)).mono ?_; rintro e w5 ⟨a1, k1, rfl, hT5, hb5⟩; have H5 : Hid (TRow w5 a1 O ∧ Below W4.heap.size W4 w5) := ⟨hT5, hb5⟩; replace q0 := cl_kept hb5 q0; replace q1 := cl_kept hb5 q1; replace q2 := cl_kept hb5 q2; have z5 : G < w5.heap.size := World.block_lt_of_cell? _ _ q0; clear hT5 hb5)
    | (go_at_call 39; refine (CR.out _ a1 k1 H5.out.2 H5.out.1).mono ?_; rintro e w6 ⟨a2, k2, part, rfl, hp6, hn6, hb6⟩; have H6 : Hid (TRow w6 a1 O ∧ PartsOk (crS L (sdT (thO L O) (fun _ => 0))) L part ∧ NRe w6 a2 ((kpI (delF (fcs L part L.length) O) (fcs L part L.length).length).map fun k => (fcs L part L.length).getD k []) ∧ Below w.heap.size w w6) := ⟨H5.out.1.kept hb6, hp6, hn6, bl_via (bl_via HB4.out.1 H5.out.2) hb6⟩; clear hp6 hn6 hb6)
    | fail)
  refine bodyPost_ret (v := .tuple #[.slice a1 ol k1, .slice a2 (kpI (delF (fcs L part L.length) O) (fcs L part L.length).length).length k2, .int .i64 0]) (by simp [results, Tryz.results12, go_sem]) rfl ?_
  refine ⟨M, a1, k1, a2, k2, part, HB4.out.2.2, ?_, ?_, ?_, ?_, H6.out.2.2.2⟩
  · rw [← HO.out, HOL.out]
  · rw [← HO.out]
    exact H6.out.1
  · rw [← HO.out]
    exact H6.out.2.1
  · rw [← HO.out]
    exact H6.out.2.2.1
end Go.Proofs.YtmjhfdohcghhoaaGreatDoor
