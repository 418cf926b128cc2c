/- A crease's line: its numbers are there. -/
import Derived.Test.YtehmoacggikfmaaGreatDoorQlbq
namespace Go.Proofs.YtehmoacggikfmaaGreatDoor
open Go.RowKit Go.ChangeMaps

theorem egs_le {a b c d : Nat} (ha : a < 1000) (hb : b < 1000) (hc : c < 1000) (hd : d < 1000) : (egs (a : Int) b c d).length ≤ 1000 := by
  have key : ∀ {a b c d : Nat}, a < 1000 → b < 1000 → c < 1000 → d < 1000 → (egU (a : Int) b c d).length ≤ 1000 := fun {a b c d} ha hb hc hd => by
    by_cases h : stT (a : Int) b c d = (0, 0)
    · unfold egU
      rw [if_pos h]
      simp
    · rw [egU_bt h, bt_length]
      exact stN_le ha hb hc hd
  unfold egs
  split
  · exact key hc hd ha hb
  · exact key ha hb hc hd
theorem wthn_par {W H a b : Nat} (h : wthn W H a b = true) : a % 2 = b % 2 := by
  unfold wthn at h
  simp only [Bool.and_eq_true, decide_eq_true_eq] at h
  exact h.2
/-- What a line of creases stands on. -/
def CB (w : World) (rb kb : Nat) (n : Int) (W H : Nat) (ad : Option Addr) (cc ra rk : Nat) (L : List (Int × Int × Int)) (cs : List C5) : Prop :=
  w.cell? ⟨rb, 1, none⟩ = some (.int .i64 n) ∧ w.cell? ⟨rb, 2, none⟩ = some (.int .i64 (W : Int)) ∧ w.cell? ⟨rb, 3, none⟩ = some (.int .i64 (H : Int)) ∧ w.cell? ⟨rb, 5, none⟩ = some (.slice ad L.length cc) ∧ w.cell? ⟨rb, 6, none⟩ = some (.map (some ra)) ∧ w.cell? ⟨rb, 7, none⟩ = some (.map (some rk)) ∧ w.cell? ⟨rb, 8, none⟩ = some (.map (some kb)) ∧ PA w ad ra L ∧ KM w kb cs
theorem CB.kept {w wx : World} {rb kb : Nat} {n : Int} {W H : Nat} {ad : Option Addr} {cc ra rk : Nat} {L : List (Int × Int × Int)} {cs : List C5} (h : CB w rb kb n W H ad cc ra rk L cs) (hb : Below w.heap.size w wx) : CB wx rb kb n W H ad cc ra rk L cs :=
  ⟨cl_kept hb h.1, cl_kept hb h.2.1, cl_kept hb h.2.2.1, cl_kept hb h.2.2.2.1, cl_kept hb h.2.2.2.2.1, cl_kept hb h.2.2.2.2.2.1, cl_kept hb h.2.2.2.2.2.2.1, h.2.2.2.2.2.2.2.1.kept hb, h.2.2.2.2.2.2.2.2.kept hb⟩
theorem gb_bl {w v : World} {r : Nat} (h : Below w.heap.size w v) : w.grownBy v (some r) := ⟨h.os, h.tape, h.output, h.size, fun k hk _ => h.block k hk⟩
theorem zeroR3 (u : World) : (zeroValue 3).run Tryz.prog u = .ok (.int .i64 0) u := by kernel_rfl
set_option maxRecDepth 100000 in
set_option maxHeartbeats 6400000 in
theorem rc_all (rb A kb : Nat) (n : Int) (x0 x1 x2 x3 x4 : List UInt8) (W H : Nat) (ad : Option Addr) (cc ra rk : Nat) (L : List (Int × Int × Int)) (cs : List C5) (inn : E4 → Bool) (w : World) (hinn : ∀ e : E4, inn e = decide (cnt L e.1 e.2.1 e.2.2.1 e.2.2.2 = 2)) (hs : SR w A [x0, x1, x2, x3, x4]) (hcb : CB w rb kb n W H ad cc ra rk L cs) (hW : W ≤ 8) (hH : H ≤ 8) (hco : CsOk cs) (hne : kb ≠ rb) (K : Int) (hkd : kdW x0 = K) (hK : K = 1 ∨ K = 2) (v1 v2 v3 v4 : Nat) (h1 : num x1 = some v1) (h2 : num x2 = some v2) (h3 : num x3 = some v3) (h4 : num x4 = some v4) :
    Calls Tryz.prog 28 #[.pointer (some ⟨rb, 0, none⟩), .slice (some ⟨A, 0, none⟩) 5 5] w fun e w' => CrTo w w' kb n (crS W H inn cs [x0, x1, x2, x3, x4]) e := by
  have hc := hcb.1
  have s0 : w.cell? ⟨A, 0, none⟩ = some (.string (bs x0)) := hs 0 (by simp)
  have s1 : w.cell? ⟨A, 1, none⟩ = some (.string (bs x1)) := hs 1 (by simp)
  have s2 : w.cell? ⟨A, 2, none⟩ = some (.string (bs x2)) := hs 2 (by simp)
  have s3 : w.cell? ⟨A, 3, none⟩ = some (.string (bs x3)) := hs 3 (by simp)
  have s4 : w.cell? ⟨A, 4, none⟩ = some (.string (bs x4)) := hs 4 (by simp)
  have K46 : Hid (∀ V : World, Calls Tryz.prog 46 #[.string (bs x0)] V fun e w' => e = .returned (.int .i64 K) ∧ Below V.heap.size V w') := fun V => by
    have h9 := kindOf_code (bs x0) V
    rw [bs_data, hkd] at h9
    exact h9
  have N1 : Hid (∀ V : World, Calls Tryz.prog 24 #[.pointer (some ⟨rb, 0, none⟩), .string (bs x1)] V fun e w' => e = .returned (.int .i64 (v1 : Int)) ∧ Below V.heap.size V w') := fun V => rnumber_yes rb (bs x1) v1 V h1
  have N2 : Hid (∀ V : World, Calls Tryz.prog 24 #[.pointer (some ⟨rb, 0, none⟩), .string (bs x2)] V fun e w' => e = .returned (.int .i64 (v2 : Int)) ∧ Below V.heap.size V w') := fun V => rnumber_yes rb (bs x2) v2 V h2
  have N3 : Hid (∀ V : World, Calls Tryz.prog 24 #[.pointer (some ⟨rb, 0, none⟩), .string (bs x3)] V fun e w' => e = .returned (.int .i64 (v3 : Int)) ∧ Below V.heap.size V w') := fun V => rnumber_yes rb (bs x3) v3 V h3
  have N4 : Hid (∀ V : World, Calls Tryz.prog 24 #[.pointer (some ⟨rb, 0, none⟩), .string (bs x4)] V fun e w' => e = .returned (.int .i64 (v4 : Int)) ∧ Below V.heap.size V w') := fun V => rnumber_yes rb (bs x4) v4 V h4
  have HR : Hid (∀ c l, crS W H inn cs [x0, x1, x2, x3, x4] = (c, l) → c ≠ 0 → ∀ V : World, Below w.heap.size w V → CrTo w V kb n (crS W H inn cs [x0, x1, x2, x3, x4]) (PF c n)) := fun c l e hc0 V hb => CrTo.no e hc0 ⟨rfl, hb⟩
  have hK0 : kdW x0 ≠ 0 := by rw [hkd]; omega
  have HCB : Hid (CB w rb kb n W H ad cc ra rk L cs) := hcb
  have b1 := num_lt h1
  have b2 := num_lt h2
  have b3 := num_lt h3
  have b4 := num_lt h4
  have HO : Hid (∀ c, wthn W H v1 v2 = false ∨ wthn W H v3 v4 = false ∨ egs v1 v2 v3 v4 = [] → c = (3 : Int) → crS W H inn cs [x0, x1, x2, x3, x4] = (c, cs)) := fun c h e => by rw [e]; exact crS_out hK0 h1 h2 h3 h4 h
  have HPL : Hid (wthn W H v1 v2 = true → wthn W H v3 v4 = true → ∀ i (hi : i < (egs (v1 : Int) v2 v3 v4).length), inn ((egs (v1 : Int) v2 v3 v4)[i]) = false → crS W H inn cs [x0, x1, x2, x3, x4] = (5, cs)) := fun a b i hi hn => crS_place hK0 h1 h2 h3 h4 a b hi hn
  have HTW : Hid (wthn W H v1 v2 = true → wthn W H v3 v4 = true → (∀ e ∈ egs (v1 : Int) v2 v3 v4, inn e = true) → ∀ i (hi : i < (egs (v1 : Int) v2 v3 v4).length), kdc cs ((egs (v1 : Int) v2 v3 v4)[i]) ≠ 0 → crS W H inn cs [x0, x1, x2, x3, x4] = (6, cs)) := fun a b ha i hi hn => crS_twice hK0 h1 h2 h3 h4 a b ha hi hn
  have HOK : Hid (wthn W H v1 v2 = true → wthn W H v3 v4 = true → egs (v1 : Int) v2 v3 v4 ≠ [] → (∀ e ∈ egs (v1 : Int) v2 v3 v4, inn e = true) → (∀ e ∈ egs (v1 : Int) v2 v3 v4, kdc cs e = 0) → crS W H inn cs [x0, x1, x2, x3, x4] = (0, putA cs (egs v1 v2 v3 v4) K)) := fun a b c ha hz => by rw [← hkd]; exact crS_ok hK0 h1 h2 h3 h4 a b c ha hz
  have q0 : (K == 0) = false := by simp; omega
  have C47 : Hid (∀ (V : World) (a b : Nat), Below w.heap.size w V → a < 1000 → b < 1000 → Calls Tryz.prog 47 #[.pointer (some ⟨rb, 0, none⟩), .agg #[.int .i64 (a : Int), .int .i64 (b : Int)]] V fun e w' => e = .returned (.bool (wthn W H a b)) ∧ Below V.heap.size V w') := fun V a b hb ha hb2 => within_any rb W H a b V (cl_kept hb hcb.2.1) (cl_kept hb hcb.2.2.1) hW hH ha hb2
  clear hs hkd h1 h2 h3 h4 hcb hK0
  go_enter Tryz.func28, Tryz.ntmps28
  go_wp2_with (first | (go_at_call 46; (with_reducible refine (K46.out _).mono ?_); rintro e w3 ⟨rfl, hbb⟩; have hc3 := cl_kept hbb hc; have e1 := cl_kept hbb s1; have e2 := cl_kept hbb s2; have e3 := cl_kept hbb s3; have e4 := cl_kept hbb s4; have HB3 : Hid (Below w.heap.size w w3) := hbb; clear hbb) | (go_at_call 23; (with_reducible refine (refuse_no _ _ _).mono ?_); rintro e w2 ⟨rfl, hw2⟩; have hw2b := hw2.symm; clear hw2; subst hw2b) | fail)
  go_cut [5] (fun s5 wx => ∃ g : Nat, s5 = .pointer (some ⟨g, 0, none⟩) ∧ wx.cell? ⟨g, 0, none⟩ = some (.int .i64 (v1 : Int)) ∧ wx.cell? ⟨g, 1, none⟩ = some (.int .i64 (v2 : Int)) ∧ Below w3.heap.size w3 wx)
  case first =>
    have zA : A < w3.heap.size := World.block_lt_of_cell? _ _ e1
    refine wp_region_held_drew (S := fun w' => w'.cell? ⟨A, 1, none⟩ = some (.string (bs x1)) ∧ w'.cell? ⟨A, 2, none⟩ = some (.string (bs x2))) (by kernel_rfl) ⟨dr_old e1, dr_old e2⟩ (fun hHeld => ?_)
    try simp only [Act.put, List.getElem_toArray, List.getElem_cons_succ, List.getElem_cons_zero, List.setIfInBounds_toArray, List.set_cons_zero, List.set_cons_succ]
    refine wpAnyH_take (i := 0) (v := .pointer (some ⟨rb, 0, none⟩)) rfl (by kernel_rfl) (by kernel_rfl) (by kernel_rfl) (fun _ _ _ h => h) (Or.inl ⟨by rfl, ?hyy⟩) (by assumption) ?_
    case hyy => (intro w' hSw; (try dsimp only at hSw); go_simp)
    try simp only [Act.put, List.getElem_toArray, List.getElem_cons_zero, List.setIfInBounds_toArray, List.set_cons_zero, List.set_cons_succ]
    refine wpAnyH_take (i := 1) (v := .slice (some ⟨A, 0, none⟩) 5 5) rfl (by kernel_rfl) (by kernel_rfl) (by kernel_rfl) (fun _ _ _ h => h) (Or.inl ⟨by rfl, ?hyy⟩) (by assumption) ?_
    case hyy => (intro w' hSw; (try dsimp only at hSw); go_simp)
    try simp only [Act.put, List.getElem_toArray, List.getElem_cons_succ, List.getElem_cons_zero, List.setIfInBounds_toArray, List.set_cons_zero, List.set_cons_succ]
    refine wpAnyH_take (i := 2) (v := .pointer (some ⟨A, 1, none⟩)) rfl (by kernel_rfl) (by kernel_rfl) (by kernel_rfl) (fun _ _ _ h => h) (Or.inl ⟨by rfl, ?hyy⟩) (by assumption) ?_
    case hyy => (intro w' hSw; (try dsimp only at hSw); go_simp)
    try simp only [Act.put, List.getElem_toArray, List.getElem_cons_succ, List.getElem_cons_zero, List.setIfInBounds_toArray, List.set_cons_zero, List.set_cons_succ]
    refine wpAnyH_take (i := 3) (v := .string (bs x1)) rfl (by kernel_rfl) (by kernel_rfl) (by kernel_rfl) (fun _ _ _ h => h) (Or.inl ⟨by rfl, ?hyy⟩) (by assumption) ?_
    case hyy => (intro w' hSw; (try dsimp only at hSw); go_simp)
    try simp only [Act.put, List.getElem_toArray, List.getElem_cons_succ, List.getElem_cons_zero, List.setIfInBounds_toArray, List.set_cons_zero, List.set_cons_succ]
    refine wpAnyH_take (i := 5) (v := .pointer (some ⟨rb, 0, none⟩)) rfl (by kernel_rfl) (by kernel_rfl) (by kernel_rfl) (fun _ _ _ h => h) (Or.inl ⟨by rfl, ?hyy⟩) (by assumption) ?_
    case hyy => (intro w' hSw; (try dsimp only at hSw); go_simp)
    try simp only [Act.put, List.getElem_toArray, List.getElem_cons_succ, List.getElem_cons_zero, List.setIfInBounds_toArray, List.set_cons_zero, List.set_cons_succ]
    refine wpAnyH_take (i := 6) (v := .slice (some ⟨A, 0, none⟩) 5 5) rfl (by kernel_rfl) (by kernel_rfl) (by kernel_rfl) (fun _ _ _ h => h) (Or.inl ⟨by rfl, ?hyy⟩) (by assumption) ?_
    case hyy => (intro w' hSw; (try dsimp only at hSw); go_simp)
    try simp only [Act.put, List.getElem_toArray, List.getElem_cons_succ, List.getElem_cons_zero, List.setIfInBounds_toArray, List.set_cons_zero, List.set_cons_succ]
    refine wpAnyH_take (i := 7) (v := .pointer (some ⟨A, 2, none⟩)) rfl (by kernel_rfl) (by kernel_rfl) (by kernel_rfl) (fun _ _ _ h => h) (Or.inl ⟨by rfl, ?hyy⟩) (by assumption) ?_
    case hyy => (intro w' hSw; (try dsimp only at hSw); go_simp)
    try simp only [Act.put, List.getElem_toArray, List.getElem_cons_succ, List.getElem_cons_zero, List.setIfInBounds_toArray, List.set_cons_zero, List.set_cons_succ]
    refine wpAnyH_take (i := 8) (v := .string (bs x2)) rfl (by kernel_rfl) (by kernel_rfl) (by kernel_rfl) (fun _ _ _ h => h) (Or.inl ⟨by rfl, ?hyy⟩) (by assumption) ?_
    case hyy => (intro w' hSw; (try dsimp only at hSw); go_simp)
    try simp only [Act.put, List.getElem_toArray, List.getElem_cons_succ, List.getElem_cons_zero, List.setIfInBounds_toArray, List.set_cons_zero, List.set_cons_succ]
    refine wpAnyH_ready (rs := [4, 11]) (by kernel_rfl) (by simp) ?_
    refine AllReadyH.cons rfl (fun J18_0 hJ18_0 => ?_) (AllReadyH.cons rfl (fun J18_1 hJ18_1 => ?_) AllReadyH.nil)
    · go_simp
      refine (N1.out _).mono ?_
      rintro e w718 ⟨rfl, hbw718⟩
      have hzw718 := bl_via (bl_drew (bl_refl _)) hbw718
      have szw718 := hzw718.size
      refine hJ18_0.out _ _ ⟨cl_kept (hzw718) e1, cl_kept (hzw718) e2⟩ (fun _ => ?_)
      try simp only [Act.put, List.getElem_toArray, List.getElem_cons_succ, List.getElem_cons_zero, List.setIfInBounds_toArray, List.set_cons_zero, List.set_cons_succ]
      refine wpAnyH_ready (rs := [9, 11]) (by kernel_rfl) (by simp) ?_
      refine AllReadyH.cons rfl (fun J19_0 hJ19_0 => ?_) (AllReadyH.cons rfl (fun J19_1 hJ19_1 => ?_) AllReadyH.nil)
      · go_simp
        refine (N2.out _).mono ?_
        rintro e w719 ⟨rfl, hbw719⟩
        have hzw719 := bl_via (hzw718) hbw719
        have szw719 := hzw719.size
        refine hJ19_0.out _ _ ⟨cl_kept (hzw719) e1, cl_kept (hzw719) e2⟩ (fun _ => ?_)
        try simp only [Act.put, List.getElem_toArray, List.getElem_cons_succ, List.getElem_cons_zero, List.setIfInBounds_toArray, List.set_cons_zero, List.set_cons_succ]
        refine wpAnyH_take (i := 10) (v := .agg #[.int .i64 (v1 : Int), .int .i64 (v2 : Int)]) rfl (by kernel_rfl) (by kernel_rfl) (by kernel_rfl) (fun _ _ _ h => h) (Or.inl ⟨by rfl, ?hyy⟩) (by assumption) ?_
        case hyy => (intro w' hSw; (try dsimp only at hSw); go_simp)
        try simp only [Act.put, List.getElem_toArray, List.getElem_cons_succ, List.getElem_cons_zero, List.setIfInBounds_toArray, List.set_cons_zero, List.set_cons_succ]
        refine wpAnyH_ready (rs := [11]) (by kernel_rfl) (by simp) ?_
        refine AllReadyH.cons rfl (fun J20_0 hJ20_0 => ?_) AllReadyH.nil
        go_simp
        refine hJ20_0.out _ _ ⟨cl_kept (bl_alloc (hzw719)) e1, cl_kept (bl_alloc (hzw719)) e2⟩ (fun _ => ?_)
        try simp only [Act.put, List.getElem_toArray, List.getElem_cons_succ, List.getElem_cons_zero, List.setIfInBounds_toArray, List.set_cons_zero, List.set_cons_succ]
        refine wpAnyH_ready (rs := [12]) (by kernel_rfl) (by simp) ?_
        refine AllReadyH.cons rfl (fun J21_0 hJ21_0 => ?_) AllReadyH.nil
        go_simp
        refine hJ21_0.out _ _ ⟨cl_kept (bl_alloc (hzw719)) e1, cl_kept (bl_alloc (hzw719)) e2⟩ (fun _ => ?_)
        try simp only [Act.put, List.getElem_toArray, List.getElem_cons_succ, List.getElem_cons_zero, List.setIfInBounds_toArray, List.set_cons_zero, List.set_cons_succ]
        refine wpAnyH_done (by kernel_rfl) ?_ _
        go_wp2
        go_meet
        case rel =>
          refine ⟨w719.heap.size, rfl, ?_, ?_, bl_alloc (hzw719)⟩
          · simp [go_sem, *]
          · simp [go_sem, *]
      · go_simp
        refine hJ19_1.out _ _ ⟨cl_kept (bl_alloc (hzw718)) e1, cl_kept (bl_alloc (hzw718)) e2⟩ (fun _ => ?_)
        try simp only [Act.put, List.getElem_toArray, List.getElem_cons_succ, List.getElem_cons_zero, List.setIfInBounds_toArray, List.set_cons_zero, List.set_cons_succ]
        refine wpAnyH_ready (rs := [9]) (by kernel_rfl) (by simp) ?_
        refine AllReadyH.cons rfl (fun J22_0 hJ22_0 => ?_) AllReadyH.nil
        go_simp
        refine (N2.out _).mono ?_
        rintro e w722 ⟨rfl, hbw722⟩
        have hzw722 := bl_via (bl_alloc (hzw718)) hbw722
        have szw722 := hzw722.size
        have ac0 : w722.cell? ⟨w718.heap.size, 0, none⟩ = some (.int .i64 0) := cl_kept hbw722 (by first | (with_reducible assumption) | (simp [go_sem]; done))
        have af0 : w722.frozen? ⟨w718.heap.size, 0, none⟩ = false := (hbw722.frozen (p := ⟨w718.heap.size, 0, none⟩) (by first | (exact World.block_lt_of_cell? _ _ (by with_reducible assumption)) | (simp; done))).trans (by first | (with_reducible assumption) | (simp [go_sem]; done))
        have ac1 : w722.cell? ⟨w718.heap.size, 1, none⟩ = some (.int .i64 0) := cl_kept hbw722 (by first | (with_reducible assumption) | (simp [go_sem]; done))
        have af1 : w722.frozen? ⟨w718.heap.size, 1, none⟩ = false := (hbw722.frozen (p := ⟨w718.heap.size, 1, none⟩) (by first | (exact World.block_lt_of_cell? _ _ (by with_reducible assumption)) | (simp; done))).trans (by first | (with_reducible assumption) | (simp [go_sem]; done))
        refine hJ22_0.out _ _ ⟨cl_kept (hzw722) e1, cl_kept (hzw722) e2⟩ (fun _ => ?_)
        try simp only [Act.put, List.getElem_toArray, List.getElem_cons_succ, List.getElem_cons_zero, List.setIfInBounds_toArray, List.set_cons_zero, List.set_cons_succ]
        refine wpAnyH_take (i := 10) (v := .agg #[.int .i64 (v1 : Int), .int .i64 (v2 : Int)]) rfl (by kernel_rfl) (by kernel_rfl) (by kernel_rfl) (fun _ _ _ h => h) (Or.inl ⟨by rfl, ?hyy⟩) (by assumption) ?_
        case hyy => (intro w' hSw; (try dsimp only at hSw); go_simp)
        try simp only [Act.put, List.getElem_toArray, List.getElem_cons_succ, List.getElem_cons_zero, List.setIfInBounds_toArray, List.set_cons_zero, List.set_cons_succ]
        refine wpAnyH_ready (rs := [12]) (by kernel_rfl) (by simp) ?_
        refine AllReadyH.cons rfl (fun J23_0 hJ23_0 => ?_) AllReadyH.nil
        go_simp
        refine hJ23_0.out _ _ ⟨st_two (cl_kept (hzw722) e1) (by omega), st_two (cl_kept (hzw722) e2) (by omega)⟩ (fun _ => ?_)
        try simp only [Act.put, List.getElem_toArray, List.getElem_cons_succ, List.getElem_cons_zero, List.setIfInBounds_toArray, List.set_cons_zero, List.set_cons_succ]
        refine wpAnyH_done (by kernel_rfl) ?_ _
        go_wp2
        go_meet
        case rel =>
          refine ⟨w718.heap.size, rfl, ?_, ?_, bl_two (hzw722) (by omega)⟩
          · simp [go_sem, *]
          · simp [go_sem, *]
    · go_simp
      refine hJ18_1.out _ _ ⟨cl_kept (bl_alloc (bl_drew (bl_refl _))) e1, cl_kept (bl_alloc (bl_drew (bl_refl _))) e2⟩ (fun _ => ?_)
      try simp only [Act.put, List.getElem_toArray, List.getElem_cons_succ, List.getElem_cons_zero, List.setIfInBounds_toArray, List.set_cons_zero, List.set_cons_succ]
      refine wpAnyH_ready (rs := [4]) (by kernel_rfl) (by simp) ?_
      refine AllReadyH.cons rfl (fun J24_0 hJ24_0 => ?_) AllReadyH.nil
      go_simp
      refine (N1.out _).mono ?_
      rintro e w724 ⟨rfl, hbw724⟩
      have hzw724 := bl_via (bl_alloc (bl_drew (bl_refl _))) hbw724
      have szw724 := hzw724.size
      have ac0 : w724.cell? ⟨w3.heap.size, 0, none⟩ = some (.int .i64 0) := cl_kept hbw724 (by first | (with_reducible assumption) | (simp [go_sem]; done))
      have af0 : w724.frozen? ⟨w3.heap.size, 0, none⟩ = false := (hbw724.frozen (p := ⟨w3.heap.size, 0, none⟩) (by first | (exact World.block_lt_of_cell? _ _ (by with_reducible assumption)) | (simp; done))).trans (by first | (with_reducible assumption) | (simp [go_sem]; done))
      have ac1 : w724.cell? ⟨w3.heap.size, 1, none⟩ = some (.int .i64 0) := cl_kept hbw724 (by first | (with_reducible assumption) | (simp [go_sem]; done))
      have af1 : w724.frozen? ⟨w3.heap.size, 1, none⟩ = false := (hbw724.frozen (p := ⟨w3.heap.size, 1, none⟩) (by first | (exact World.block_lt_of_cell? _ _ (by with_reducible assumption)) | (simp; done))).trans (by first | (with_reducible assumption) | (simp [go_sem]; done))
      refine hJ24_0.out _ _ ⟨cl_kept (hzw724) e1, cl_kept (hzw724) e2⟩ (fun _ => ?_)
      try simp only [Act.put, List.getElem_toArray, List.getElem_cons_succ, List.getElem_cons_zero, List.setIfInBounds_toArray, List.set_cons_zero, List.set_cons_succ]
      refine wpAnyH_ready (rs := [9]) (by kernel_rfl) (by simp) ?_
      refine AllReadyH.cons rfl (fun J25_0 hJ25_0 => ?_) AllReadyH.nil
      go_simp
      refine (N2.out _).mono ?_
      rintro e w725 ⟨rfl, hbw725⟩
      have hzw725 := bl_via (hzw724) hbw725
      have szw725 := hzw725.size
      have ac0 : w725.cell? ⟨w3.heap.size, 0, none⟩ = some (.int .i64 0) := cl_kept hbw725 (by first | (with_reducible assumption) | (simp [go_sem]; done))
      have af0 : w725.frozen? ⟨w3.heap.size, 0, none⟩ = false := (hbw725.frozen (p := ⟨w3.heap.size, 0, none⟩) (by first | (exact World.block_lt_of_cell? _ _ (by with_reducible assumption)) | (simp; done))).trans (by first | (with_reducible assumption) | (simp [go_sem]; done))
      have ac1 : w725.cell? ⟨w3.heap.size, 1, none⟩ = some (.int .i64 0) := cl_kept hbw725 (by first | (with_reducible assumption) | (simp [go_sem]; done))
      have af1 : w725.frozen? ⟨w3.heap.size, 1, none⟩ = false := (hbw725.frozen (p := ⟨w3.heap.size, 1, none⟩) (by first | (exact World.block_lt_of_cell? _ _ (by with_reducible assumption)) | (simp; done))).trans (by first | (with_reducible assumption) | (simp [go_sem]; done))
      refine hJ25_0.out _ _ ⟨cl_kept (hzw725) e1, cl_kept (hzw725) e2⟩ (fun _ => ?_)
      try simp only [Act.put, List.getElem_toArray, List.getElem_cons_succ, List.getElem_cons_zero, List.setIfInBounds_toArray, List.set_cons_zero, List.set_cons_succ]
      refine wpAnyH_take (i := 10) (v := .agg #[.int .i64 (v1 : Int), .int .i64 (v2 : Int)]) rfl (by kernel_rfl) (by kernel_rfl) (by kernel_rfl) (fun _ _ _ h => h) (Or.inl ⟨by rfl, ?hyy⟩) (by assumption) ?_
      case hyy => (intro w' hSw; (try dsimp only at hSw); go_simp)
      try simp only [Act.put, List.getElem_toArray, List.getElem_cons_succ, List.getElem_cons_zero, List.setIfInBounds_toArray, List.set_cons_zero, List.set_cons_succ]
      refine wpAnyH_ready (rs := [12]) (by kernel_rfl) (by simp) ?_
      refine AllReadyH.cons rfl (fun J26_0 hJ26_0 => ?_) AllReadyH.nil
      go_simp
      refine hJ26_0.out _ _ ⟨st_two (cl_kept (hzw725) e1) (by omega), st_two (cl_kept (hzw725) e2) (by omega)⟩ (fun _ => ?_)
      try simp only [Act.put, List.getElem_toArray, List.getElem_cons_succ, List.getElem_cons_zero, List.setIfInBounds_toArray, List.set_cons_zero, List.set_cons_succ]
      refine wpAnyH_done (by kernel_rfl) ?_ _
      go_wp2
      go_meet
      case rel =>
        refine ⟨w3.heap.size, rfl, ?_, ?_, bl_two (hzw725) (by omega)⟩
        · simp [go_sem, *]
        · simp [go_sem, *]
  case rest =>
    obtain ⟨g5, rfl, p50, p51, hbf⟩ := hcut
    have e3 := cl_kept hbf e3
    have e4 := cl_kept hbf e4
    have HF : Hid (Below w.heap.size w wc) := bl_via HB3.out hbf
    clear hbf hc3 e1 e2 HB3 s0 s1 s2 s3 s4 hc N1 N2 K46
    go_wp2
    go_cut [6] (fun s6 wx => ∃ g : Nat, s6 = .pointer (some ⟨g, 0, none⟩) ∧ wx.cell? ⟨g, 0, none⟩ = some (.int .i64 (v3 : Int)) ∧ wx.cell? ⟨g, 1, none⟩ = some (.int .i64 (v4 : Int)) ∧ Below wc.heap.size wc wx)
    case first =>
      have zA : A < wc.heap.size := World.block_lt_of_cell? _ _ e3
      refine wp_region_held_drew (S := fun w' => w'.cell? ⟨A, 3, none⟩ = some (.string (bs x3)) ∧ w'.cell? ⟨A, 4, none⟩ = some (.string (bs x4))) (by kernel_rfl) ⟨dr_old e3, dr_old e4⟩ (fun hHeld => ?_)
      try simp only [Act.put, List.getElem_toArray, List.getElem_cons_succ, List.getElem_cons_zero, List.setIfInBounds_toArray, List.set_cons_zero, List.set_cons_succ]
      refine wpAnyH_take (i := 0) (v := .pointer (some ⟨rb, 0, none⟩)) rfl (by kernel_rfl) (by kernel_rfl) (by kernel_rfl) (fun _ _ _ h => h) (Or.inl ⟨by rfl, ?hyy⟩) (by assumption) ?_
      case hyy => (intro w' hSw; (try dsimp only at hSw); go_simp)
      try simp only [Act.put, List.getElem_toArray, List.getElem_cons_zero, List.setIfInBounds_toArray, List.set_cons_zero, List.set_cons_succ]
      refine wpAnyH_take (i := 1) (v := .slice (some ⟨A, 0, none⟩) 5 5) rfl (by kernel_rfl) (by kernel_rfl) (by kernel_rfl) (fun _ _ _ h => h) (Or.inl ⟨by rfl, ?hyy⟩) (by assumption) ?_
      case hyy => (intro w' hSw; (try dsimp only at hSw); go_simp)
      try simp only [Act.put, List.getElem_toArray, List.getElem_cons_succ, List.getElem_cons_zero, List.setIfInBounds_toArray, List.set_cons_zero, List.set_cons_succ]
      refine wpAnyH_take (i := 2) (v := .pointer (some ⟨A, 3, none⟩)) rfl (by kernel_rfl) (by kernel_rfl) (by kernel_rfl) (fun _ _ _ h => h) (Or.inl ⟨by rfl, ?hyy⟩) (by assumption) ?_
      case hyy => (intro w' hSw; (try dsimp only at hSw); go_simp)
      try simp only [Act.put, List.getElem_toArray, List.getElem_cons_succ, List.getElem_cons_zero, List.setIfInBounds_toArray, List.set_cons_zero, List.set_cons_succ]
      refine wpAnyH_take (i := 3) (v := .string (bs x3)) rfl (by kernel_rfl) (by kernel_rfl) (by kernel_rfl) (fun _ _ _ h => h) (Or.inl ⟨by rfl, ?hyy⟩) (by assumption) ?_
      case hyy => (intro w' hSw; (try dsimp only at hSw); go_simp)
      try simp only [Act.put, List.getElem_toArray, List.getElem_cons_succ, List.getElem_cons_zero, List.setIfInBounds_toArray, List.set_cons_zero, List.set_cons_succ]
      refine wpAnyH_take (i := 5) (v := .pointer (some ⟨rb, 0, none⟩)) rfl (by kernel_rfl) (by kernel_rfl) (by kernel_rfl) (fun _ _ _ h => h) (Or.inl ⟨by rfl, ?hyy⟩) (by assumption) ?_
      case hyy => (intro w' hSw; (try dsimp only at hSw); go_simp)
      try simp only [Act.put, List.getElem_toArray, List.getElem_cons_succ, List.getElem_cons_zero, List.setIfInBounds_toArray, List.set_cons_zero, List.set_cons_succ]
      refine wpAnyH_take (i := 6) (v := .slice (some ⟨A, 0, none⟩) 5 5) rfl (by kernel_rfl) (by kernel_rfl) (by kernel_rfl) (fun _ _ _ h => h) (Or.inl ⟨by rfl, ?hyy⟩) (by assumption) ?_
      case hyy => (intro w' hSw; (try dsimp only at hSw); go_simp)
      try simp only [Act.put, List.getElem_toArray, List.getElem_cons_succ, List.getElem_cons_zero, List.setIfInBounds_toArray, List.set_cons_zero, List.set_cons_succ]
      refine wpAnyH_take (i := 7) (v := .pointer (some ⟨A, 4, none⟩)) rfl (by kernel_rfl) (by kernel_rfl) (by kernel_rfl) (fun _ _ _ h => h) (Or.inl ⟨by rfl, ?hyy⟩) (by assumption) ?_
      case hyy => (intro w' hSw; (try dsimp only at hSw); go_simp)
      try simp only [Act.put, List.getElem_toArray, List.getElem_cons_succ, List.getElem_cons_zero, List.setIfInBounds_toArray, List.set_cons_zero, List.set_cons_succ]
      refine wpAnyH_take (i := 8) (v := .string (bs x4)) rfl (by kernel_rfl) (by kernel_rfl) (by kernel_rfl) (fun _ _ _ h => h) (Or.inl ⟨by rfl, ?hyy⟩) (by assumption) ?_
      case hyy => (intro w' hSw; (try dsimp only at hSw); go_simp)
      try simp only [Act.put, List.getElem_toArray, List.getElem_cons_succ, List.getElem_cons_zero, List.setIfInBounds_toArray, List.set_cons_zero, List.set_cons_succ]
      refine wpAnyH_ready (rs := [4, 11]) (by kernel_rfl) (by simp) ?_
      refine AllReadyH.cons rfl (fun J27_0 hJ27_0 => ?_) (AllReadyH.cons rfl (fun J27_1 hJ27_1 => ?_) AllReadyH.nil)
      · go_simp
        refine (N3.out _).mono ?_
        rintro e w727 ⟨rfl, hbw727⟩
        have hzw727 := bl_via (bl_drew (bl_refl _)) hbw727
        have szw727 := hzw727.size
        refine hJ27_0.out _ _ ⟨cl_kept (hzw727) e3, cl_kept (hzw727) e4⟩ (fun _ => ?_)
        try simp only [Act.put, List.getElem_toArray, List.getElem_cons_succ, List.getElem_cons_zero, List.setIfInBounds_toArray, List.set_cons_zero, List.set_cons_succ]
        refine wpAnyH_ready (rs := [9, 11]) (by kernel_rfl) (by simp) ?_
        refine AllReadyH.cons rfl (fun J28_0 hJ28_0 => ?_) (AllReadyH.cons rfl (fun J28_1 hJ28_1 => ?_) AllReadyH.nil)
        · go_simp
          refine (N4.out _).mono ?_
          rintro e w728 ⟨rfl, hbw728⟩
          have hzw728 := bl_via (hzw727) hbw728
          have szw728 := hzw728.size
          refine hJ28_0.out _ _ ⟨cl_kept (hzw728) e3, cl_kept (hzw728) e4⟩ (fun _ => ?_)
          try simp only [Act.put, List.getElem_toArray, List.getElem_cons_succ, List.getElem_cons_zero, List.setIfInBounds_toArray, List.set_cons_zero, List.set_cons_succ]
          refine wpAnyH_take (i := 10) (v := .agg #[.int .i64 (v3 : Int), .int .i64 (v4 : Int)]) rfl (by kernel_rfl) (by kernel_rfl) (by kernel_rfl) (fun _ _ _ h => h) (Or.inl ⟨by rfl, ?hyy⟩) (by assumption) ?_
          case hyy => (intro w' hSw; (try dsimp only at hSw); go_simp)
          try simp only [Act.put, List.getElem_toArray, List.getElem_cons_succ, List.getElem_cons_zero, List.setIfInBounds_toArray, List.set_cons_zero, List.set_cons_succ]
          refine wpAnyH_ready (rs := [11]) (by kernel_rfl) (by simp) ?_
          refine AllReadyH.cons rfl (fun J29_0 hJ29_0 => ?_) AllReadyH.nil
          go_simp
          refine hJ29_0.out _ _ ⟨cl_kept (bl_alloc (hzw728)) e3, cl_kept (bl_alloc (hzw728)) e4⟩ (fun _ => ?_)
          try simp only [Act.put, List.getElem_toArray, List.getElem_cons_succ, List.getElem_cons_zero, List.setIfInBounds_toArray, List.set_cons_zero, List.set_cons_succ]
          refine wpAnyH_ready (rs := [12]) (by kernel_rfl) (by simp) ?_
          refine AllReadyH.cons rfl (fun J30_0 hJ30_0 => ?_) AllReadyH.nil
          go_simp
          refine hJ30_0.out _ _ ⟨cl_kept (bl_alloc (hzw728)) e3, cl_kept (bl_alloc (hzw728)) e4⟩ (fun _ => ?_)
          try simp only [Act.put, List.getElem_toArray, List.getElem_cons_succ, List.getElem_cons_zero, List.setIfInBounds_toArray, List.set_cons_zero, List.set_cons_succ]
          refine wpAnyH_done (by kernel_rfl) ?_ _
          go_wp2
          go_meet
          case rel =>
            refine ⟨w728.heap.size, rfl, ?_, ?_, bl_alloc (hzw728)⟩
            · simp [go_sem, *]
            · simp [go_sem, *]
        · go_simp
          refine hJ28_1.out _ _ ⟨cl_kept (bl_alloc (hzw727)) e3, cl_kept (bl_alloc (hzw727)) e4⟩ (fun _ => ?_)
          try simp only [Act.put, List.getElem_toArray, List.getElem_cons_succ, List.getElem_cons_zero, List.setIfInBounds_toArray, List.set_cons_zero, List.set_cons_succ]
          refine wpAnyH_ready (rs := [9]) (by kernel_rfl) (by simp) ?_
          refine AllReadyH.cons rfl (fun J31_0 hJ31_0 => ?_) AllReadyH.nil
          go_simp
          refine (N4.out _).mono ?_
          rintro e w731 ⟨rfl, hbw731⟩
          have hzw731 := bl_via (bl_alloc (hzw727)) hbw731
          have szw731 := hzw731.size
          have ac0 : w731.cell? ⟨w727.heap.size, 0, none⟩ = some (.int .i64 0) := cl_kept hbw731 (by first | (with_reducible assumption) | (simp [go_sem]; done))
          have af0 : w731.frozen? ⟨w727.heap.size, 0, none⟩ = false := (hbw731.frozen (p := ⟨w727.heap.size, 0, none⟩) (by first | (exact World.block_lt_of_cell? _ _ (by with_reducible assumption)) | (simp; done))).trans (by first | (with_reducible assumption) | (simp [go_sem]; done))
          have ac1 : w731.cell? ⟨w727.heap.size, 1, none⟩ = some (.int .i64 0) := cl_kept hbw731 (by first | (with_reducible assumption) | (simp [go_sem]; done))
          have af1 : w731.frozen? ⟨w727.heap.size, 1, none⟩ = false := (hbw731.frozen (p := ⟨w727.heap.size, 1, none⟩) (by first | (exact World.block_lt_of_cell? _ _ (by with_reducible assumption)) | (simp; done))).trans (by first | (with_reducible assumption) | (simp [go_sem]; done))
          refine hJ31_0.out _ _ ⟨cl_kept (hzw731) e3, cl_kept (hzw731) e4⟩ (fun _ => ?_)
          try simp only [Act.put, List.getElem_toArray, List.getElem_cons_succ, List.getElem_cons_zero, List.setIfInBounds_toArray, List.set_cons_zero, List.set_cons_succ]
          refine wpAnyH_take (i := 10) (v := .agg #[.int .i64 (v3 : Int), .int .i64 (v4 : Int)]) rfl (by kernel_rfl) (by kernel_rfl) (by kernel_rfl) (fun _ _ _ h => h) (Or.inl ⟨by rfl, ?hyy⟩) (by assumption) ?_
          case hyy => (intro w' hSw; (try dsimp only at hSw); go_simp)
          try simp only [Act.put, List.getElem_toArray, List.getElem_cons_succ, List.getElem_cons_zero, List.setIfInBounds_toArray, List.set_cons_zero, List.set_cons_succ]
          refine wpAnyH_ready (rs := [12]) (by kernel_rfl) (by simp) ?_
          refine AllReadyH.cons rfl (fun J32_0 hJ32_0 => ?_) AllReadyH.nil
          go_simp
          refine hJ32_0.out _ _ ⟨st_two (cl_kept (hzw731) e3) (by omega), st_two (cl_kept (hzw731) e4) (by omega)⟩ (fun _ => ?_)
          try simp only [Act.put, List.getElem_toArray, List.getElem_cons_succ, List.getElem_cons_zero, List.setIfInBounds_toArray, List.set_cons_zero, List.set_cons_succ]
          refine wpAnyH_done (by kernel_rfl) ?_ _
          go_wp2
          go_meet
          case rel =>
            refine ⟨w727.heap.size, rfl, ?_, ?_, bl_two (hzw731) (by omega)⟩
            · simp [go_sem, *]
            · simp [go_sem, *]
      · go_simp
        refine hJ27_1.out _ _ ⟨cl_kept (bl_alloc (bl_drew (bl_refl _))) e3, cl_kept (bl_alloc (bl_drew (bl_refl _))) e4⟩ (fun _ => ?_)
        try simp only [Act.put, List.getElem_toArray, List.getElem_cons_succ, List.getElem_cons_zero, List.setIfInBounds_toArray, List.set_cons_zero, List.set_cons_succ]
        refine wpAnyH_ready (rs := [4]) (by kernel_rfl) (by simp) ?_
        refine AllReadyH.cons rfl (fun J33_0 hJ33_0 => ?_) AllReadyH.nil
        go_simp
        refine (N3.out _).mono ?_
        rintro e w733 ⟨rfl, hbw733⟩
        have hzw733 := bl_via (bl_alloc (bl_drew (bl_refl _))) hbw733
        have szw733 := hzw733.size
        have ac0 : w733.cell? ⟨wc.heap.size, 0, none⟩ = some (.int .i64 0) := cl_kept hbw733 (by first | (with_reducible assumption) | (simp [go_sem]; done))
        have af0 : w733.frozen? ⟨wc.heap.size, 0, none⟩ = false := (hbw733.frozen (p := ⟨wc.heap.size, 0, none⟩) (by first | (exact World.block_lt_of_cell? _ _ (by with_reducible assumption)) | (simp; done))).trans (by first | (with_reducible assumption) | (simp [go_sem]; done))
        have ac1 : w733.cell? ⟨wc.heap.size, 1, none⟩ = some (.int .i64 0) := cl_kept hbw733 (by first | (with_reducible assumption) | (simp [go_sem]; done))
        have af1 : w733.frozen? ⟨wc.heap.size, 1, none⟩ = false := (hbw733.frozen (p := ⟨wc.heap.size, 1, none⟩) (by first | (exact World.block_lt_of_cell? _ _ (by with_reducible assumption)) | (simp; done))).trans (by first | (with_reducible assumption) | (simp [go_sem]; done))
        refine hJ33_0.out _ _ ⟨cl_kept (hzw733) e3, cl_kept (hzw733) e4⟩ (fun _ => ?_)
        try simp only [Act.put, List.getElem_toArray, List.getElem_cons_succ, List.getElem_cons_zero, List.setIfInBounds_toArray, List.set_cons_zero, List.set_cons_succ]
        refine wpAnyH_ready (rs := [9]) (by kernel_rfl) (by simp) ?_
        refine AllReadyH.cons rfl (fun J34_0 hJ34_0 => ?_) AllReadyH.nil
        go_simp
        refine (N4.out _).mono ?_
        rintro e w734 ⟨rfl, hbw734⟩
        have hzw734 := bl_via (hzw733) hbw734
        have szw734 := hzw734.size
        have ac0 : w734.cell? ⟨wc.heap.size, 0, none⟩ = some (.int .i64 0) := cl_kept hbw734 (by first | (with_reducible assumption) | (simp [go_sem]; done))
        have af0 : w734.frozen? ⟨wc.heap.size, 0, none⟩ = false := (hbw734.frozen (p := ⟨wc.heap.size, 0, none⟩) (by first | (exact World.block_lt_of_cell? _ _ (by with_reducible assumption)) | (simp; done))).trans (by first | (with_reducible assumption) | (simp [go_sem]; done))
        have ac1 : w734.cell? ⟨wc.heap.size, 1, none⟩ = some (.int .i64 0) := cl_kept hbw734 (by first | (with_reducible assumption) | (simp [go_sem]; done))
        have af1 : w734.frozen? ⟨wc.heap.size, 1, none⟩ = false := (hbw734.frozen (p := ⟨wc.heap.size, 1, none⟩) (by first | (exact World.block_lt_of_cell? _ _ (by with_reducible assumption)) | (simp; done))).trans (by first | (with_reducible assumption) | (simp [go_sem]; done))
        refine hJ34_0.out _ _ ⟨cl_kept (hzw734) e3, cl_kept (hzw734) e4⟩ (fun _ => ?_)
        try simp only [Act.put, List.getElem_toArray, List.getElem_cons_succ, List.getElem_cons_zero, List.setIfInBounds_toArray, List.set_cons_zero, List.set_cons_succ]
        refine wpAnyH_take (i := 10) (v := .agg #[.int .i64 (v3 : Int), .int .i64 (v4 : Int)]) rfl (by kernel_rfl) (by kernel_rfl) (by kernel_rfl) (fun _ _ _ h => h) (Or.inl ⟨by rfl, ?hyy⟩) (by assumption) ?_
        case hyy => (intro w' hSw; (try dsimp only at hSw); go_simp)
        try simp only [Act.put, List.getElem_toArray, List.getElem_cons_succ, List.getElem_cons_zero, List.setIfInBounds_toArray, List.set_cons_zero, List.set_cons_succ]
        refine wpAnyH_ready (rs := [12]) (by kernel_rfl) (by simp) ?_
        refine AllReadyH.cons rfl (fun J35_0 hJ35_0 => ?_) AllReadyH.nil
        go_simp
        refine hJ35_0.out _ _ ⟨st_two (cl_kept (hzw734) e3) (by omega), st_two (cl_kept (hzw734) e4) (by omega)⟩ (fun _ => ?_)
        try simp only [Act.put, List.getElem_toArray, List.getElem_cons_succ, List.getElem_cons_zero, List.setIfInBounds_toArray, List.set_cons_zero, List.set_cons_succ]
        refine wpAnyH_done (by kernel_rfl) ?_ _
        go_wp2
        go_meet
        case rel =>
          refine ⟨wc.heap.size, rfl, ?_, ?_, bl_two (hzw734) (by omega)⟩
          · simp [go_sem, *]
          · simp [go_sem, *]
    case rest =>
      obtain ⟨g6, rfl, p60, p61, hbf⟩ := hcut
      have p50 := cl_kept hbf p50
      have p51 := cl_kept hbf p51
      have HF6 : Hid (Below w.heap.size w wc) := bl_via HF.out hbf
      have hcc := cl_kept HF6.out HCB.out.1
      clear hbf HF N3 N4
      cases hw1 : wthn W H v1 v2
      · have HE : Hid (crS W H inn cs [x0, x1, x2, x3, x4] = (3, cs)) := HO.out 3 (Or.inl hw1) rfl
        go_wp2_with (first | (go_at_call 47; (with_reducible refine (C47.out _ v1 v2 HF6.out b1 b2).mono ?_); rw [hw1]; rintro e w7 ⟨rfl, hbb⟩; have HBw7 : Hid (Below w.heap.size w w7) := bl_via HF6.out hbb; have p50 := cl_kept hbb p50; have p51 := cl_kept hbb p51; have p60 := cl_kept hbb p60; have p61 := cl_kept hbb p61; have hcc := cl_kept hbb hcc; clear hbb) | (go_at_call 23; (with_reducible refine (refuse_yes _ _ _ _ hcc).mono ?_); rintro e w2 ⟨rfl, hw2⟩; have hw2b := hw2.symm; clear hw2; subst hw2b) | fail)
        have h9 := HR.out 3 cs HE.out (by decide) _ HBw7.out
        simp [bodyPost, PF] at h9 ⊢
        exact h9
      · cases hw2 : wthn W H v3 v4
        · have HE : Hid (crS W H inn cs [x0, x1, x2, x3, x4] = (3, cs)) := HO.out 3 (Or.inr (Or.inl hw2)) rfl
          go_wp2_with (first | (go_at_call 47; (with_reducible refine (C47.out _ v1 v2 HF6.out b1 b2).mono ?_); rw [hw1]; rintro e w7 ⟨rfl, hbb⟩; have HBw7 : Hid (Below w.heap.size w w7) := bl_via HF6.out hbb; have p50 := cl_kept hbb p50; have p51 := cl_kept hbb p51; have p60 := cl_kept hbb p60; have p61 := cl_kept hbb p61; have hcc := cl_kept hbb hcc; clear hbb) | (go_at_call 47; (with_reducible refine (C47.out _ v3 v4 HBw7.out b3 b4).mono ?_); rw [hw2]; rintro e w8 ⟨rfl, hbb⟩; have HBw8 : Hid (Below w.heap.size w w8) := bl_via HBw7.out hbb; have p50 := cl_kept hbb p50; have p51 := cl_kept hbb p51; have p60 := cl_kept hbb p60; have p61 := cl_kept hbb p61; have hcc := cl_kept hbb hcc; clear hbb) | (go_at_call 23; (with_reducible refine (refuse_yes _ _ _ _ hcc).mono ?_); rintro e w2 ⟨rfl, hw2⟩; have hw2b := hw2.symm; clear hw2; subst hw2b) | fail)
          have h9 := HR.out 3 cs HE.out (by decide) _ HBw8.out
          simp [bodyPost, PF] at h9 ⊢
          exact h9
        · have hpa := wthn_par hw1
          have hpb := wthn_par hw2
          have C48 : Hid (∀ V : World, Calls Tryz.prog 48 #[.agg #[.int .i64 (v1 : Int), .int .i64 (v2 : Int)], .agg #[.int .i64 (v3 : Int), .int .i64 (v4 : Int)]] V fun e w' => ∃ sa cap, e = .returned (.slice sa (egs (v1 : Int) v2 v3 v4).length cap) ∧ ER w' sa (egs v1 v2 v3 v4) ∧ (∀ g, sa = some ⟨g, 0, none⟩ → V.heap.size ≤ g) ∧ Below V.heap.size V w') := fun V => (between_any v1 v2 v3 v4 V b1 b2 b3 b4 hpa hpb).mono (by
            rintro e w' ⟨sl, rfl, base, ho, hb, hbl⟩
            obtain ⟨sa, cap, rfl, he, hg⟩ := own_edges ho
            exact ⟨sa, cap, rfl, he, fun g e => Nat.le_trans hb (hg g e), hbl⟩)
          have HES : Hid ((egs (v1 : Int) v2 v3 v4).length ≤ 1000 ∧ (egs (v1 : Int) v2 v3 v4).Nodup) := ⟨egs_le b1 b2 b3 b4, egs_nodup _ _ _ _⟩
          have HPL2 : Hid (∀ i (hi : i < (egs (v1 : Int) v2 v3 v4).length), inn ((egs (v1 : Int) v2 v3 v4)[i]) = false → crS W H inn cs [x0, x1, x2, x3, x4] = (5, cs)) := HPL.out hw1 hw2
          have HTW2 : Hid ((∀ e ∈ egs (v1 : Int) v2 v3 v4, inn e = true) → ∀ i (hi : i < (egs (v1 : Int) v2 v3 v4).length), kdc cs ((egs (v1 : Int) v2 v3 v4)[i]) ≠ 0 → crS W H inn cs [x0, x1, x2, x3, x4] = (6, cs)) := HTW.out hw1 hw2
          have HOK2 : Hid (egs (v1 : Int) v2 v3 v4 ≠ [] → (∀ e ∈ egs (v1 : Int) v2 v3 v4, inn e = true) → (∀ e ∈ egs (v1 : Int) v2 v3 v4, kdc cs e = 0) → crS W H inn cs [x0, x1, x2, x3, x4] = (0, putA cs (egs v1 v2 v3 v4) K)) := HOK.out hw1 hw2
          have HO2 : Hid (egs (v1 : Int) v2 v3 v4 = [] → crS W H inn cs [x0, x1, x2, x3, x4] = (3, cs)) := fun h => HO.out 3 (Or.inr (Or.inr h)) rfl
          clear HPL HTW HOK HO hpa hpb
          generalize egs (v1 : Int) v2 v3 v4 = es at C48 HES HPL2 HTW2 HOK2 HO2
          by_cases hes : es = []
          · have HE : Hid (crS W H inn cs [x0, x1, x2, x3, x4] = (3, cs)) := HO2.out hes
            have hl0 : (es.length : Int) = 0 := by rw [hes]; rfl
            have hl1 : ((es.length : Int) == 0) = true := by rw [hl0]; rfl
            clear hes
            go_wp2_with (first | (go_at_call 47; (with_reducible refine (C47.out _ v1 v2 HF6.out b1 b2).mono ?_); rw [hw1]; rintro e w7 ⟨rfl, hbb⟩; have HBw7 : Hid (Below w.heap.size w w7) := bl_via HF6.out hbb; have p50 := cl_kept hbb p50; have p51 := cl_kept hbb p51; have p60 := cl_kept hbb p60; have p61 := cl_kept hbb p61; have hcc := cl_kept hbb hcc; clear hbb) | (go_at_call 47; (with_reducible refine (C47.out _ v3 v4 HBw7.out b3 b4).mono ?_); rw [hw2]; rintro e w8 ⟨rfl, hbb⟩; have HBw8 : Hid (Below w.heap.size w w8) := bl_via HBw7.out hbb; have p50 := cl_kept hbb p50; have p51 := cl_kept hbb p51; have p60 := cl_kept hbb p60; have p61 := cl_kept hbb p61; have hcc := cl_kept hbb hcc; clear hbb) | (go_at_call 48; (with_reducible refine (C48.out _).mono ?_); rintro e w9 ⟨sa, cap, rfl, her, hg9, hbb⟩; have hcc := cl_kept hbb hcc; have HB9 : Hid (Below w.heap.size w w9) := bl_via HBw8.out hbb; clear her hg9 hbb) | (go_at_call 23; (with_reducible refine (refuse_yes _ _ _ _ hcc).mono ?_); rintro e w2 ⟨rfl, hw2⟩; have hw2b := hw2.symm; clear hw2; subst hw2b) | (go_at_call 23; (with_reducible refine (refuse_no _ _ _).mono ?_); rintro e w2 ⟨rfl, hw2⟩; have hw2b := hw2.symm; clear hw2; subst hw2b) | fail)
            have h9 := HR.out 3 cs HE.out (by decide) _ HB9.out
            simp [bodyPost, PF] at h9 ⊢
            exact h9
          · have hl1 : ((es.length : Int) == 0) = false := by
              rw [beq_eq_false_iff_ne]
              intro h
              exact hes (List.length_eq_zero_iff.1 (by omega))
            have HNE : Hid (es ≠ []) := hes
            clear hes HO2
            go_wp2_with (first | (go_at_call 47; (with_reducible refine (C47.out _ v1 v2 HF6.out b1 b2).mono ?_); rw [hw1]; rintro e w7 ⟨rfl, hbb⟩; have HBw7 : Hid (Below w.heap.size w w7) := bl_via HF6.out hbb; have p50 := cl_kept hbb p50; have p51 := cl_kept hbb p51; have p60 := cl_kept hbb p60; have p61 := cl_kept hbb p61; have hcc := cl_kept hbb hcc; clear hbb) | (go_at_call 47; (with_reducible refine (C47.out _ v3 v4 HBw7.out b3 b4).mono ?_); rw [hw2]; rintro e w8 ⟨rfl, hbb⟩; have HBw8 : Hid (Below w.heap.size w w8) := bl_via HBw7.out hbb; have p50 := cl_kept hbb p50; have p51 := cl_kept hbb p51; have p60 := cl_kept hbb p60; have p61 := cl_kept hbb p61; have hcc := cl_kept hbb hcc; clear hbb) | (go_at_call 48; (with_reducible refine (C48.out _).mono ?_); rintro e w9 ⟨sa, cap, rfl, her, hg9, hbb⟩; have HB9 : Hid (Below w.heap.size w w9) := bl_via HBw8.out hbb; have HG9 : Hid (ER w9 sa es ∧ ∀ g, sa = some ⟨g, 0, none⟩ → w8.heap.size ≤ g) := ⟨her, hg9⟩; clear her hg9 hbb p50 p51 p60 p61 hcc) | (go_at_call 23; (with_reducible refine (refuse_no _ _ _).mono ?_); rintro e w2 ⟨rfl, hw2⟩; have hw2b := hw2.symm; clear hw2; subst hw2b) | fail)
            obtain ⟨g9, hsa, -⟩ := HG9.out.1 0 (List.length_pos_iff.2 HNE.out)
            subst hsa
            have HS : Hid (ER w9 (some ⟨g9, 0, none⟩) es ∧ Below w.heap.size w w9) := ⟨HG9.out.1, HB9.out⟩
            have zkg : kb ≠ g9 := by
              have h1 := HG9.out.2 g9 rfl
              have h2 := HBw8.out.size
              have h3 := HCB.out.2.2.2.2.2.2.2.2.lt
              omega
            have HCO : Hid (CsOk cs) := hco
            clear HG9 HB9 HBw8 HBw7 HF6 C48 C47 hco
            go_loopg [71] es.length (fun gk s71 wx => ∃ i : Nat, i ≤ es.length ∧ es.length - i = gk ∧ s71 = .int .i64 (i : Int) ∧ (∀ k (hk : k < es.length), k < i → inn es[k] = true) ∧ ER wx (some ⟨g9, 0, none⟩) es ∧ Below w.heap.size w wx)
            case atStart => exact ⟨0, by omega, rfl, rfl, fun k _ h => by omega, HS.out.1, HS.out.2⟩
            case round =>
              clear HS
              obtain ⟨i, hi, rfl, rfl, hall, her, hbw⟩ := hrel
              have HAL : Hid (∀ k (hk : k < es.length), k < i → inn es[k] = true) := hall
              have HER : Hid (ER wr (some ⟨g9, 0, none⟩) es) := her
              have HBW : Hid (Below w.heap.size w wr) := hbw
              clear hall her hbw
              have hlen := HES.out.1
              by_cases h1 : i < es.length
              · have i1 : (i : Int) < (es.length : Int) := by omega
                have i0 : (0 : Int) ≤ (i : Int) := by omega
                obtain ⟨g', hg', t0, t1, t2, t3⟩ := HER.out i h1
                obtain rfl : g9 = g' := by simpa using hg'
                clear hg'
                obtain ⟨⟨e0, e1, e2, e3⟩, he⟩ : ∃ e : E4, e = es[i] := ⟨_, rfl⟩
                rw [← he] at t0 t1 t2 t3
                dsimp only at t0 t1 t2 t3
                have zg : g9 < wr.heap.size := World.block_lt_of_cell? _ _ t0
                have y0 : (wr.alloc (.cells #[.int .i64 e0, .int .i64 e1, .int .i64 e2, .int .i64 e3] 53)).cell? ⟨wr.heap.size, 0, none⟩ = some (.int .i64 e0) := by simp
                have y1 : (wr.alloc (.cells #[.int .i64 e0, .int .i64 e1, .int .i64 e2, .int .i64 e3] 53)).cell? ⟨wr.heap.size, 1, none⟩ = some (.int .i64 e1) := by simp
                have y2 : (wr.alloc (.cells #[.int .i64 e0, .int .i64 e1, .int .i64 e2, .int .i64 e3] 53)).cell? ⟨wr.heap.size, 2, none⟩ = some (.int .i64 e2) := by simp
                have y3 : (wr.alloc (.cells #[.int .i64 e0, .int .i64 e1, .int .i64 e2, .int .i64 e3] 53)).cell? ⟨wr.heap.size, 3, none⟩ = some (.int .i64 e3) := by simp
                obtain ⟨d1, -, -, d5, d6, d7, -, dPA, -⟩ := HCB.out.kept HBW.out
                have C49 : Hid (∀ V : World, Below wr.heap.size wr V → Calls Tryz.prog 49 #[.agg #[.slice ad L.length cc, .map (some ra), .map (some rk)], .agg #[.int .i64 e0, .int .i64 e1, .int .i64 e2, .int .i64 e3]] V fun e w' => e = .returned (.bool (inn es[i])) ∧ Below V.heap.size V w') := fun V hb => by
                  have h9 := inner_any V cc ra rk ad L e0 e1 e2 e3 (dPA.kept hb)
                  have h8 : inn es[i] = decide (cnt L e0 e1 e2 e3 = 2) := by rw [hinn, ← he]
                  rw [h8]
                  exact h9
                clear dPA he
                cases hin : inn es[i]
                · rw [hin] at C49
                  have HE : Hid (crS W H inn cs [x0, x1, x2, x3, x4] = (5, cs)) := HPL2.out i h1 hin
                  go_wp2
                  refine wp_region_held_drew (S := fun w' => w'.cell? ⟨rb, 5, none⟩ = some (.slice ad L.length cc) ∧ w'.cell? ⟨rb, 6, none⟩ = some (.map (some ra)) ∧ w'.cell? ⟨rb, 7, none⟩ = some (.map (some rk)) ∧ w'.cell? ⟨wr.heap.size, 0, none⟩ = some (.int .i64 e0) ∧ w'.cell? ⟨wr.heap.size, 1, none⟩ = some (.int .i64 e1) ∧ w'.cell? ⟨wr.heap.size, 2, none⟩ = some (.int .i64 e2) ∧ w'.cell? ⟨wr.heap.size, 3, none⟩ = some (.int .i64 e3)) (by kernel_rfl) ⟨dr_old (al_old d5), dr_old (al_old d6), dr_old (al_old d7), dr_old y0, dr_old y1, dr_old y2, dr_old y3⟩ (fun hHeld => ?_)
                  try simp only [Act.put, List.getElem_toArray, List.getElem_cons_succ, List.getElem_cons_zero, List.setIfInBounds_toArray, List.set_cons_zero, List.set_cons_succ]
                  refine wpAnyH_take (i := 0) (v := .pointer (some ⟨rb, 0, none⟩)) rfl (by kernel_rfl) (by kernel_rfl) (by kernel_rfl) (fun _ _ _ h => h) (Or.inl ⟨by rfl, ?hyy⟩) (by assumption) ?_
                  case hyy => (intro w' hSw; (try dsimp only at hSw); go_simp)
                  try simp only [Act.put, List.getElem_toArray, List.getElem_cons_zero, List.setIfInBounds_toArray, List.set_cons_zero, List.set_cons_succ]
                  refine wpAnyH_take (i := 1) (v := .pointer (some ⟨rb, 0, none⟩)) rfl (by kernel_rfl) (by kernel_rfl) (by kernel_rfl) (fun _ _ _ h => h) (Or.inl ⟨by rfl, ?hyy⟩) (by assumption) ?_
                  case hyy => (intro w' hSw; (try dsimp only at hSw); go_simp)
                  try simp only [Act.put, List.getElem_toArray, List.getElem_cons_succ, List.getElem_cons_zero, List.setIfInBounds_toArray, List.set_cons_zero, List.set_cons_succ]
                  refine wpAnyH_take (i := 2) (v := .pointer (some ⟨rb, 0, none⟩)) rfl (by kernel_rfl) (by kernel_rfl) (by kernel_rfl) (fun _ _ _ h => h) (Or.inl ⟨by rfl, ?hyy⟩) (by assumption) ?_
                  case hyy => (intro w' hSw; (try dsimp only at hSw); go_simp)
                  try simp only [Act.put, List.getElem_toArray, List.getElem_cons_succ, List.getElem_cons_zero, List.setIfInBounds_toArray, List.set_cons_zero, List.set_cons_succ]
                  refine wpAnyH_take (i := 3) (v := .pointer (some ⟨rb, 5, none⟩)) rfl (by kernel_rfl) (by kernel_rfl) (by kernel_rfl) (fun _ _ _ h => h) (Or.inl ⟨by rfl, ?hyy⟩) (by assumption) ?_
                  case hyy => (intro w' hSw; (try dsimp only at hSw); go_simp)
                  try simp only [Act.put, List.getElem_toArray, List.getElem_cons_succ, List.getElem_cons_zero, List.setIfInBounds_toArray, List.set_cons_zero, List.set_cons_succ]
                  refine wpAnyH_take (i := 4) (v := .agg #[.slice ad L.length cc, .map (some ra), .map (some rk)]) rfl (by kernel_rfl) (by kernel_rfl) (by kernel_rfl) (fun _ _ _ h => h) (Or.inl ⟨by rfl, ?hyy⟩) (by assumption) ?_
                  case hyy => (intro w' hSw; (try dsimp only at hSw); go_simp)
                  try simp only [Act.put, List.getElem_toArray, List.getElem_cons_succ, List.getElem_cons_zero, List.setIfInBounds_toArray, List.set_cons_zero, List.set_cons_succ]
                  refine wpAnyH_take (i := 5) (v := .agg #[.int .i64 e0, .int .i64 e1, .int .i64 e2, .int .i64 e3]) rfl (by kernel_rfl) (by kernel_rfl) (by kernel_rfl) (fun _ _ _ h => h) (Or.inl ⟨by rfl, ?hyy⟩) (by assumption) ?_
                  case hyy => (intro w' hSw; (try dsimp only at hSw); go_simp)
                  try simp only [Act.put, List.getElem_toArray, List.getElem_cons_succ, List.getElem_cons_zero, List.setIfInBounds_toArray, List.set_cons_zero, List.set_cons_succ]
                  refine wpAnyH_ready (rs := [6]) (by kernel_rfl) (by simp) ?_
                  refine AllReadyH.cons rfl (fun K6 hK6 => ?_) AllReadyH.nil
                  go_simp
                  refine (C49.out _ (bl_drew (bl_alloc (bl_refl _)))).mono ?_
                  rintro e w5 ⟨rfl, hb5⟩
                  have B5 : Hid (Below w.heap.size w w5) := bl_via HBW.out (bl_via (bl_drew (bl_alloc (bl_refl _))) hb5)
                  refine hK6.out _ _ ⟨cl_kept hb5 (dr_old (al_old d5)), cl_kept hb5 (dr_old (al_old d6)), cl_kept hb5 (dr_old (al_old d7)), cl_kept hb5 (dr_old y0), cl_kept hb5 (dr_old y1), cl_kept hb5 (dr_old y2), cl_kept hb5 (dr_old y3)⟩ (fun _ => ?_)
                  try simp only [Act.put, List.getElem_toArray, List.getElem_cons_succ, List.getElem_cons_zero, List.setIfInBounds_toArray, List.set_cons_zero, List.set_cons_succ]
                  refine wpAnyH_take (i := 7) (v := .bool true) rfl (by kernel_rfl) (by kernel_rfl) (by kernel_rfl) (fun _ _ _ h => h) (Or.inl ⟨by rfl, ?hyy⟩) (by assumption) ?_
                  case hyy => (intro w' hSw; (try dsimp only at hSw); go_simp)
                  try simp only [Act.put, List.getElem_toArray, List.getElem_cons_succ, List.getElem_cons_zero, List.setIfInBounds_toArray, List.set_cons_zero, List.set_cons_succ]
                  refine wpAnyH_ready (rs := [8]) (by kernel_rfl) (by simp) ?_
                  refine AllReadyH.cons rfl (fun K8 hK8 => ?_) AllReadyH.nil
                  go_simp
                  refine (refuse_yes _ _ _ _ (cl_kept hb5 (dr_old (al_old d1)))).mono ?_
                  rintro e w6 ⟨rfl, rfl⟩
                  have h9 := HR.out 5 cs HE.out (by decide) w6 B5.out
                  simp +zetaDelta [bodyPost, PF] at h9 ⊢
                  exact h9
                · rw [hin] at C49
                  go_wp2
                  refine wp_region_held_drew (S := fun w' => w'.cell? ⟨rb, 5, none⟩ = some (.slice ad L.length cc) ∧ w'.cell? ⟨rb, 6, none⟩ = some (.map (some ra)) ∧ w'.cell? ⟨rb, 7, none⟩ = some (.map (some rk)) ∧ w'.cell? ⟨wr.heap.size, 0, none⟩ = some (.int .i64 e0) ∧ w'.cell? ⟨wr.heap.size, 1, none⟩ = some (.int .i64 e1) ∧ w'.cell? ⟨wr.heap.size, 2, none⟩ = some (.int .i64 e2) ∧ w'.cell? ⟨wr.heap.size, 3, none⟩ = some (.int .i64 e3)) (by kernel_rfl) ⟨dr_old (al_old d5), dr_old (al_old d6), dr_old (al_old d7), dr_old y0, dr_old y1, dr_old y2, dr_old y3⟩ (fun hHeld => ?_)
                  try simp only [Act.put, List.getElem_toArray, List.getElem_cons_succ, List.getElem_cons_zero, List.setIfInBounds_toArray, List.set_cons_zero, List.set_cons_succ]
                  refine wpAnyH_take (i := 0) (v := .pointer (some ⟨rb, 0, none⟩)) rfl (by kernel_rfl) (by kernel_rfl) (by kernel_rfl) (fun _ _ _ h => h) (Or.inl ⟨by rfl, ?hyy⟩) (by assumption) ?_
                  case hyy => (intro w' hSw; (try dsimp only at hSw); go_simp)
                  try simp only [Act.put, List.getElem_toArray, List.getElem_cons_zero, List.setIfInBounds_toArray, List.set_cons_zero, List.set_cons_succ]
                  refine wpAnyH_take (i := 1) (v := .pointer (some ⟨rb, 0, none⟩)) rfl (by kernel_rfl) (by kernel_rfl) (by kernel_rfl) (fun _ _ _ h => h) (Or.inl ⟨by rfl, ?hyy⟩) (by assumption) ?_
                  case hyy => (intro w' hSw; (try dsimp only at hSw); go_simp)
                  try simp only [Act.put, List.getElem_toArray, List.getElem_cons_succ, List.getElem_cons_zero, List.setIfInBounds_toArray, List.set_cons_zero, List.set_cons_succ]
                  refine wpAnyH_take (i := 2) (v := .pointer (some ⟨rb, 0, none⟩)) rfl (by kernel_rfl) (by kernel_rfl) (by kernel_rfl) (fun _ _ _ h => h) (Or.inl ⟨by rfl, ?hyy⟩) (by assumption) ?_
                  case hyy => (intro w' hSw; (try dsimp only at hSw); go_simp)
                  try simp only [Act.put, List.getElem_toArray, List.getElem_cons_succ, List.getElem_cons_zero, List.setIfInBounds_toArray, List.set_cons_zero, List.set_cons_succ]
                  refine wpAnyH_take (i := 3) (v := .pointer (some ⟨rb, 5, none⟩)) rfl (by kernel_rfl) (by kernel_rfl) (by kernel_rfl) (fun _ _ _ h => h) (Or.inl ⟨by rfl, ?hyy⟩) (by assumption) ?_
                  case hyy => (intro w' hSw; (try dsimp only at hSw); go_simp)
                  try simp only [Act.put, List.getElem_toArray, List.getElem_cons_succ, List.getElem_cons_zero, List.setIfInBounds_toArray, List.set_cons_zero, List.set_cons_succ]
                  refine wpAnyH_take (i := 4) (v := .agg #[.slice ad L.length cc, .map (some ra), .map (some rk)]) rfl (by kernel_rfl) (by kernel_rfl) (by kernel_rfl) (fun _ _ _ h => h) (Or.inl ⟨by rfl, ?hyy⟩) (by assumption) ?_
                  case hyy => (intro w' hSw; (try dsimp only at hSw); go_simp)
                  try simp only [Act.put, List.getElem_toArray, List.getElem_cons_succ, List.getElem_cons_zero, List.setIfInBounds_toArray, List.set_cons_zero, List.set_cons_succ]
                  refine wpAnyH_take (i := 5) (v := .agg #[.int .i64 e0, .int .i64 e1, .int .i64 e2, .int .i64 e3]) rfl (by kernel_rfl) (by kernel_rfl) (by kernel_rfl) (fun _ _ _ h => h) (Or.inl ⟨by rfl, ?hyy⟩) (by assumption) ?_
                  case hyy => (intro w' hSw; (try dsimp only at hSw); go_simp)
                  try simp only [Act.put, List.getElem_toArray, List.getElem_cons_succ, List.getElem_cons_zero, List.setIfInBounds_toArray, List.set_cons_zero, List.set_cons_succ]
                  refine wpAnyH_ready (rs := [6]) (by kernel_rfl) (by simp) ?_
                  refine AllReadyH.cons rfl (fun K6 hK6 => ?_) AllReadyH.nil
                  go_simp
                  refine (C49.out _ (bl_drew (bl_alloc (bl_refl _)))).mono ?_
                  rintro e w5 ⟨rfl, hb5⟩
                  have B5 : Hid (Below w.heap.size w w5) := bl_via HBW.out (bl_via (bl_drew (bl_alloc (bl_refl _))) hb5)
                  refine hK6.out _ _ ⟨cl_kept hb5 (dr_old (al_old d5)), cl_kept hb5 (dr_old (al_old d6)), cl_kept hb5 (dr_old (al_old d7)), cl_kept hb5 (dr_old y0), cl_kept hb5 (dr_old y1), cl_kept hb5 (dr_old y2), cl_kept hb5 (dr_old y3)⟩ (fun _ => ?_)
                  try simp only [Act.put, List.getElem_toArray, List.getElem_cons_succ, List.getElem_cons_zero, List.setIfInBounds_toArray, List.set_cons_zero, List.set_cons_succ]
                  refine wpAnyH_take (i := 7) (v := .bool false) rfl (by kernel_rfl) (by kernel_rfl) (by kernel_rfl) (fun _ _ _ h => h) (Or.inl ⟨by rfl, ?hyy⟩) (by assumption) ?_
                  case hyy => (intro w' hSw; (try dsimp only at hSw); go_simp)
                  try simp only [Act.put, List.getElem_toArray, List.getElem_cons_succ, List.getElem_cons_zero, List.setIfInBounds_toArray, List.set_cons_zero, List.set_cons_succ]
                  refine wpAnyH_ready (rs := [8]) (by kernel_rfl) (by simp) ?_
                  refine AllReadyH.cons rfl (fun K8 hK8 => ?_) AllReadyH.nil
                  go_simp
                  refine (refuse_no _ _ _).mono ?_
                  rintro e w6 ⟨rfl, rfl⟩
                  refine hK8.out _ _ ⟨cl_kept hb5 (dr_old (al_old d5)), cl_kept hb5 (dr_old (al_old d6)), cl_kept hb5 (dr_old (al_old d7)), cl_kept hb5 (dr_old y0), cl_kept hb5 (dr_old y1), cl_kept hb5 (dr_old y2), cl_kept hb5 (dr_old y3)⟩ (fun _ => ?_)
                  try simp only [Act.put, List.getElem_toArray, List.getElem_cons_succ, List.getElem_cons_zero, List.setIfInBounds_toArray, List.set_cons_zero, List.set_cons_succ]
                  refine wpAnyH_done (by kernel_rfl) ?_ _
                  have HN : Hid (ER w6 (some ⟨g9, 0, none⟩) es) := HER.out.kept (bl_via (bl_drew (bl_alloc (bl_refl _))) hb5)
                  clear hb5
                  go_wp2
                  go_roundg (es.length - (i + 1))
                  case measure => omega
                  case rel => exact ⟨i + 1, by omega, rfl, by go_num, fun k hk hki => by
                    by_cases e : k = i
                    · subst e
                      exact hin
                    · exact HAL.out k hk (by omega), HN.out, B5.out⟩
              · obtain rfl : i = es.length := by omega
                have i1 : ¬ (es.length : Int) < (es.length : Int) := by omega
                have HAL2 : Hid (∀ e ∈ es, inn e = true) := fun e he => by
                  obtain ⟨k, hk, rfl⟩ := List.mem_iff_getElem.1 he
                  exact HAL.out k hk hk
                have HS : Hid (ER wr (some ⟨g9, 0, none⟩) es ∧ Below w.heap.size w wr) := ⟨HER.out, HBW.out⟩
                clear HER HBW HAL HPL2
                go_wp2
                go_loopg [87] es.length (fun gk s87 wx => ∃ i : Nat, i ≤ es.length ∧ es.length - i = gk ∧ s87 = .int .i64 (i : Int) ∧ (∀ k (hk : k < es.length), k < i → kdc cs es[k] = 0) ∧ ER wx (some ⟨g9, 0, none⟩) es ∧ Below w.heap.size w wx)
                case atStart => exact ⟨0, by omega, rfl, rfl, fun k _ h => by omega, HS.out.1, HS.out.2⟩
                case round =>
                  clear HS
                  obtain ⟨i, hi, rfl, rfl, hz, her, hbw⟩ := hrel
                  have HZ : Hid (∀ k (hk : k < es.length), k < i → kdc cs es[k] = 0) := hz
                  have HER : Hid (ER wr (some ⟨g9, 0, none⟩) es) := her
                  have HBW : Hid (Below w.heap.size w wr) := hbw
                  clear hz her hbw
                  by_cases h1 : i < es.length
                  · have i1 : (i : Int) < (es.length : Int) := by omega
                    have i0 : (0 : Int) ≤ (i : Int) := by omega
                    obtain ⟨g', hg', t0, t1, t2, t3⟩ := HER.out i h1
                    obtain rfl : g9 = g' := by simpa using hg'
                    clear hg'
                    obtain ⟨⟨e0, e1, e2, e3⟩, he⟩ : ∃ e : E4, e = es[i] := ⟨_, rfl⟩
                    rw [← he] at t0 t1 t2 t3
                    dsimp only at t0 t1 t2 t3
                    have zg : g9 < wr.heap.size := World.block_lt_of_cell? _ _ t0
                    have y0 : (wr.alloc (.cells #[.int .i64 e0, .int .i64 e1, .int .i64 e2, .int .i64 e3] 53)).cell? ⟨wr.heap.size, 0, none⟩ = some (.int .i64 e0) := by simp
                    have y1 : (wr.alloc (.cells #[.int .i64 e0, .int .i64 e1, .int .i64 e2, .int .i64 e3] 53)).cell? ⟨wr.heap.size, 1, none⟩ = some (.int .i64 e1) := by simp
                    have y2 : (wr.alloc (.cells #[.int .i64 e0, .int .i64 e1, .int .i64 e2, .int .i64 e3] 53)).cell? ⟨wr.heap.size, 2, none⟩ = some (.int .i64 e2) := by simp
                    have y3 : (wr.alloc (.cells #[.int .i64 e0, .int .i64 e1, .int .i64 e2, .int .i64 e3] 53)).cell? ⟨wr.heap.size, 3, none⟩ = some (.int .i64 e3) := by simp
                    obtain ⟨d1, -, -, -, -, -, d8, -, dkm⟩ := HCB.out.kept HBW.out
                    obtain ⟨ls, c, hem0, hgd, hkr⟩ := dkm
                    have hem : EM (wr.alloc (.cells #[.int .i64 e0, .int .i64 e1, .int .i64 e2, .int .i64 e3] 53)).drew kb ls c := hem0.grown (bl_grown (bl_drew (bl_alloc (bl_refl _)))) (by simp)
                    obtain ⟨kv, hkv⟩ : ∃ kv, kv = kdc cs es[i] := ⟨_, rfl⟩
                    have HLk : Hid (∀ V : World, EM V kb ls c → (Instr.lookup 37 (.map (some kb)) (.agg #[.int .i64 e0, .int .i64 e1, .int .i64 e2, .int .i64 e3]) false).run Tryz.prog V = .ok (.int .i64 kv) V) := fun V h => by
                      have h9 := lookup27 Tryz.underlying37 zeroR3 h hgd (e0, e1, e2, e3)
                      rw [hkr.get, he, ← hkv] at h9
                      have h8 : ek es[i] = .agg #[.int .i64 e0, .int .i64 e1, .int .i64 e2, .int .i64 e3] := by rw [← he]; rfl
                      rw [h8] at h9
                      exact h9
                    clear hem0 hgd hkr he
                    by_cases hk0 : kv = 0
                    · have hin : kdc cs es[i] = 0 := by rw [← hkv, hk0]
                      rw [hk0] at HLk
                      clear hkv hk0
                      go_wp2
                      refine wp_region_held_drew (S := fun w' => EM w' kb ls c ∧ w'.cell? ⟨rb, 8, none⟩ = some (.map (some kb)) ∧ w'.cell? ⟨wr.heap.size, 0, none⟩ = some (.int .i64 e0) ∧ w'.cell? ⟨wr.heap.size, 1, none⟩ = some (.int .i64 e1) ∧ w'.cell? ⟨wr.heap.size, 2, none⟩ = some (.int .i64 e2) ∧ w'.cell? ⟨wr.heap.size, 3, none⟩ = some (.int .i64 e3)) (by kernel_rfl) ⟨hem, dr_old (al_old d8), dr_old y0, dr_old y1, dr_old y2, dr_old y3⟩ (fun hHeld => ?_)
                      try simp only [Act.put, List.getElem_toArray, List.getElem_cons_succ, List.getElem_cons_zero, List.setIfInBounds_toArray, List.set_cons_zero, List.set_cons_succ]
                      refine wpAnyH_take (i := 0) (v := .pointer (some ⟨rb, 0, none⟩)) rfl (by kernel_rfl) (by kernel_rfl) (by kernel_rfl) (fun _ _ _ h => h) (Or.inl ⟨by rfl, ?hyy⟩) (by assumption) ?_
                      case hyy => (intro w' hSw; (try dsimp only at hSw); go_simp)
                      try simp only [Act.put, List.getElem_toArray, List.getElem_cons_zero, List.setIfInBounds_toArray, List.set_cons_zero, List.set_cons_succ]
                      refine wpAnyH_take (i := 1) (v := .pointer (some ⟨rb, 0, none⟩)) rfl (by kernel_rfl) (by kernel_rfl) (by kernel_rfl) (fun _ _ _ h => h) (Or.inl ⟨by rfl, ?hyy⟩) (by assumption) ?_
                      case hyy => (intro w' hSw; (try dsimp only at hSw); go_simp)
                      try simp only [Act.put, List.getElem_toArray, List.getElem_cons_succ, List.getElem_cons_zero, List.setIfInBounds_toArray, List.set_cons_zero, List.set_cons_succ]
                      refine wpAnyH_take (i := 2) (v := .pointer (some ⟨rb, 0, none⟩)) rfl (by kernel_rfl) (by kernel_rfl) (by kernel_rfl) (fun _ _ _ h => h) (Or.inl ⟨by rfl, ?hyy⟩) (by assumption) ?_
                      case hyy => (intro w' hSw; (try dsimp only at hSw); go_simp)
                      try simp only [Act.put, List.getElem_toArray, List.getElem_cons_succ, List.getElem_cons_zero, List.setIfInBounds_toArray, List.set_cons_zero, List.set_cons_succ]
                      refine wpAnyH_take (i := 3) (v := .pointer (some ⟨rb, 8, none⟩)) rfl (by kernel_rfl) (by kernel_rfl) (by kernel_rfl) (fun _ _ _ h => h) (Or.inl ⟨by rfl, ?hyy⟩) (by assumption) ?_
                      case hyy => (intro w' hSw; (try dsimp only at hSw); go_simp)
                      try simp only [Act.put, List.getElem_toArray, List.getElem_cons_succ, List.getElem_cons_zero, List.setIfInBounds_toArray, List.set_cons_zero, List.set_cons_succ]
                      refine wpAnyH_take (i := 4) (v := .map (some kb)) rfl (by kernel_rfl) (by kernel_rfl) (by kernel_rfl) (fun _ _ _ h => h) (Or.inl ⟨by rfl, ?hyy⟩) (by assumption) ?_
                      case hyy => (intro w' hSw; (try dsimp only at hSw); go_simp)
                      try simp only [Act.put, List.getElem_toArray, List.getElem_cons_succ, List.getElem_cons_zero, List.setIfInBounds_toArray, List.set_cons_zero, List.set_cons_succ]
                      refine wpAnyH_take (i := 5) (v := .agg #[.int .i64 e0, .int .i64 e1, .int .i64 e2, .int .i64 e3]) rfl (by kernel_rfl) (by kernel_rfl) (by kernel_rfl) (fun _ _ _ h => h) (Or.inl ⟨by rfl, ?hyy⟩) (by assumption) ?_
                      case hyy => (intro w' hSw; (try dsimp only at hSw); go_simp)
                      try simp only [Act.put, List.getElem_toArray, List.getElem_cons_succ, List.getElem_cons_zero, List.setIfInBounds_toArray, List.set_cons_zero, List.set_cons_succ]
                      refine wpAnyH_take (i := 6) (v := .int .i64 0) rfl (by kernel_rfl) (by kernel_rfl) (by kernel_rfl) (fun _ _ _ h => h) (Or.inl ⟨by rfl, ?hyy⟩) (by assumption) ?_
                      case hyy => (intro w' hSw; (try dsimp only at hSw); have hlk := HLk.out w' hSw.1; go_simp)
                      try simp only [Act.put, List.getElem_toArray, List.getElem_cons_succ, List.getElem_cons_zero, List.setIfInBounds_toArray, List.set_cons_zero, List.set_cons_succ]
                      refine wpAnyH_take (i := 7) (v := .bool false) rfl (by kernel_rfl) (by kernel_rfl) (by kernel_rfl) (fun _ _ _ h => h) (Or.inl ⟨by rfl, ?hyy⟩) (by assumption) ?_
                      case hyy => (intro w' hSw; (try dsimp only at hSw); go_simp)
                      try simp only [Act.put, List.getElem_toArray, List.getElem_cons_succ, List.getElem_cons_zero, List.setIfInBounds_toArray, List.set_cons_zero, List.set_cons_succ]
                      refine wpAnyH_ready (rs := [8]) (by kernel_rfl) (by simp) ?_
                      refine AllReadyH.cons rfl (fun K8 hK8 => ?_) AllReadyH.nil
                      go_simp
                      refine (refuse_no _ _ _).mono ?_
                      rintro e w6 ⟨rfl, hw6⟩
                      have b6 : Below wr.heap.size wr w6 := by rw [hw6]; exact bl_drew (bl_alloc (bl_refl _))
                      refine hK8.out _ _ (by rw [hw6]; exact ⟨hem, dr_old (al_old d8), dr_old y0, dr_old y1, dr_old y2, dr_old y3⟩) (fun _ => ?_)
                      try simp only [Act.put, List.getElem_toArray, List.getElem_cons_succ, List.getElem_cons_zero, List.setIfInBounds_toArray, List.set_cons_zero, List.set_cons_succ]
                      refine wpAnyH_done (by kernel_rfl) ?_ _
                      have HN : Hid (ER w6 (some ⟨g9, 0, none⟩) es ∧ Below w.heap.size w w6) := ⟨HER.out.kept b6, bl_via HBW.out b6⟩
                      clear b6 hw6
                      go_wp2
                      go_roundg (es.length - (i + 1))
                      case measure => omega
                      case rel => exact ⟨i + 1, by omega, rfl, by go_num, fun k hk hki => by
                        by_cases e : k = i
                        · subst e
                          exact hin
                        · exact HZ.out k hk (by omega), HN.out.1, HN.out.2⟩
                    · have HE : Hid (crS W H inn cs [x0, x1, x2, x3, x4] = (6, cs)) := HTW2.out HAL2.out i h1 (by rw [← hkv]; exact hk0)
                      have hk1 : (kv == 0) = false := by simpa using hk0
                      clear hkv
                      go_wp2
                      refine wp_region_held_drew (S := fun w' => EM w' kb ls c ∧ w'.cell? ⟨rb, 8, none⟩ = some (.map (some kb)) ∧ w'.cell? ⟨wr.heap.size, 0, none⟩ = some (.int .i64 e0) ∧ w'.cell? ⟨wr.heap.size, 1, none⟩ = some (.int .i64 e1) ∧ w'.cell? ⟨wr.heap.size, 2, none⟩ = some (.int .i64 e2) ∧ w'.cell? ⟨wr.heap.size, 3, none⟩ = some (.int .i64 e3)) (by kernel_rfl) ⟨hem, dr_old (al_old d8), dr_old y0, dr_old y1, dr_old y2, dr_old y3⟩ (fun hHeld => ?_)
                      try simp only [Act.put, List.getElem_toArray, List.getElem_cons_succ, List.getElem_cons_zero, List.setIfInBounds_toArray, List.set_cons_zero, List.set_cons_succ]
                      refine wpAnyH_take (i := 0) (v := .pointer (some ⟨rb, 0, none⟩)) rfl (by kernel_rfl) (by kernel_rfl) (by kernel_rfl) (fun _ _ _ h => h) (Or.inl ⟨by rfl, ?hyy⟩) (by assumption) ?_
                      case hyy => (intro w' hSw; (try dsimp only at hSw); go_simp)
                      try simp only [Act.put, List.getElem_toArray, List.getElem_cons_zero, List.setIfInBounds_toArray, List.set_cons_zero, List.set_cons_succ]
                      refine wpAnyH_take (i := 1) (v := .pointer (some ⟨rb, 0, none⟩)) rfl (by kernel_rfl) (by kernel_rfl) (by kernel_rfl) (fun _ _ _ h => h) (Or.inl ⟨by rfl, ?hyy⟩) (by assumption) ?_
                      case hyy => (intro w' hSw; (try dsimp only at hSw); go_simp)
                      try simp only [Act.put, List.getElem_toArray, List.getElem_cons_succ, List.getElem_cons_zero, List.setIfInBounds_toArray, List.set_cons_zero, List.set_cons_succ]
                      refine wpAnyH_take (i := 2) (v := .pointer (some ⟨rb, 0, none⟩)) rfl (by kernel_rfl) (by kernel_rfl) (by kernel_rfl) (fun _ _ _ h => h) (Or.inl ⟨by rfl, ?hyy⟩) (by assumption) ?_
                      case hyy => (intro w' hSw; (try dsimp only at hSw); go_simp)
                      try simp only [Act.put, List.getElem_toArray, List.getElem_cons_succ, List.getElem_cons_zero, List.setIfInBounds_toArray, List.set_cons_zero, List.set_cons_succ]
                      refine wpAnyH_take (i := 3) (v := .pointer (some ⟨rb, 8, none⟩)) rfl (by kernel_rfl) (by kernel_rfl) (by kernel_rfl) (fun _ _ _ h => h) (Or.inl ⟨by rfl, ?hyy⟩) (by assumption) ?_
                      case hyy => (intro w' hSw; (try dsimp only at hSw); go_simp)
                      try simp only [Act.put, List.getElem_toArray, List.getElem_cons_succ, List.getElem_cons_zero, List.setIfInBounds_toArray, List.set_cons_zero, List.set_cons_succ]
                      refine wpAnyH_take (i := 4) (v := .map (some kb)) rfl (by kernel_rfl) (by kernel_rfl) (by kernel_rfl) (fun _ _ _ h => h) (Or.inl ⟨by rfl, ?hyy⟩) (by assumption) ?_
                      case hyy => (intro w' hSw; (try dsimp only at hSw); go_simp)
                      try simp only [Act.put, List.getElem_toArray, List.getElem_cons_succ, List.getElem_cons_zero, List.setIfInBounds_toArray, List.set_cons_zero, List.set_cons_succ]
                      refine wpAnyH_take (i := 5) (v := .agg #[.int .i64 e0, .int .i64 e1, .int .i64 e2, .int .i64 e3]) rfl (by kernel_rfl) (by kernel_rfl) (by kernel_rfl) (fun _ _ _ h => h) (Or.inl ⟨by rfl, ?hyy⟩) (by assumption) ?_
                      case hyy => (intro w' hSw; (try dsimp only at hSw); go_simp)
                      try simp only [Act.put, List.getElem_toArray, List.getElem_cons_succ, List.getElem_cons_zero, List.setIfInBounds_toArray, List.set_cons_zero, List.set_cons_succ]
                      refine wpAnyH_take (i := 6) (v := .int .i64 kv) rfl (by kernel_rfl) (by kernel_rfl) (by kernel_rfl) (fun _ _ _ h => h) (Or.inl ⟨by rfl, ?hyy⟩) (by assumption) ?_
                      case hyy => (intro w' hSw; (try dsimp only at hSw); have hlk := HLk.out w' hSw.1; go_simp)
                      try simp only [Act.put, List.getElem_toArray, List.getElem_cons_succ, List.getElem_cons_zero, List.setIfInBounds_toArray, List.set_cons_zero, List.set_cons_succ]
                      refine wpAnyH_take (i := 7) (v := .bool true) rfl (by kernel_rfl) (by kernel_rfl) (by kernel_rfl) (fun _ _ _ h => h) (Or.inl ⟨by rfl, ?hyy⟩) (by assumption) ?_
                      case hyy => (intro w' hSw; (try dsimp only at hSw); go_simp)
                      try simp only [Act.put, List.getElem_toArray, List.getElem_cons_succ, List.getElem_cons_zero, List.setIfInBounds_toArray, List.set_cons_zero, List.set_cons_succ]
                      refine wpAnyH_ready (rs := [8]) (by kernel_rfl) (by simp) ?_
                      refine AllReadyH.cons rfl (fun K8 hK8 => ?_) AllReadyH.nil
                      go_simp
                      refine (refuse_yes _ _ _ _ (dr_old (al_old d1))).mono ?_
                      rintro e w6 ⟨rfl, hw6⟩
                      have h9 := HR.out 6 cs HE.out (by decide) w6 (by rw [hw6]; exact bl_via HBW.out (bl_drew (bl_alloc (bl_refl _))))
                      simp +zetaDelta [bodyPost, PF] at h9 ⊢
                      exact h9
                  · obtain rfl : i = es.length := by omega
                    have i1 : ¬ (es.length : Int) < (es.length : Int) := by omega
                    have HZ2 : Hid (∀ e ∈ es, kdc cs e = 0) := fun e he => by
                      obtain ⟨k, hk, rfl⟩ := List.mem_iff_getElem.1 he
                      exact HZ.out k hk hk
                    have HS : Hid (ER wr (some ⟨g9, 0, none⟩) es ∧ w.grownBy wr (some kb) ∧ KM wr kb (putA cs (es.take 0) K)) := ⟨HER.out, gb_bl HBW.out, by rw [List.take_zero]; exact HCB.out.2.2.2.2.2.2.2.2.kept HBW.out⟩
                    clear HER HBW HZ
                    go_wp2
                    go_loopg [103] es.length (fun gk s103 wx => ∃ i : Nat, i ≤ es.length ∧ es.length - i = gk ∧ s103 = .int .i64 (i : Int) ∧ ER wx (some ⟨g9, 0, none⟩) es ∧ w.grownBy wx (some kb) ∧ KM wx kb (putA cs (es.take i) K))
                    case atStart => exact ⟨0, by omega, rfl, rfl, HS.out.1, HS.out.2.1, HS.out.2.2⟩
                    case round =>
                      clear HS
                      obtain ⟨i, hi, rfl, rfl, her, hgw, hkm⟩ := hrel
                      have HER : Hid (ER wr (some ⟨g9, 0, none⟩) es) := her
                      have HGW : Hid (w.grownBy wr (some kb)) := hgw
                      have HKM : Hid (KM wr kb (putA cs (es.take i) K)) := hkm
                      have d8 := grown_cl hgw (Ne.symm hne) HCB.out.2.2.2.2.2.2.1
                      have zk : kb < wr.heap.size := hkm.lt
                      clear her hgw hkm
                      by_cases h1 : i < es.length
                      · have i1 : (i : Int) < (es.length : Int) := by omega
                        have i0 : (0 : Int) ≤ (i : Int) := by omega
                        obtain ⟨g', hg', t0, t1, t2, t3⟩ := HER.out i h1
                        obtain rfl : g9 = g' := by simpa using hg'
                        clear hg'
                        obtain ⟨⟨e0, e1, e2, e3⟩, he⟩ : ∃ e : E4, e = es[i] := ⟨_, rfl⟩
                        rw [← he] at t0 t1 t2 t3
                        dsimp only at t0 t1 t2 t3
                        have zg : g9 < wr.heap.size := World.block_lt_of_cell? _ _ t0
                        have y0 : (wr.alloc (.cells #[.int .i64 e0, .int .i64 e1, .int .i64 e2, .int .i64 e3] 53)).cell? ⟨wr.heap.size, 0, none⟩ = some (.int .i64 e0) := by simp
                        have y1 : (wr.alloc (.cells #[.int .i64 e0, .int .i64 e1, .int .i64 e2, .int .i64 e3] 53)).cell? ⟨wr.heap.size, 1, none⟩ = some (.int .i64 e1) := by simp
                        have y2 : (wr.alloc (.cells #[.int .i64 e0, .int .i64 e1, .int .i64 e2, .int .i64 e3] 53)).cell? ⟨wr.heap.size, 2, none⟩ = some (.int .i64 e2) := by simp
                        have y3 : (wr.alloc (.cells #[.int .i64 e0, .int .i64 e1, .int .i64 e2, .int .i64 e3] 53)).cell? ⟨wr.heap.size, 3, none⟩ = some (.int .i64 e3) := by simp
                        obtain ⟨ls, c, hem0, hgd, hkr⟩ := HKM.out
                        have hem : EM (wr.alloc (.cells #[.int .i64 e0, .int .i64 e1, .int .i64 e2, .int .i64 e3] 53)).drew kb ls c := hem0.grown (bl_grown (bl_drew (bl_alloc (bl_refl _)))) (by simp)
                        obtain ⟨ls', c', hup, hgd', hlk', -⟩ := update27 Tryz.underlying37 hem hgd (e0, e1, e2, e3) (.int .i64 K)
                        unfold ek at hup
                        dsimp only at hup
                        have hpo := putA_ok HCO.out HES.out.2 HZ2.out hK i
                        have hgr := blkE_grown (wr.alloc (.cells #[.int .i64 e0, .int .i64 e1, .int .i64 e2, .int .i64 e3] 53)).drew kb (.map (ls'.map toE).toArray c')
                        have hKM2 : KM (setBlock (wr.alloc (.cells #[.int .i64 e0, .int .i64 e1, .int .i64 e2, .int .i64 e3] 53)).drew kb (.map (ls'.map toE).toArray c')) kb (putA cs (es.take (i + 1)) K) := by
                          refine ⟨ls', c', blkE_same hem.lt _, hgd', ?_⟩
                          rw [List.take_succ_eq_append_getElem h1, putA_snoc]
                          refine hkr.put hpo.1 (by omega) (hpo.2 i h1 (Nat.le_refl _)) (fun j => ?_)
                          rw [← he]
                          exact hlk' j
                        clear hem0 hem hgd hkr hgd' hlk' hpo HKM he
                        go_wp2
                        refine wp_region_held_drew (S := fun w' => w'.cell? ⟨rb, 8, none⟩ = some (.map (some kb)) ∧ w'.cell? ⟨wr.heap.size, 0, none⟩ = some (.int .i64 e0) ∧ w'.cell? ⟨wr.heap.size, 1, none⟩ = some (.int .i64 e1) ∧ w'.cell? ⟨wr.heap.size, 2, none⟩ = some (.int .i64 e2) ∧ w'.cell? ⟨wr.heap.size, 3, none⟩ = some (.int .i64 e3)) (by kernel_rfl) ⟨dr_old (al_old d8), dr_old y0, dr_old y1, dr_old y2, dr_old y3⟩ (fun hHeld => ?_)
                        try simp only [Act.put, List.getElem_toArray, List.getElem_cons_succ, List.getElem_cons_zero, List.setIfInBounds_toArray, List.set_cons_zero, List.set_cons_succ]
                        refine wpAnyH_take (i := 0) (v := .pointer (some ⟨rb, 0, none⟩)) rfl (by kernel_rfl) (by kernel_rfl) (by kernel_rfl) (fun _ _ _ h => h) (Or.inl ⟨by rfl, ?hyy⟩) (by assumption) ?_
                        case hyy => (intro w' hSw; (try dsimp only at hSw); go_simp)
                        try simp only [Act.put, List.getElem_toArray, List.getElem_cons_zero, List.setIfInBounds_toArray, List.set_cons_zero, List.set_cons_succ]
                        refine wpAnyH_take (i := 1) (v := .pointer (some ⟨rb, 0, none⟩)) rfl (by kernel_rfl) (by kernel_rfl) (by kernel_rfl) (fun _ _ _ h => h) (Or.inl ⟨by rfl, ?hyy⟩) (by assumption) ?_
                        case hyy => (intro w' hSw; (try dsimp only at hSw); go_simp)
                        try simp only [Act.put, List.getElem_toArray, List.getElem_cons_succ, List.getElem_cons_zero, List.setIfInBounds_toArray, List.set_cons_zero, List.set_cons_succ]
                        refine wpAnyH_take (i := 2) (v := .pointer (some ⟨rb, 8, none⟩)) rfl (by kernel_rfl) (by kernel_rfl) (by kernel_rfl) (fun _ _ _ h => h) (Or.inl ⟨by rfl, ?hyy⟩) (by assumption) ?_
                        case hyy => (intro w' hSw; (try dsimp only at hSw); go_simp)
                        try simp only [Act.put, List.getElem_toArray, List.getElem_cons_succ, List.getElem_cons_zero, List.setIfInBounds_toArray, List.set_cons_zero, List.set_cons_succ]
                        refine wpAnyH_take (i := 3) (v := .map (some kb)) rfl (by kernel_rfl) (by kernel_rfl) (by kernel_rfl) (fun _ _ _ h => h) (Or.inl ⟨by rfl, ?hyy⟩) (by assumption) ?_
                        case hyy => (intro w' hSw; (try dsimp only at hSw); go_simp)
                        try simp only [Act.put, List.getElem_toArray, List.getElem_cons_succ, List.getElem_cons_zero, List.setIfInBounds_toArray, List.set_cons_zero, List.set_cons_succ]
                        refine wpAnyH_take (i := 4) (v := .agg #[.int .i64 e0, .int .i64 e1, .int .i64 e2, .int .i64 e3]) rfl (by kernel_rfl) (by kernel_rfl) (by kernel_rfl) (fun _ _ _ h => h) (Or.inl ⟨by rfl, ?hyy⟩) (by assumption) ?_
                        case hyy => (intro w' hSw; (try dsimp only at hSw); go_simp)
                        try simp only [Act.put, List.getElem_toArray, List.getElem_cons_succ, List.getElem_cons_zero, List.setIfInBounds_toArray, List.set_cons_zero, List.set_cons_succ]
                        refine wpAnyH_take (i := 5) (v := .int .i64 K) rfl (by kernel_rfl) (by kernel_rfl) (by kernel_rfl) (fun _ _ _ h => h) (Or.inl ⟨by rfl, ?hyy⟩) (by assumption) ?_
                        case hyy => (intro w' hSw; (try dsimp only at hSw); go_simp)
                        try simp only [Act.put, List.getElem_toArray, List.getElem_cons_succ, List.getElem_cons_zero, List.setIfInBounds_toArray, List.set_cons_zero, List.set_cons_succ]
                        refine wpAnyH_ready (rs := [6]) (by kernel_rfl) (by simp) ?_
                        refine AllReadyH.cons rfl (fun K6 hK6 => ?_) AllReadyH.nil
                        go_simp
                        refine hK6.out _ _ ⟨grown_cl hgr (Ne.symm hne) (dr_old (al_old d8)), grown_cl hgr (by omega) (dr_old y0), grown_cl hgr (by omega) (dr_old y1), grown_cl hgr (by omega) (dr_old y2), grown_cl hgr (by omega) (dr_old y3)⟩ (fun _ => ?_)
                        try simp only [Act.put, List.getElem_toArray, List.getElem_cons_succ, List.getElem_cons_zero, List.setIfInBounds_toArray, List.set_cons_zero, List.set_cons_succ]
                        refine wpAnyH_done (by kernel_rfl) ?_ _
                        clear hup
                        generalize hVV : setBlock _ kb _ = V2 at hgr hKM2 ⊢
                        have HN : Hid (ER V2 (some ⟨g9, 0, none⟩) es ∧ w.grownBy V2 (some kb) ∧ KM V2 kb (putA cs (es.take (i + 1)) K)) := ⟨(HER.out.kept (bl_drew (bl_alloc (bl_refl _)))).grown hgr (fun g e => by cases e; omega), gb_then HGW.out (gb_then (gb_bl (bl_drew (bl_alloc (bl_refl _)))) hgr), hKM2⟩
                        clear hgr hKM2 hVV
                        go_wp2
                        go_roundg (es.length - (i + 1))
                        case measure => omega
                        case rel => exact ⟨i + 1, by omega, rfl, by go_num, HN.out.1, HN.out.2.1, HN.out.2.2⟩
                      · obtain rfl : i = es.length := by omega
                        have i1 : ¬ (es.length : Int) < (es.length : Int) := by omega
                        have HFN : Hid (CrTo w wr kb n (crS W H inn cs [x0, x1, x2, x3, x4]) (.returned (.tuple #[]))) := by
                          refine Or.inr ⟨rfl, ?_⟩
                          have hko := HKM.out
                          rw [List.take_length] at hko
                          have hpo := (putA_ok HCO.out HES.out.2 HZ2.out hK es.length).1
                          rw [List.take_length] at hpo
                          rw [HOK2.out HNE.out HAL2.out HZ2.out]
                          exact ⟨rfl, hko, hpo, HGW.out⟩
                        clear HKM HGW HER d8
                        go_wp2
                        first | go_ret | go_end0
                        exact HFN.out
end Go.Proofs.YtehmoacggikfmaaGreatDoor
