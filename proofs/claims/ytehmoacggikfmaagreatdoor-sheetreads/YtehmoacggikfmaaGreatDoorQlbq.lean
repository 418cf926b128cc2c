/- A crease's line: the rest. -/
import Derived.Test.YtehmoacggikfmaaGreatDoorQlbm
namespace Go.Proofs.YtehmoacggikfmaaGreatDoor
open Go.RowKit Go.ChangeMaps

theorem st_two {w : World} {A c g : Nat} {x y v : Value} (h : w.cell? ⟨A, c, none⟩ = some v) (hne : A ≠ g) : ((w.setCell ⟨g, 0, none⟩ x).setCell ⟨g, 1, none⟩ y).cell? ⟨A, c, none⟩ = some v := st_old (st_old h hne) hne
theorem bl_two {w v : World} {g : Nat} {x y : Value} (h : Below w.heap.size w v) (hg : w.heap.size ≤ g) : Below w.heap.size w ((v.setCell ⟨g, 0, none⟩ x).setCell ⟨g, 1, none⟩ y) := bl_set (bl_set h hg) hg
set_option maxRecDepth 100000 in
set_option maxHeartbeats 3200000 in
theorem rc_num3 (rb A : Nat) (n : Int) (x0 x1 x2 x3 x4 : List UInt8) (w : World) (hs : SR w A [x0, x1, x2, x3, x4]) (hc : w.cell? ⟨rb, 1, none⟩ = some (.int .i64 n)) (K : Int) (hkd : kdW x0 = K) (hK : K ≠ 0) (v1 v2 : Nat) (h1 : num x1 = some v1) (h2 : num x2 = some v2) (hn : num x3 = none) :
    Calls Tryz.prog 28 #[.pointer (some ⟨rb, 0, none⟩), .slice (some ⟨A, 0, none⟩) 5 5] w fun e w' => e = PF 1 n ∧ Below w.heap.size w w' := by
  have s0 : w.cell? ⟨A, 0, none⟩ = some (.string (bs x0)) := hs 0 (by simp)
  have s1 : w.cell? ⟨A, 1, none⟩ = some (.string (bs x1)) := hs 1 (by simp)
  have s2 : w.cell? ⟨A, 2, none⟩ = some (.string (bs x2)) := hs 2 (by simp)
  have s3 : w.cell? ⟨A, 3, none⟩ = some (.string (bs x3)) := hs 3 (by simp)
  have s4 : w.cell? ⟨A, 4, none⟩ = some (.string (bs x4)) := hs 4 (by simp)
  have K46 : Hid (∀ V : World, Calls Tryz.prog 46 #[.string (bs x0)] V fun e w' => e = .returned (.int .i64 K) ∧ Below V.heap.size V w') := fun V => by
    have h9 := kindOf_code (bs x0) V
    rw [bs_data, hkd] at h9
    exact h9
  have N1 : Hid (∀ V : World, Calls Tryz.prog 24 #[.pointer (some ⟨rb, 0, none⟩), .string (bs x1)] V fun e w' => e = .returned (.int .i64 (v1 : Int)) ∧ Below V.heap.size V w') := fun V => rnumber_yes rb (bs x1) v1 V h1
  have N2 : Hid (∀ V : World, Calls Tryz.prog 24 #[.pointer (some ⟨rb, 0, none⟩), .string (bs x2)] V fun e w' => e = .returned (.int .i64 (v2 : Int)) ∧ Below V.heap.size V w') := fun V => rnumber_yes rb (bs x2) v2 V h2
  have NX : Hid (∀ V : World, V.cell? ⟨rb, 1, none⟩ = some (.int .i64 n) → Calls Tryz.prog 24 #[.pointer (some ⟨rb, 0, none⟩), .string (bs x3)] V fun e w' => e = PF 1 n ∧ Below V.heap.size V w') := fun V h => rnumber_no rb (bs x3) n V hn h
  have q0 : (K == 0) = false := by simpa using hK
  clear hs hkd hn h1 h2
  go_enter Tryz.func28, Tryz.ntmps28
  go_wp2_with (first | (go_at_call 46; (with_reducible refine (K46.out _).mono ?_); rintro e w3 ⟨rfl, hbb⟩; have hc3 := cl_kept hbb hc; have e1 := cl_kept hbb s1; have e2 := cl_kept hbb s2; have e3 := cl_kept hbb s3; have e4 := cl_kept hbb s4; have HB3 : Hid (Below w.heap.size w w3) := hbb; clear hbb) | (go_at_call 23; (with_reducible refine (refuse_no _ _ _).mono ?_); rintro e w2 ⟨rfl, hw2⟩; have hw2b := hw2.symm; clear hw2; subst hw2b) | fail)
  go_cut [5] (fun s5 wx => ∃ g : Nat, s5 = .pointer (some ⟨g, 0, none⟩) ∧ wx.cell? ⟨g, 0, none⟩ = some (.int .i64 (v1 : Int)) ∧ wx.cell? ⟨g, 1, none⟩ = some (.int .i64 (v2 : Int)) ∧ Below w3.heap.size w3 wx)
  case first =>
    have zA : A < w3.heap.size := World.block_lt_of_cell? _ _ e1
    refine wp_region_held_drew (S := fun w' => w'.cell? ⟨A, 1, none⟩ = some (.string (bs x1)) ∧ w'.cell? ⟨A, 2, none⟩ = some (.string (bs x2))) (by kernel_rfl) ⟨dr_old e1, dr_old e2⟩ (fun hHeld => ?_)
    try simp only [Act.put, List.getElem_toArray, List.getElem_cons_succ, List.getElem_cons_zero, List.setIfInBounds_toArray, List.set_cons_zero, List.set_cons_succ]
    refine wpAnyH_take (i := 0) (v := .pointer (some ⟨rb, 0, none⟩)) rfl (by kernel_rfl) (by kernel_rfl) (by kernel_rfl) (fun _ _ _ h => h) (Or.inl ⟨by rfl, ?hyy⟩) (by assumption) ?_
    case hyy => (intro w' hSw; (try dsimp only at hSw); go_simp)
    try simp only [Act.put, List.getElem_toArray, List.getElem_cons_zero, List.setIfInBounds_toArray, List.set_cons_zero, List.set_cons_succ]
    refine wpAnyH_take (i := 1) (v := .slice (some ⟨A, 0, none⟩) 5 5) rfl (by kernel_rfl) (by kernel_rfl) (by kernel_rfl) (fun _ _ _ h => h) (Or.inl ⟨by rfl, ?hyy⟩) (by assumption) ?_
    case hyy => (intro w' hSw; (try dsimp only at hSw); go_simp)
    try simp only [Act.put, List.getElem_toArray, List.getElem_cons_succ, List.getElem_cons_zero, List.setIfInBounds_toArray, List.set_cons_zero, List.set_cons_succ]
    refine wpAnyH_take (i := 2) (v := .pointer (some ⟨A, 1, none⟩)) rfl (by kernel_rfl) (by kernel_rfl) (by kernel_rfl) (fun _ _ _ h => h) (Or.inl ⟨by rfl, ?hyy⟩) (by assumption) ?_
    case hyy => (intro w' hSw; (try dsimp only at hSw); go_simp)
    try simp only [Act.put, List.getElem_toArray, List.getElem_cons_succ, List.getElem_cons_zero, List.setIfInBounds_toArray, List.set_cons_zero, List.set_cons_succ]
    refine wpAnyH_take (i := 3) (v := .string (bs x1)) rfl (by kernel_rfl) (by kernel_rfl) (by kernel_rfl) (fun _ _ _ h => h) (Or.inl ⟨by rfl, ?hyy⟩) (by assumption) ?_
    case hyy => (intro w' hSw; (try dsimp only at hSw); go_simp)
    try simp only [Act.put, List.getElem_toArray, List.getElem_cons_succ, List.getElem_cons_zero, List.setIfInBounds_toArray, List.set_cons_zero, List.set_cons_succ]
    refine wpAnyH_take (i := 5) (v := .pointer (some ⟨rb, 0, none⟩)) rfl (by kernel_rfl) (by kernel_rfl) (by kernel_rfl) (fun _ _ _ h => h) (Or.inl ⟨by rfl, ?hyy⟩) (by assumption) ?_
    case hyy => (intro w' hSw; (try dsimp only at hSw); go_simp)
    try simp only [Act.put, List.getElem_toArray, List.getElem_cons_succ, List.getElem_cons_zero, List.setIfInBounds_toArray, List.set_cons_zero, List.set_cons_succ]
    refine wpAnyH_take (i := 6) (v := .slice (some ⟨A, 0, none⟩) 5 5) rfl (by kernel_rfl) (by kernel_rfl) (by kernel_rfl) (fun _ _ _ h => h) (Or.inl ⟨by rfl, ?hyy⟩) (by assumption) ?_
    case hyy => (intro w' hSw; (try dsimp only at hSw); go_simp)
    try simp only [Act.put, List.getElem_toArray, List.getElem_cons_succ, List.getElem_cons_zero, List.setIfInBounds_toArray, List.set_cons_zero, List.set_cons_succ]
    refine wpAnyH_take (i := 7) (v := .pointer (some ⟨A, 2, none⟩)) rfl (by kernel_rfl) (by kernel_rfl) (by kernel_rfl) (fun _ _ _ h => h) (Or.inl ⟨by rfl, ?hyy⟩) (by assumption) ?_
    case hyy => (intro w' hSw; (try dsimp only at hSw); go_simp)
    try simp only [Act.put, List.getElem_toArray, List.getElem_cons_succ, List.getElem_cons_zero, List.setIfInBounds_toArray, List.set_cons_zero, List.set_cons_succ]
    refine wpAnyH_take (i := 8) (v := .string (bs x2)) rfl (by kernel_rfl) (by kernel_rfl) (by kernel_rfl) (fun _ _ _ h => h) (Or.inl ⟨by rfl, ?hyy⟩) (by assumption) ?_
    case hyy => (intro w' hSw; (try dsimp only at hSw); go_simp)
    try simp only [Act.put, List.getElem_toArray, List.getElem_cons_succ, List.getElem_cons_zero, List.setIfInBounds_toArray, List.set_cons_zero, List.set_cons_succ]
    refine wpAnyH_ready (rs := [4, 11]) (by kernel_rfl) (by simp) ?_
    refine AllReadyH.cons rfl (fun J0_0 hJ0_0 => ?_) (AllReadyH.cons rfl (fun J0_1 hJ0_1 => ?_) AllReadyH.nil)
    · go_simp
      refine (N1.out _).mono ?_
      rintro e w70 ⟨rfl, hbw70⟩
      have hzw70 := bl_via (bl_drew (bl_refl _)) hbw70
      have szw70 := hzw70.size
      refine hJ0_0.out _ _ ⟨cl_kept (hzw70) e1, cl_kept (hzw70) e2⟩ (fun _ => ?_)
      try simp only [Act.put, List.getElem_toArray, List.getElem_cons_succ, List.getElem_cons_zero, List.setIfInBounds_toArray, List.set_cons_zero, List.set_cons_succ]
      refine wpAnyH_ready (rs := [9, 11]) (by kernel_rfl) (by simp) ?_
      refine AllReadyH.cons rfl (fun J1_0 hJ1_0 => ?_) (AllReadyH.cons rfl (fun J1_1 hJ1_1 => ?_) AllReadyH.nil)
      · go_simp
        refine (N2.out _).mono ?_
        rintro e w71 ⟨rfl, hbw71⟩
        have hzw71 := bl_via (hzw70) hbw71
        have szw71 := hzw71.size
        refine hJ1_0.out _ _ ⟨cl_kept (hzw71) e1, cl_kept (hzw71) e2⟩ (fun _ => ?_)
        try simp only [Act.put, List.getElem_toArray, List.getElem_cons_succ, List.getElem_cons_zero, List.setIfInBounds_toArray, List.set_cons_zero, List.set_cons_succ]
        refine wpAnyH_take (i := 10) (v := .agg #[.int .i64 (v1 : Int), .int .i64 (v2 : Int)]) rfl (by kernel_rfl) (by kernel_rfl) (by kernel_rfl) (fun _ _ _ h => h) (Or.inl ⟨by rfl, ?hyy⟩) (by assumption) ?_
        case hyy => (intro w' hSw; (try dsimp only at hSw); go_simp)
        try simp only [Act.put, List.getElem_toArray, List.getElem_cons_succ, List.getElem_cons_zero, List.setIfInBounds_toArray, List.set_cons_zero, List.set_cons_succ]
        refine wpAnyH_ready (rs := [11]) (by kernel_rfl) (by simp) ?_
        refine AllReadyH.cons rfl (fun J2_0 hJ2_0 => ?_) AllReadyH.nil
        go_simp
        refine hJ2_0.out _ _ ⟨cl_kept (bl_alloc (hzw71)) e1, cl_kept (bl_alloc (hzw71)) e2⟩ (fun _ => ?_)
        try simp only [Act.put, List.getElem_toArray, List.getElem_cons_succ, List.getElem_cons_zero, List.setIfInBounds_toArray, List.set_cons_zero, List.set_cons_succ]
        refine wpAnyH_ready (rs := [12]) (by kernel_rfl) (by simp) ?_
        refine AllReadyH.cons rfl (fun J3_0 hJ3_0 => ?_) AllReadyH.nil
        go_simp
        refine hJ3_0.out _ _ ⟨cl_kept (bl_alloc (hzw71)) e1, cl_kept (bl_alloc (hzw71)) e2⟩ (fun _ => ?_)
        try simp only [Act.put, List.getElem_toArray, List.getElem_cons_succ, List.getElem_cons_zero, List.setIfInBounds_toArray, List.set_cons_zero, List.set_cons_succ]
        refine wpAnyH_done (by kernel_rfl) ?_ _
        go_wp2
        go_meet
        case rel =>
          refine ⟨w71.heap.size, rfl, ?_, ?_, bl_alloc (hzw71)⟩
          · simp [go_sem, *]
          · simp [go_sem, *]
      · go_simp
        refine hJ1_1.out _ _ ⟨cl_kept (bl_alloc (hzw70)) e1, cl_kept (bl_alloc (hzw70)) e2⟩ (fun _ => ?_)
        try simp only [Act.put, List.getElem_toArray, List.getElem_cons_succ, List.getElem_cons_zero, List.setIfInBounds_toArray, List.set_cons_zero, List.set_cons_succ]
        refine wpAnyH_ready (rs := [9]) (by kernel_rfl) (by simp) ?_
        refine AllReadyH.cons rfl (fun J4_0 hJ4_0 => ?_) AllReadyH.nil
        go_simp
        refine (N2.out _).mono ?_
        rintro e w74 ⟨rfl, hbw74⟩
        have hzw74 := bl_via (bl_alloc (hzw70)) hbw74
        have szw74 := hzw74.size
        have ac0 : w74.cell? ⟨w70.heap.size, 0, none⟩ = some (.int .i64 0) := cl_kept hbw74 (by first | (with_reducible assumption) | (simp [go_sem]; done))
        have af0 : w74.frozen? ⟨w70.heap.size, 0, none⟩ = false := (hbw74.frozen (p := ⟨w70.heap.size, 0, none⟩) (by first | (exact World.block_lt_of_cell? _ _ (by with_reducible assumption)) | (simp; done))).trans (by first | (with_reducible assumption) | (simp [go_sem]; done))
        have ac1 : w74.cell? ⟨w70.heap.size, 1, none⟩ = some (.int .i64 0) := cl_kept hbw74 (by first | (with_reducible assumption) | (simp [go_sem]; done))
        have af1 : w74.frozen? ⟨w70.heap.size, 1, none⟩ = false := (hbw74.frozen (p := ⟨w70.heap.size, 1, none⟩) (by first | (exact World.block_lt_of_cell? _ _ (by with_reducible assumption)) | (simp; done))).trans (by first | (with_reducible assumption) | (simp [go_sem]; done))
        refine hJ4_0.out _ _ ⟨cl_kept (hzw74) e1, cl_kept (hzw74) e2⟩ (fun _ => ?_)
        try simp only [Act.put, List.getElem_toArray, List.getElem_cons_succ, List.getElem_cons_zero, List.setIfInBounds_toArray, List.set_cons_zero, List.set_cons_succ]
        refine wpAnyH_take (i := 10) (v := .agg #[.int .i64 (v1 : Int), .int .i64 (v2 : Int)]) rfl (by kernel_rfl) (by kernel_rfl) (by kernel_rfl) (fun _ _ _ h => h) (Or.inl ⟨by rfl, ?hyy⟩) (by assumption) ?_
        case hyy => (intro w' hSw; (try dsimp only at hSw); go_simp)
        try simp only [Act.put, List.getElem_toArray, List.getElem_cons_succ, List.getElem_cons_zero, List.setIfInBounds_toArray, List.set_cons_zero, List.set_cons_succ]
        refine wpAnyH_ready (rs := [12]) (by kernel_rfl) (by simp) ?_
        refine AllReadyH.cons rfl (fun J5_0 hJ5_0 => ?_) AllReadyH.nil
        go_simp
        refine hJ5_0.out _ _ ⟨st_two (cl_kept (hzw74) e1) (by omega), st_two (cl_kept (hzw74) e2) (by omega)⟩ (fun _ => ?_)
        try simp only [Act.put, List.getElem_toArray, List.getElem_cons_succ, List.getElem_cons_zero, List.setIfInBounds_toArray, List.set_cons_zero, List.set_cons_succ]
        refine wpAnyH_done (by kernel_rfl) ?_ _
        go_wp2
        go_meet
        case rel =>
          refine ⟨w70.heap.size, rfl, ?_, ?_, bl_two (hzw74) (by omega)⟩
          · simp [go_sem, *]
          · simp [go_sem, *]
    · go_simp
      refine hJ0_1.out _ _ ⟨cl_kept (bl_alloc (bl_drew (bl_refl _))) e1, cl_kept (bl_alloc (bl_drew (bl_refl _))) e2⟩ (fun _ => ?_)
      try simp only [Act.put, List.getElem_toArray, List.getElem_cons_succ, List.getElem_cons_zero, List.setIfInBounds_toArray, List.set_cons_zero, List.set_cons_succ]
      refine wpAnyH_ready (rs := [4]) (by kernel_rfl) (by simp) ?_
      refine AllReadyH.cons rfl (fun J6_0 hJ6_0 => ?_) AllReadyH.nil
      go_simp
      refine (N1.out _).mono ?_
      rintro e w76 ⟨rfl, hbw76⟩
      have hzw76 := bl_via (bl_alloc (bl_drew (bl_refl _))) hbw76
      have szw76 := hzw76.size
      have ac0 : w76.cell? ⟨w3.heap.size, 0, none⟩ = some (.int .i64 0) := cl_kept hbw76 (by first | (with_reducible assumption) | (simp [go_sem]; done))
      have af0 : w76.frozen? ⟨w3.heap.size, 0, none⟩ = false := (hbw76.frozen (p := ⟨w3.heap.size, 0, none⟩) (by first | (exact World.block_lt_of_cell? _ _ (by with_reducible assumption)) | (simp; done))).trans (by first | (with_reducible assumption) | (simp [go_sem]; done))
      have ac1 : w76.cell? ⟨w3.heap.size, 1, none⟩ = some (.int .i64 0) := cl_kept hbw76 (by first | (with_reducible assumption) | (simp [go_sem]; done))
      have af1 : w76.frozen? ⟨w3.heap.size, 1, none⟩ = false := (hbw76.frozen (p := ⟨w3.heap.size, 1, none⟩) (by first | (exact World.block_lt_of_cell? _ _ (by with_reducible assumption)) | (simp; done))).trans (by first | (with_reducible assumption) | (simp [go_sem]; done))
      refine hJ6_0.out _ _ ⟨cl_kept (hzw76) e1, cl_kept (hzw76) e2⟩ (fun _ => ?_)
      try simp only [Act.put, List.getElem_toArray, List.getElem_cons_succ, List.getElem_cons_zero, List.setIfInBounds_toArray, List.set_cons_zero, List.set_cons_succ]
      refine wpAnyH_ready (rs := [9]) (by kernel_rfl) (by simp) ?_
      refine AllReadyH.cons rfl (fun J7_0 hJ7_0 => ?_) AllReadyH.nil
      go_simp
      refine (N2.out _).mono ?_
      rintro e w77 ⟨rfl, hbw77⟩
      have hzw77 := bl_via (hzw76) hbw77
      have szw77 := hzw77.size
      have ac0 : w77.cell? ⟨w3.heap.size, 0, none⟩ = some (.int .i64 0) := cl_kept hbw77 (by first | (with_reducible assumption) | (simp [go_sem]; done))
      have af0 : w77.frozen? ⟨w3.heap.size, 0, none⟩ = false := (hbw77.frozen (p := ⟨w3.heap.size, 0, none⟩) (by first | (exact World.block_lt_of_cell? _ _ (by with_reducible assumption)) | (simp; done))).trans (by first | (with_reducible assumption) | (simp [go_sem]; done))
      have ac1 : w77.cell? ⟨w3.heap.size, 1, none⟩ = some (.int .i64 0) := cl_kept hbw77 (by first | (with_reducible assumption) | (simp [go_sem]; done))
      have af1 : w77.frozen? ⟨w3.heap.size, 1, none⟩ = false := (hbw77.frozen (p := ⟨w3.heap.size, 1, none⟩) (by first | (exact World.block_lt_of_cell? _ _ (by with_reducible assumption)) | (simp; done))).trans (by first | (with_reducible assumption) | (simp [go_sem]; done))
      refine hJ7_0.out _ _ ⟨cl_kept (hzw77) e1, cl_kept (hzw77) e2⟩ (fun _ => ?_)
      try simp only [Act.put, List.getElem_toArray, List.getElem_cons_succ, List.getElem_cons_zero, List.setIfInBounds_toArray, List.set_cons_zero, List.set_cons_succ]
      refine wpAnyH_take (i := 10) (v := .agg #[.int .i64 (v1 : Int), .int .i64 (v2 : Int)]) rfl (by kernel_rfl) (by kernel_rfl) (by kernel_rfl) (fun _ _ _ h => h) (Or.inl ⟨by rfl, ?hyy⟩) (by assumption) ?_
      case hyy => (intro w' hSw; (try dsimp only at hSw); go_simp)
      try simp only [Act.put, List.getElem_toArray, List.getElem_cons_succ, List.getElem_cons_zero, List.setIfInBounds_toArray, List.set_cons_zero, List.set_cons_succ]
      refine wpAnyH_ready (rs := [12]) (by kernel_rfl) (by simp) ?_
      refine AllReadyH.cons rfl (fun J8_0 hJ8_0 => ?_) AllReadyH.nil
      go_simp
      refine hJ8_0.out _ _ ⟨st_two (cl_kept (hzw77) e1) (by omega), st_two (cl_kept (hzw77) e2) (by omega)⟩ (fun _ => ?_)
      try simp only [Act.put, List.getElem_toArray, List.getElem_cons_succ, List.getElem_cons_zero, List.setIfInBounds_toArray, List.set_cons_zero, List.set_cons_succ]
      refine wpAnyH_done (by kernel_rfl) ?_ _
      go_wp2
      go_meet
      case rel =>
        refine ⟨w3.heap.size, rfl, ?_, ?_, bl_two (hzw77) (by omega)⟩
        · simp [go_sem, *]
        · simp [go_sem, *]
  case rest =>
    obtain ⟨g5, rfl, p50, p51, hbf⟩ := hcut
    have fc := cl_kept hbf hc3
    have f3 := cl_kept hbf e3
    have f4 := cl_kept hbf e4
    have HF : Hid (Below w3.heap.size w3 wc) := hbf
    clear hbf hc3 e1 e2 e3 e4
    go_wp2
    refine wp_region_held_drew (S := fun w' => w'.cell? ⟨A, 3, none⟩ = some (.string (bs x3)) ∧ w'.cell? ⟨A, 4, none⟩ = some (.string (bs x4))) (by kernel_rfl) ⟨dr_old f3, dr_old f4⟩ (fun hHeld => ?_)
    try simp only [Act.put, List.getElem_toArray, List.getElem_cons_succ, List.getElem_cons_zero, List.setIfInBounds_toArray, List.set_cons_zero, List.set_cons_succ]
    refine wpAnyH_take (i := 0) (v := .pointer (some ⟨rb, 0, none⟩)) rfl (by kernel_rfl) (by kernel_rfl) (by kernel_rfl) (fun _ _ _ h => h) (Or.inl ⟨by rfl, ?hyy⟩) (by assumption) ?_
    case hyy => (intro w' hSw; (try dsimp only at hSw); go_simp)
    try simp only [Act.put, List.getElem_toArray, List.getElem_cons_zero, List.setIfInBounds_toArray, List.set_cons_zero, List.set_cons_succ]
    refine wpAnyH_take (i := 1) (v := .slice (some ⟨A, 0, none⟩) 5 5) rfl (by kernel_rfl) (by kernel_rfl) (by kernel_rfl) (fun _ _ _ h => h) (Or.inl ⟨by rfl, ?hyy⟩) (by assumption) ?_
    case hyy => (intro w' hSw; (try dsimp only at hSw); go_simp)
    try simp only [Act.put, List.getElem_toArray, List.getElem_cons_succ, List.getElem_cons_zero, List.setIfInBounds_toArray, List.set_cons_zero, List.set_cons_succ]
    refine wpAnyH_take (i := 2) (v := .pointer (some ⟨A, 3, none⟩)) rfl (by kernel_rfl) (by kernel_rfl) (by kernel_rfl) (fun _ _ _ h => h) (Or.inl ⟨by rfl, ?hyy⟩) (by assumption) ?_
    case hyy => (intro w' hSw; (try dsimp only at hSw); go_simp)
    try simp only [Act.put, List.getElem_toArray, List.getElem_cons_succ, List.getElem_cons_zero, List.setIfInBounds_toArray, List.set_cons_zero, List.set_cons_succ]
    refine wpAnyH_take (i := 3) (v := .string (bs x3)) rfl (by kernel_rfl) (by kernel_rfl) (by kernel_rfl) (fun _ _ _ h => h) (Or.inl ⟨by rfl, ?hyy⟩) (by assumption) ?_
    case hyy => (intro w' hSw; (try dsimp only at hSw); go_simp)
    try simp only [Act.put, List.getElem_toArray, List.getElem_cons_succ, List.getElem_cons_zero, List.setIfInBounds_toArray, List.set_cons_zero, List.set_cons_succ]
    refine wpAnyH_take (i := 5) (v := .pointer (some ⟨rb, 0, none⟩)) rfl (by kernel_rfl) (by kernel_rfl) (by kernel_rfl) (fun _ _ _ h => h) (Or.inl ⟨by rfl, ?hyy⟩) (by assumption) ?_
    case hyy => (intro w' hSw; (try dsimp only at hSw); go_simp)
    try simp only [Act.put, List.getElem_toArray, List.getElem_cons_succ, List.getElem_cons_zero, List.setIfInBounds_toArray, List.set_cons_zero, List.set_cons_succ]
    refine wpAnyH_take (i := 6) (v := .slice (some ⟨A, 0, none⟩) 5 5) rfl (by kernel_rfl) (by kernel_rfl) (by kernel_rfl) (fun _ _ _ h => h) (Or.inl ⟨by rfl, ?hyy⟩) (by assumption) ?_
    case hyy => (intro w' hSw; (try dsimp only at hSw); go_simp)
    try simp only [Act.put, List.getElem_toArray, List.getElem_cons_succ, List.getElem_cons_zero, List.setIfInBounds_toArray, List.set_cons_zero, List.set_cons_succ]
    refine wpAnyH_take (i := 7) (v := .pointer (some ⟨A, 4, none⟩)) rfl (by kernel_rfl) (by kernel_rfl) (by kernel_rfl) (fun _ _ _ h => h) (Or.inl ⟨by rfl, ?hyy⟩) (by assumption) ?_
    case hyy => (intro w' hSw; (try dsimp only at hSw); go_simp)
    try simp only [Act.put, List.getElem_toArray, List.getElem_cons_succ, List.getElem_cons_zero, List.setIfInBounds_toArray, List.set_cons_zero, List.set_cons_succ]
    refine wpAnyH_take (i := 8) (v := .string (bs x4)) rfl (by kernel_rfl) (by kernel_rfl) (by kernel_rfl) (fun _ _ _ h => h) (Or.inl ⟨by rfl, ?hyy⟩) (by assumption) ?_
    case hyy => (intro w' hSw; (try dsimp only at hSw); go_simp)
    try simp only [Act.put, List.getElem_toArray, List.getElem_cons_succ, List.getElem_cons_zero, List.setIfInBounds_toArray, List.set_cons_zero, List.set_cons_succ]
    refine wpAnyH_ready (rs := [4, 11]) (by kernel_rfl) (by simp) ?_
    refine AllReadyH.cons rfl (fun K0_0 hK0_0 => ?_) (AllReadyH.cons rfl (fun K0_1 hK0_1 => ?_) AllReadyH.nil)
    · go_simp
      refine (NX.out _ (cl_kept (bl_drew (bl_refl _)) fc)).mono ?_
      rintro e w6 ⟨rfl, hbb⟩
      have HA6 : Hid (Below w.heap.size w w6) := bl_via HB3.out (bl_via HF.out (bl_via (bl_drew (bl_refl _)) hbb))
      simp +zetaDelta [bodyPost, PF]
      exact HA6.out
    · go_simp
      refine hK0_1.out _ _ ⟨cl_kept (bl_alloc (bl_drew (bl_refl _))) f3, cl_kept (bl_alloc (bl_drew (bl_refl _))) f4⟩ (fun _ => ?_)
      try simp only [Act.put, List.getElem_toArray, List.getElem_cons_succ, List.getElem_cons_zero, List.setIfInBounds_toArray, List.set_cons_zero, List.set_cons_succ]
      refine wpAnyH_ready (rs := [4]) (by kernel_rfl) (by simp) ?_
      refine AllReadyH.cons rfl (fun K1_0 hK1_0 => ?_) AllReadyH.nil
      go_simp
      refine (NX.out _ (cl_kept (bl_alloc (bl_drew (bl_refl _))) fc)).mono ?_
      rintro e w6 ⟨rfl, hbb⟩
      have HA6 : Hid (Below w.heap.size w w6) := bl_via HB3.out (bl_via HF.out (bl_via (bl_alloc (bl_drew (bl_refl _))) hbb))
      simp +zetaDelta [bodyPost, PF]
      exact HA6.out
set_option maxRecDepth 100000 in
set_option maxHeartbeats 3200000 in
theorem rc_num4 (rb A : Nat) (n : Int) (x0 x1 x2 x3 x4 : List UInt8) (w : World) (hs : SR w A [x0, x1, x2, x3, x4]) (hc : w.cell? ⟨rb, 1, none⟩ = some (.int .i64 n)) (K : Int) (hkd : kdW x0 = K) (hK : K ≠ 0) (v1 v2 v3 : Nat) (h1 : num x1 = some v1) (h2 : num x2 = some v2) (h3 : num x3 = some v3) (hn : num x4 = none) :
    Calls Tryz.prog 28 #[.pointer (some ⟨rb, 0, none⟩), .slice (some ⟨A, 0, none⟩) 5 5] w fun e w' => e = PF 1 n ∧ Below w.heap.size w w' := by
  have s0 : w.cell? ⟨A, 0, none⟩ = some (.string (bs x0)) := hs 0 (by simp)
  have s1 : w.cell? ⟨A, 1, none⟩ = some (.string (bs x1)) := hs 1 (by simp)
  have s2 : w.cell? ⟨A, 2, none⟩ = some (.string (bs x2)) := hs 2 (by simp)
  have s3 : w.cell? ⟨A, 3, none⟩ = some (.string (bs x3)) := hs 3 (by simp)
  have s4 : w.cell? ⟨A, 4, none⟩ = some (.string (bs x4)) := hs 4 (by simp)
  have K46 : Hid (∀ V : World, Calls Tryz.prog 46 #[.string (bs x0)] V fun e w' => e = .returned (.int .i64 K) ∧ Below V.heap.size V w') := fun V => by
    have h9 := kindOf_code (bs x0) V
    rw [bs_data, hkd] at h9
    exact h9
  have N1 : Hid (∀ V : World, Calls Tryz.prog 24 #[.pointer (some ⟨rb, 0, none⟩), .string (bs x1)] V fun e w' => e = .returned (.int .i64 (v1 : Int)) ∧ Below V.heap.size V w') := fun V => rnumber_yes rb (bs x1) v1 V h1
  have N2 : Hid (∀ V : World, Calls Tryz.prog 24 #[.pointer (some ⟨rb, 0, none⟩), .string (bs x2)] V fun e w' => e = .returned (.int .i64 (v2 : Int)) ∧ Below V.heap.size V w') := fun V => rnumber_yes rb (bs x2) v2 V h2
  have N3 : Hid (∀ V : World, Calls Tryz.prog 24 #[.pointer (some ⟨rb, 0, none⟩), .string (bs x3)] V fun e w' => e = .returned (.int .i64 (v3 : Int)) ∧ Below V.heap.size V w') := fun V => rnumber_yes rb (bs x3) v3 V h3
  have NX : Hid (∀ V : World, V.cell? ⟨rb, 1, none⟩ = some (.int .i64 n) → Calls Tryz.prog 24 #[.pointer (some ⟨rb, 0, none⟩), .string (bs x4)] V fun e w' => e = PF 1 n ∧ Below V.heap.size V w') := fun V h => rnumber_no rb (bs x4) n V hn h
  have q0 : (K == 0) = false := by simpa using hK
  clear hs hkd hn h1 h2 h3
  go_enter Tryz.func28, Tryz.ntmps28
  go_wp2_with (first | (go_at_call 46; (with_reducible refine (K46.out _).mono ?_); rintro e w3 ⟨rfl, hbb⟩; have hc3 := cl_kept hbb hc; have e1 := cl_kept hbb s1; have e2 := cl_kept hbb s2; have e3 := cl_kept hbb s3; have e4 := cl_kept hbb s4; have HB3 : Hid (Below w.heap.size w w3) := hbb; clear hbb) | (go_at_call 23; (with_reducible refine (refuse_no _ _ _).mono ?_); rintro e w2 ⟨rfl, hw2⟩; have hw2b := hw2.symm; clear hw2; subst hw2b) | fail)
  go_cut [5] (fun s5 wx => ∃ g : Nat, s5 = .pointer (some ⟨g, 0, none⟩) ∧ wx.cell? ⟨g, 0, none⟩ = some (.int .i64 (v1 : Int)) ∧ wx.cell? ⟨g, 1, none⟩ = some (.int .i64 (v2 : Int)) ∧ Below w3.heap.size w3 wx)
  case first =>
    have zA : A < w3.heap.size := World.block_lt_of_cell? _ _ e1
    refine wp_region_held_drew (S := fun w' => w'.cell? ⟨A, 1, none⟩ = some (.string (bs x1)) ∧ w'.cell? ⟨A, 2, none⟩ = some (.string (bs x2))) (by kernel_rfl) ⟨dr_old e1, dr_old e2⟩ (fun hHeld => ?_)
    try simp only [Act.put, List.getElem_toArray, List.getElem_cons_succ, List.getElem_cons_zero, List.setIfInBounds_toArray, List.set_cons_zero, List.set_cons_succ]
    refine wpAnyH_take (i := 0) (v := .pointer (some ⟨rb, 0, none⟩)) rfl (by kernel_rfl) (by kernel_rfl) (by kernel_rfl) (fun _ _ _ h => h) (Or.inl ⟨by rfl, ?hyy⟩) (by assumption) ?_
    case hyy => (intro w' hSw; (try dsimp only at hSw); go_simp)
    try simp only [Act.put, List.getElem_toArray, List.getElem_cons_zero, List.setIfInBounds_toArray, List.set_cons_zero, List.set_cons_succ]
    refine wpAnyH_take (i := 1) (v := .slice (some ⟨A, 0, none⟩) 5 5) rfl (by kernel_rfl) (by kernel_rfl) (by kernel_rfl) (fun _ _ _ h => h) (Or.inl ⟨by rfl, ?hyy⟩) (by assumption) ?_
    case hyy => (intro w' hSw; (try dsimp only at hSw); go_simp)
    try simp only [Act.put, List.getElem_toArray, List.getElem_cons_succ, List.getElem_cons_zero, List.setIfInBounds_toArray, List.set_cons_zero, List.set_cons_succ]
    refine wpAnyH_take (i := 2) (v := .pointer (some ⟨A, 1, none⟩)) rfl (by kernel_rfl) (by kernel_rfl) (by kernel_rfl) (fun _ _ _ h => h) (Or.inl ⟨by rfl, ?hyy⟩) (by assumption) ?_
    case hyy => (intro w' hSw; (try dsimp only at hSw); go_simp)
    try simp only [Act.put, List.getElem_toArray, List.getElem_cons_succ, List.getElem_cons_zero, List.setIfInBounds_toArray, List.set_cons_zero, List.set_cons_succ]
    refine wpAnyH_take (i := 3) (v := .string (bs x1)) rfl (by kernel_rfl) (by kernel_rfl) (by kernel_rfl) (fun _ _ _ h => h) (Or.inl ⟨by rfl, ?hyy⟩) (by assumption) ?_
    case hyy => (intro w' hSw; (try dsimp only at hSw); go_simp)
    try simp only [Act.put, List.getElem_toArray, List.getElem_cons_succ, List.getElem_cons_zero, List.setIfInBounds_toArray, List.set_cons_zero, List.set_cons_succ]
    refine wpAnyH_take (i := 5) (v := .pointer (some ⟨rb, 0, none⟩)) rfl (by kernel_rfl) (by kernel_rfl) (by kernel_rfl) (fun _ _ _ h => h) (Or.inl ⟨by rfl, ?hyy⟩) (by assumption) ?_
    case hyy => (intro w' hSw; (try dsimp only at hSw); go_simp)
    try simp only [Act.put, List.getElem_toArray, List.getElem_cons_succ, List.getElem_cons_zero, List.setIfInBounds_toArray, List.set_cons_zero, List.set_cons_succ]
    refine wpAnyH_take (i := 6) (v := .slice (some ⟨A, 0, none⟩) 5 5) rfl (by kernel_rfl) (by kernel_rfl) (by kernel_rfl) (fun _ _ _ h => h) (Or.inl ⟨by rfl, ?hyy⟩) (by assumption) ?_
    case hyy => (intro w' hSw; (try dsimp only at hSw); go_simp)
    try simp only [Act.put, List.getElem_toArray, List.getElem_cons_succ, List.getElem_cons_zero, List.setIfInBounds_toArray, List.set_cons_zero, List.set_cons_succ]
    refine wpAnyH_take (i := 7) (v := .pointer (some ⟨A, 2, none⟩)) rfl (by kernel_rfl) (by kernel_rfl) (by kernel_rfl) (fun _ _ _ h => h) (Or.inl ⟨by rfl, ?hyy⟩) (by assumption) ?_
    case hyy => (intro w' hSw; (try dsimp only at hSw); go_simp)
    try simp only [Act.put, List.getElem_toArray, List.getElem_cons_succ, List.getElem_cons_zero, List.setIfInBounds_toArray, List.set_cons_zero, List.set_cons_succ]
    refine wpAnyH_take (i := 8) (v := .string (bs x2)) rfl (by kernel_rfl) (by kernel_rfl) (by kernel_rfl) (fun _ _ _ h => h) (Or.inl ⟨by rfl, ?hyy⟩) (by assumption) ?_
    case hyy => (intro w' hSw; (try dsimp only at hSw); go_simp)
    try simp only [Act.put, List.getElem_toArray, List.getElem_cons_succ, List.getElem_cons_zero, List.setIfInBounds_toArray, List.set_cons_zero, List.set_cons_succ]
    refine wpAnyH_ready (rs := [4, 11]) (by kernel_rfl) (by simp) ?_
    refine AllReadyH.cons rfl (fun J9_0 hJ9_0 => ?_) (AllReadyH.cons rfl (fun J9_1 hJ9_1 => ?_) AllReadyH.nil)
    · go_simp
      refine (N1.out _).mono ?_
      rintro e w79 ⟨rfl, hbw79⟩
      have hzw79 := bl_via (bl_drew (bl_refl _)) hbw79
      have szw79 := hzw79.size
      refine hJ9_0.out _ _ ⟨cl_kept (hzw79) e1, cl_kept (hzw79) e2⟩ (fun _ => ?_)
      try simp only [Act.put, List.getElem_toArray, List.getElem_cons_succ, List.getElem_cons_zero, List.setIfInBounds_toArray, List.set_cons_zero, List.set_cons_succ]
      refine wpAnyH_ready (rs := [9, 11]) (by kernel_rfl) (by simp) ?_
      refine AllReadyH.cons rfl (fun J10_0 hJ10_0 => ?_) (AllReadyH.cons rfl (fun J10_1 hJ10_1 => ?_) AllReadyH.nil)
      · go_simp
        refine (N2.out _).mono ?_
        rintro e w710 ⟨rfl, hbw710⟩
        have hzw710 := bl_via (hzw79) hbw710
        have szw710 := hzw710.size
        refine hJ10_0.out _ _ ⟨cl_kept (hzw710) e1, cl_kept (hzw710) e2⟩ (fun _ => ?_)
        try simp only [Act.put, List.getElem_toArray, List.getElem_cons_succ, List.getElem_cons_zero, List.setIfInBounds_toArray, List.set_cons_zero, List.set_cons_succ]
        refine wpAnyH_take (i := 10) (v := .agg #[.int .i64 (v1 : Int), .int .i64 (v2 : Int)]) rfl (by kernel_rfl) (by kernel_rfl) (by kernel_rfl) (fun _ _ _ h => h) (Or.inl ⟨by rfl, ?hyy⟩) (by assumption) ?_
        case hyy => (intro w' hSw; (try dsimp only at hSw); go_simp)
        try simp only [Act.put, List.getElem_toArray, List.getElem_cons_succ, List.getElem_cons_zero, List.setIfInBounds_toArray, List.set_cons_zero, List.set_cons_succ]
        refine wpAnyH_ready (rs := [11]) (by kernel_rfl) (by simp) ?_
        refine AllReadyH.cons rfl (fun J11_0 hJ11_0 => ?_) AllReadyH.nil
        go_simp
        refine hJ11_0.out _ _ ⟨cl_kept (bl_alloc (hzw710)) e1, cl_kept (bl_alloc (hzw710)) e2⟩ (fun _ => ?_)
        try simp only [Act.put, List.getElem_toArray, List.getElem_cons_succ, List.getElem_cons_zero, List.setIfInBounds_toArray, List.set_cons_zero, List.set_cons_succ]
        refine wpAnyH_ready (rs := [12]) (by kernel_rfl) (by simp) ?_
        refine AllReadyH.cons rfl (fun J12_0 hJ12_0 => ?_) AllReadyH.nil
        go_simp
        refine hJ12_0.out _ _ ⟨cl_kept (bl_alloc (hzw710)) e1, cl_kept (bl_alloc (hzw710)) e2⟩ (fun _ => ?_)
        try simp only [Act.put, List.getElem_toArray, List.getElem_cons_succ, List.getElem_cons_zero, List.setIfInBounds_toArray, List.set_cons_zero, List.set_cons_succ]
        refine wpAnyH_done (by kernel_rfl) ?_ _
        go_wp2
        go_meet
        case rel =>
          refine ⟨w710.heap.size, rfl, ?_, ?_, bl_alloc (hzw710)⟩
          · simp [go_sem, *]
          · simp [go_sem, *]
      · go_simp
        refine hJ10_1.out _ _ ⟨cl_kept (bl_alloc (hzw79)) e1, cl_kept (bl_alloc (hzw79)) e2⟩ (fun _ => ?_)
        try simp only [Act.put, List.getElem_toArray, List.getElem_cons_succ, List.getElem_cons_zero, List.setIfInBounds_toArray, List.set_cons_zero, List.set_cons_succ]
        refine wpAnyH_ready (rs := [9]) (by kernel_rfl) (by simp) ?_
        refine AllReadyH.cons rfl (fun J13_0 hJ13_0 => ?_) AllReadyH.nil
        go_simp
        refine (N2.out _).mono ?_
        rintro e w713 ⟨rfl, hbw713⟩
        have hzw713 := bl_via (bl_alloc (hzw79)) hbw713
        have szw713 := hzw713.size
        have ac0 : w713.cell? ⟨w79.heap.size, 0, none⟩ = some (.int .i64 0) := cl_kept hbw713 (by first | (with_reducible assumption) | (simp [go_sem]; done))
        have af0 : w713.frozen? ⟨w79.heap.size, 0, none⟩ = false := (hbw713.frozen (p := ⟨w79.heap.size, 0, none⟩) (by first | (exact World.block_lt_of_cell? _ _ (by with_reducible assumption)) | (simp; done))).trans (by first | (with_reducible assumption) | (simp [go_sem]; done))
        have ac1 : w713.cell? ⟨w79.heap.size, 1, none⟩ = some (.int .i64 0) := cl_kept hbw713 (by first | (with_reducible assumption) | (simp [go_sem]; done))
        have af1 : w713.frozen? ⟨w79.heap.size, 1, none⟩ = false := (hbw713.frozen (p := ⟨w79.heap.size, 1, none⟩) (by first | (exact World.block_lt_of_cell? _ _ (by with_reducible assumption)) | (simp; done))).trans (by first | (with_reducible assumption) | (simp [go_sem]; done))
        refine hJ13_0.out _ _ ⟨cl_kept (hzw713) e1, cl_kept (hzw713) e2⟩ (fun _ => ?_)
        try simp only [Act.put, List.getElem_toArray, List.getElem_cons_succ, List.getElem_cons_zero, List.setIfInBounds_toArray, List.set_cons_zero, List.set_cons_succ]
        refine wpAnyH_take (i := 10) (v := .agg #[.int .i64 (v1 : Int), .int .i64 (v2 : Int)]) rfl (by kernel_rfl) (by kernel_rfl) (by kernel_rfl) (fun _ _ _ h => h) (Or.inl ⟨by rfl, ?hyy⟩) (by assumption) ?_
        case hyy => (intro w' hSw; (try dsimp only at hSw); go_simp)
        try simp only [Act.put, List.getElem_toArray, List.getElem_cons_succ, List.getElem_cons_zero, List.setIfInBounds_toArray, List.set_cons_zero, List.set_cons_succ]
        refine wpAnyH_ready (rs := [12]) (by kernel_rfl) (by simp) ?_
        refine AllReadyH.cons rfl (fun J14_0 hJ14_0 => ?_) AllReadyH.nil
        go_simp
        refine hJ14_0.out _ _ ⟨st_two (cl_kept (hzw713) e1) (by omega), st_two (cl_kept (hzw713) e2) (by omega)⟩ (fun _ => ?_)
        try simp only [Act.put, List.getElem_toArray, List.getElem_cons_succ, List.getElem_cons_zero, List.setIfInBounds_toArray, List.set_cons_zero, List.set_cons_succ]
        refine wpAnyH_done (by kernel_rfl) ?_ _
        go_wp2
        go_meet
        case rel =>
          refine ⟨w79.heap.size, rfl, ?_, ?_, bl_two (hzw713) (by omega)⟩
          · simp [go_sem, *]
          · simp [go_sem, *]
    · go_simp
      refine hJ9_1.out _ _ ⟨cl_kept (bl_alloc (bl_drew (bl_refl _))) e1, cl_kept (bl_alloc (bl_drew (bl_refl _))) e2⟩ (fun _ => ?_)
      try simp only [Act.put, List.getElem_toArray, List.getElem_cons_succ, List.getElem_cons_zero, List.setIfInBounds_toArray, List.set_cons_zero, List.set_cons_succ]
      refine wpAnyH_ready (rs := [4]) (by kernel_rfl) (by simp) ?_
      refine AllReadyH.cons rfl (fun J15_0 hJ15_0 => ?_) AllReadyH.nil
      go_simp
      refine (N1.out _).mono ?_
      rintro e w715 ⟨rfl, hbw715⟩
      have hzw715 := bl_via (bl_alloc (bl_drew (bl_refl _))) hbw715
      have szw715 := hzw715.size
      have ac0 : w715.cell? ⟨w3.heap.size, 0, none⟩ = some (.int .i64 0) := cl_kept hbw715 (by first | (with_reducible assumption) | (simp [go_sem]; done))
      have af0 : w715.frozen? ⟨w3.heap.size, 0, none⟩ = false := (hbw715.frozen (p := ⟨w3.heap.size, 0, none⟩) (by first | (exact World.block_lt_of_cell? _ _ (by with_reducible assumption)) | (simp; done))).trans (by first | (with_reducible assumption) | (simp [go_sem]; done))
      have ac1 : w715.cell? ⟨w3.heap.size, 1, none⟩ = some (.int .i64 0) := cl_kept hbw715 (by first | (with_reducible assumption) | (simp [go_sem]; done))
      have af1 : w715.frozen? ⟨w3.heap.size, 1, none⟩ = false := (hbw715.frozen (p := ⟨w3.heap.size, 1, none⟩) (by first | (exact World.block_lt_of_cell? _ _ (by with_reducible assumption)) | (simp; done))).trans (by first | (with_reducible assumption) | (simp [go_sem]; done))
      refine hJ15_0.out _ _ ⟨cl_kept (hzw715) e1, cl_kept (hzw715) e2⟩ (fun _ => ?_)
      try simp only [Act.put, List.getElem_toArray, List.getElem_cons_succ, List.getElem_cons_zero, List.setIfInBounds_toArray, List.set_cons_zero, List.set_cons_succ]
      refine wpAnyH_ready (rs := [9]) (by kernel_rfl) (by simp) ?_
      refine AllReadyH.cons rfl (fun J16_0 hJ16_0 => ?_) AllReadyH.nil
      go_simp
      refine (N2.out _).mono ?_
      rintro e w716 ⟨rfl, hbw716⟩
      have hzw716 := bl_via (hzw715) hbw716
      have szw716 := hzw716.size
      have ac0 : w716.cell? ⟨w3.heap.size, 0, none⟩ = some (.int .i64 0) := cl_kept hbw716 (by first | (with_reducible assumption) | (simp [go_sem]; done))
      have af0 : w716.frozen? ⟨w3.heap.size, 0, none⟩ = false := (hbw716.frozen (p := ⟨w3.heap.size, 0, none⟩) (by first | (exact World.block_lt_of_cell? _ _ (by with_reducible assumption)) | (simp; done))).trans (by first | (with_reducible assumption) | (simp [go_sem]; done))
      have ac1 : w716.cell? ⟨w3.heap.size, 1, none⟩ = some (.int .i64 0) := cl_kept hbw716 (by first | (with_reducible assumption) | (simp [go_sem]; done))
      have af1 : w716.frozen? ⟨w3.heap.size, 1, none⟩ = false := (hbw716.frozen (p := ⟨w3.heap.size, 1, none⟩) (by first | (exact World.block_lt_of_cell? _ _ (by with_reducible assumption)) | (simp; done))).trans (by first | (with_reducible assumption) | (simp [go_sem]; done))
      refine hJ16_0.out _ _ ⟨cl_kept (hzw716) e1, cl_kept (hzw716) e2⟩ (fun _ => ?_)
      try simp only [Act.put, List.getElem_toArray, List.getElem_cons_succ, List.getElem_cons_zero, List.setIfInBounds_toArray, List.set_cons_zero, List.set_cons_succ]
      refine wpAnyH_take (i := 10) (v := .agg #[.int .i64 (v1 : Int), .int .i64 (v2 : Int)]) rfl (by kernel_rfl) (by kernel_rfl) (by kernel_rfl) (fun _ _ _ h => h) (Or.inl ⟨by rfl, ?hyy⟩) (by assumption) ?_
      case hyy => (intro w' hSw; (try dsimp only at hSw); go_simp)
      try simp only [Act.put, List.getElem_toArray, List.getElem_cons_succ, List.getElem_cons_zero, List.setIfInBounds_toArray, List.set_cons_zero, List.set_cons_succ]
      refine wpAnyH_ready (rs := [12]) (by kernel_rfl) (by simp) ?_
      refine AllReadyH.cons rfl (fun J17_0 hJ17_0 => ?_) AllReadyH.nil
      go_simp
      refine hJ17_0.out _ _ ⟨st_two (cl_kept (hzw716) e1) (by omega), st_two (cl_kept (hzw716) e2) (by omega)⟩ (fun _ => ?_)
      try simp only [Act.put, List.getElem_toArray, List.getElem_cons_succ, List.getElem_cons_zero, List.setIfInBounds_toArray, List.set_cons_zero, List.set_cons_succ]
      refine wpAnyH_done (by kernel_rfl) ?_ _
      go_wp2
      go_meet
      case rel =>
        refine ⟨w3.heap.size, rfl, ?_, ?_, bl_two (hzw716) (by omega)⟩
        · simp [go_sem, *]
        · simp [go_sem, *]
  case rest =>
    obtain ⟨g5, rfl, p50, p51, hbf⟩ := hcut
    have fc := cl_kept hbf hc3
    have f3 := cl_kept hbf e3
    have f4 := cl_kept hbf e4
    have HF : Hid (Below w3.heap.size w3 wc) := hbf
    clear hbf hc3 e1 e2 e3 e4
    go_wp2
    refine wp_region_held_drew (S := fun w' => w'.cell? ⟨A, 3, none⟩ = some (.string (bs x3)) ∧ w'.cell? ⟨A, 4, none⟩ = some (.string (bs x4))) (by kernel_rfl) ⟨dr_old f3, dr_old f4⟩ (fun hHeld => ?_)
    try simp only [Act.put, List.getElem_toArray, List.getElem_cons_succ, List.getElem_cons_zero, List.setIfInBounds_toArray, List.set_cons_zero, List.set_cons_succ]
    refine wpAnyH_take (i := 0) (v := .pointer (some ⟨rb, 0, none⟩)) rfl (by kernel_rfl) (by kernel_rfl) (by kernel_rfl) (fun _ _ _ h => h) (Or.inl ⟨by rfl, ?hyy⟩) (by assumption) ?_
    case hyy => (intro w' hSw; (try dsimp only at hSw); go_simp)
    try simp only [Act.put, List.getElem_toArray, List.getElem_cons_zero, List.setIfInBounds_toArray, List.set_cons_zero, List.set_cons_succ]
    refine wpAnyH_take (i := 1) (v := .slice (some ⟨A, 0, none⟩) 5 5) rfl (by kernel_rfl) (by kernel_rfl) (by kernel_rfl) (fun _ _ _ h => h) (Or.inl ⟨by rfl, ?hyy⟩) (by assumption) ?_
    case hyy => (intro w' hSw; (try dsimp only at hSw); go_simp)
    try simp only [Act.put, List.getElem_toArray, List.getElem_cons_succ, List.getElem_cons_zero, List.setIfInBounds_toArray, List.set_cons_zero, List.set_cons_succ]
    refine wpAnyH_take (i := 2) (v := .pointer (some ⟨A, 3, none⟩)) rfl (by kernel_rfl) (by kernel_rfl) (by kernel_rfl) (fun _ _ _ h => h) (Or.inl ⟨by rfl, ?hyy⟩) (by assumption) ?_
    case hyy => (intro w' hSw; (try dsimp only at hSw); go_simp)
    try simp only [Act.put, List.getElem_toArray, List.getElem_cons_succ, List.getElem_cons_zero, List.setIfInBounds_toArray, List.set_cons_zero, List.set_cons_succ]
    refine wpAnyH_take (i := 3) (v := .string (bs x3)) rfl (by kernel_rfl) (by kernel_rfl) (by kernel_rfl) (fun _ _ _ h => h) (Or.inl ⟨by rfl, ?hyy⟩) (by assumption) ?_
    case hyy => (intro w' hSw; (try dsimp only at hSw); go_simp)
    try simp only [Act.put, List.getElem_toArray, List.getElem_cons_succ, List.getElem_cons_zero, List.setIfInBounds_toArray, List.set_cons_zero, List.set_cons_succ]
    refine wpAnyH_take (i := 5) (v := .pointer (some ⟨rb, 0, none⟩)) rfl (by kernel_rfl) (by kernel_rfl) (by kernel_rfl) (fun _ _ _ h => h) (Or.inl ⟨by rfl, ?hyy⟩) (by assumption) ?_
    case hyy => (intro w' hSw; (try dsimp only at hSw); go_simp)
    try simp only [Act.put, List.getElem_toArray, List.getElem_cons_succ, List.getElem_cons_zero, List.setIfInBounds_toArray, List.set_cons_zero, List.set_cons_succ]
    refine wpAnyH_take (i := 6) (v := .slice (some ⟨A, 0, none⟩) 5 5) rfl (by kernel_rfl) (by kernel_rfl) (by kernel_rfl) (fun _ _ _ h => h) (Or.inl ⟨by rfl, ?hyy⟩) (by assumption) ?_
    case hyy => (intro w' hSw; (try dsimp only at hSw); go_simp)
    try simp only [Act.put, List.getElem_toArray, List.getElem_cons_succ, List.getElem_cons_zero, List.setIfInBounds_toArray, List.set_cons_zero, List.set_cons_succ]
    refine wpAnyH_take (i := 7) (v := .pointer (some ⟨A, 4, none⟩)) rfl (by kernel_rfl) (by kernel_rfl) (by kernel_rfl) (fun _ _ _ h => h) (Or.inl ⟨by rfl, ?hyy⟩) (by assumption) ?_
    case hyy => (intro w' hSw; (try dsimp only at hSw); go_simp)
    try simp only [Act.put, List.getElem_toArray, List.getElem_cons_succ, List.getElem_cons_zero, List.setIfInBounds_toArray, List.set_cons_zero, List.set_cons_succ]
    refine wpAnyH_take (i := 8) (v := .string (bs x4)) rfl (by kernel_rfl) (by kernel_rfl) (by kernel_rfl) (fun _ _ _ h => h) (Or.inl ⟨by rfl, ?hyy⟩) (by assumption) ?_
    case hyy => (intro w' hSw; (try dsimp only at hSw); go_simp)
    try simp only [Act.put, List.getElem_toArray, List.getElem_cons_succ, List.getElem_cons_zero, List.setIfInBounds_toArray, List.set_cons_zero, List.set_cons_succ]
    refine wpAnyH_ready (rs := [4, 11]) (by kernel_rfl) (by simp) ?_
    refine AllReadyH.cons rfl (fun K2_0 hK2_0 => ?_) (AllReadyH.cons rfl (fun K2_1 hK2_1 => ?_) AllReadyH.nil)
    · go_simp
      refine (N3.out _).mono ?_
      rintro e w52 ⟨rfl, hb52⟩
      have hz2 := bl_via (bl_drew (bl_refl _)) hb52
      refine hK2_0.out _ _ ⟨cl_kept hz2 f3, cl_kept hz2 f4⟩ (fun _ => ?_)
      try simp only [Act.put, List.getElem_toArray, List.getElem_cons_succ, List.getElem_cons_zero, List.setIfInBounds_toArray, List.set_cons_zero, List.set_cons_succ]
      refine wpAnyH_ready (rs := [9, 11]) (by kernel_rfl) (by simp) ?_
      refine AllReadyH.cons rfl (fun K3_0 hK3_0 => ?_) (AllReadyH.cons rfl (fun K3_1 hK3_1 => ?_) AllReadyH.nil)
      · go_simp
        refine (NX.out _ (cl_kept (hz2) fc)).mono ?_
        rintro e w6 ⟨rfl, hbb⟩
        have HA6 : Hid (Below w.heap.size w w6) := bl_via HB3.out (bl_via HF.out (bl_via (hz2) hbb))
        simp +zetaDelta [bodyPost, PF]
        exact HA6.out
      · go_simp
        refine hK3_1.out _ _ ⟨cl_kept (bl_alloc (hz2)) f3, cl_kept (bl_alloc (hz2)) f4⟩ (fun _ => ?_)
        try simp only [Act.put, List.getElem_toArray, List.getElem_cons_succ, List.getElem_cons_zero, List.setIfInBounds_toArray, List.set_cons_zero, List.set_cons_succ]
        refine wpAnyH_ready (rs := [9]) (by kernel_rfl) (by simp) ?_
        refine AllReadyH.cons rfl (fun K4_0 hK4_0 => ?_) AllReadyH.nil
        go_simp
        refine (NX.out _ (cl_kept (bl_alloc (hz2)) fc)).mono ?_
        rintro e w6 ⟨rfl, hbb⟩
        have HA6 : Hid (Below w.heap.size w w6) := bl_via HB3.out (bl_via HF.out (bl_via (bl_alloc (hz2)) hbb))
        simp +zetaDelta [bodyPost, PF]
        exact HA6.out
    · go_simp
      refine hK2_1.out _ _ ⟨cl_kept (bl_alloc (bl_drew (bl_refl _))) f3, cl_kept (bl_alloc (bl_drew (bl_refl _))) f4⟩ (fun _ => ?_)
      try simp only [Act.put, List.getElem_toArray, List.getElem_cons_succ, List.getElem_cons_zero, List.setIfInBounds_toArray, List.set_cons_zero, List.set_cons_succ]
      refine wpAnyH_ready (rs := [4]) (by kernel_rfl) (by simp) ?_
      refine AllReadyH.cons rfl (fun K5_0 hK5_0 => ?_) AllReadyH.nil
      go_simp
      refine (N3.out _).mono ?_
      rintro e w55 ⟨rfl, hb55⟩
      have hz5 := bl_via (bl_alloc (bl_drew (bl_refl _))) hb55
      refine hK5_0.out _ _ ⟨cl_kept hz5 f3, cl_kept hz5 f4⟩ (fun _ => ?_)
      try simp only [Act.put, List.getElem_toArray, List.getElem_cons_succ, List.getElem_cons_zero, List.setIfInBounds_toArray, List.set_cons_zero, List.set_cons_succ]
      refine wpAnyH_ready (rs := [9]) (by kernel_rfl) (by simp) ?_
      refine AllReadyH.cons rfl (fun K6_0 hK6_0 => ?_) AllReadyH.nil
      go_simp
      refine (NX.out _ (cl_kept (hz5) fc)).mono ?_
      rintro e w6 ⟨rfl, hbb⟩
      have HA6 : Hid (Below w.heap.size w w6) := bl_via HB3.out (bl_via HF.out (bl_via (hz5) hbb))
      simp +zetaDelta [bodyPost, PF]
      exact HA6.out
end Go.Proofs.YtehmoacggikfmaaGreatDoor
