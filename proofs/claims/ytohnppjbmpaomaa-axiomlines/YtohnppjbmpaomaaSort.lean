/- slices.SortFunc of one straight, or two. -/
import Derived.Test.YtohnppjbmpaomaaCmps
import Derived.Test.YtohnppjbmpaomaaBlen
namespace Go.Proofs.Ytohnppjbmpaomaa
open Go.RowKit

/-- Two straights in memory, free to be written. -/
def RowS (w : World) (g : Nat) (a b c A B C : Int) : Prop := (w.cell? ⟨g, 0, none⟩ = some (.int .i64 a) ∧ w.cell? ⟨g, 1, none⟩ = some (.int .i64 b) ∧ w.cell? ⟨g, 2, none⟩ = some (.int .i64 c) ∧ w.cell? ⟨g, 3, none⟩ = some (.int .i64 A) ∧ w.cell? ⟨g, 4, none⟩ = some (.int .i64 B) ∧ w.cell? ⟨g, 5, none⟩ = some (.int .i64 C)) ∧ ∀ q, w.frozen? ⟨g, q, none⟩ = false
theorem RowS.kept {w w' : World} {g : Nat} {a b c A B C : Int} (h : RowS w g a b c A B C) (hb : Below w.heap.size w w') : RowS w' g a b c A B C := by
  obtain ⟨⟨c0, c1, c2, c3, c4, c5⟩, hf⟩ := h
  exact ⟨⟨cl_kept hb c0, cl_kept hb c1, cl_kept hb c2, cl_kept hb c3, cl_kept hb c4, cl_kept hb c5⟩, fun q => (hb.frozen (p := ⟨g, q, none⟩) (by have := World.block_lt_of_cell? _ _ c0; exact this)).trans (hf q)⟩
theorem RowS.swapped {w : World} {g : Nat} {a b c A B C : Int} (h : RowS w g a b c A B C) : RowS ((((((w.setCell ⟨g, 3, none⟩ (.int .i64 a)).setCell ⟨g, 4, none⟩ (.int .i64 b)).setCell ⟨g, 5, none⟩ (.int .i64 c)).setCell ⟨g, 0, none⟩ (.int .i64 A)).setCell ⟨g, 1, none⟩ (.int .i64 B)).setCell ⟨g, 2, none⟩ (.int .i64 C)) g A B C a b c := by
  obtain ⟨⟨c0, c1, c2, c3, c4, c5⟩, hf⟩ := h
  refine ⟨⟨?_, ?_, ?_, ?_, ?_, ?_⟩, fun q => by simp only [World.frozen?_setCell]; exact hf q⟩
  · rw [World.cell?_setCell_other _ _ _ _ (by simp), World.cell?_setCell_other _ _ _ _ (by simp)]
    refine World.cell?_setCell_same (u := .int .i64 a) _ _ _ ?_
    rw [World.cell?_setCell_other _ _ _ _ (by simp), World.cell?_setCell_other _ _ _ _ (by simp), World.cell?_setCell_other _ _ _ _ (by simp)]
    exact c0
  · rw [World.cell?_setCell_other _ _ _ _ (by simp)]
    refine World.cell?_setCell_same (u := .int .i64 b) _ _ _ ?_
    rw [World.cell?_setCell_other _ _ _ _ (by simp), World.cell?_setCell_other _ _ _ _ (by simp), World.cell?_setCell_other _ _ _ _ (by simp), World.cell?_setCell_other _ _ _ _ (by simp)]
    exact c1
  · refine World.cell?_setCell_same (u := .int .i64 c) _ _ _ ?_
    rw [World.cell?_setCell_other _ _ _ _ (by simp), World.cell?_setCell_other _ _ _ _ (by simp), World.cell?_setCell_other _ _ _ _ (by simp), World.cell?_setCell_other _ _ _ _ (by simp), World.cell?_setCell_other _ _ _ _ (by simp)]
    exact c2
  · rw [World.cell?_setCell_other _ _ _ _ (by simp), World.cell?_setCell_other _ _ _ _ (by simp), World.cell?_setCell_other _ _ _ _ (by simp), World.cell?_setCell_other _ _ _ _ (by simp), World.cell?_setCell_other _ _ _ _ (by simp)]
    refine World.cell?_setCell_same (u := .int .i64 A) _ _ _ ?_
    exact c3
  · rw [World.cell?_setCell_other _ _ _ _ (by simp), World.cell?_setCell_other _ _ _ _ (by simp), World.cell?_setCell_other _ _ _ _ (by simp), World.cell?_setCell_other _ _ _ _ (by simp)]
    refine World.cell?_setCell_same (u := .int .i64 B) _ _ _ ?_
    rw [World.cell?_setCell_other _ _ _ _ (by simp)]
    exact c4
  · rw [World.cell?_setCell_other _ _ _ _ (by simp), World.cell?_setCell_other _ _ _ _ (by simp), World.cell?_setCell_other _ _ _ _ (by simp)]
    refine World.cell?_setCell_same (u := .int .i64 C) _ _ _ ?_
    rw [World.cell?_setCell_other _ _ _ _ (by simp), World.cell?_setCell_other _ _ _ _ (by simp)]
    exact c5
set_option maxRecDepth 100000 in
theorem insert_one (g cap : Nat) (w : World) : Calls Try.prog 53 #[.slice (some ⟨g, 0, none⟩) 1 cap, .int .i64 0, .int .i64 1, .func (.func 32) #[] #[]] w fun e w' => e = .returned (.tuple #[]) ∧ Below w.heap.size w w' := by
  go_enter Try.func53, Try.ntmps53
  go_wp2
  go_loopg [8, 9] 0 (fun gk s8 s9 wx => gk = 0 ∧ s8 = .int .i64 1 ∧ wx = w)
  case atStart => exact ⟨rfl, rfl, rfl⟩
  case round =>
    obtain ⟨rfl, rfl, rfl⟩ := hrel
    go_wp2
    refine bodyPost_end (v := .tuple #[]) (results_none (by kernel_rfl) _ _ _) rfl ⟨rfl, ?_⟩
    exact bl_refl _
set_option maxRecDepth 100000 in
set_option maxHeartbeats 1600000 in
theorem insert_keep (g cap : Nat) (a b c A B C : Int) (B0 w : World) (hr : RowS w g a b c A B C) (hB0 : Below B0.heap.size B0 w) (hg : B0.heap.size ≤ g) (hk : decide (cmpS A B C a b c < 0) = false) :
    Calls Try.prog 53 #[.slice (some ⟨g, 0, none⟩) 2 cap, .int .i64 0, .int .i64 2, .func (.func 32) #[] #[]] w fun e w' => e = .returned (.tuple #[]) ∧ RowS w' g a b c A B C ∧ Below B0.heap.size B0 w' := by
  have HR : Hid (RowS w g a b c A B C ∧ Below B0.heap.size B0 w ∧ B0.heap.size ≤ g) := ⟨hr, hB0, hg⟩
  obtain ⟨⟨c0, c1, c2, c3, c4, c5⟩, hf⟩ := hr
  have zg := World.block_lt_of_cell? _ _ c0
  have CC : Hid (∀ W, Calls Try.prog 32 #[.agg #[.int .i64 A, .int .i64 B, .int .i64 C], .agg #[.int .i64 a, .int .i64 b, .int .i64 c]] W fun e w' => e = .returned (.int .i64 (cmpS A B C a b c)) ∧ Below W.heap.size W w') := fun W => compare32 A B C a b c W
  generalize cmpS A B C a b c = V at *
  have hk2 : ¬ V < 0 := of_decide_eq_false hk
  clear hf hB0 hg
  go_enter Try.func53, Try.ntmps53
  go_wp2
  go_loopg [8, 9] 1 (fun gk s8 s9 wx => (gk = 1 ∧ s8 = .int .i64 1 ∧ wx = w) ∨ (gk = 0 ∧ s8 = .int .i64 2 ∧ RowS wx g a b c A B C ∧ Below B0.heap.size B0 wx))
  case atStart => exact Or.inl ⟨rfl, rfl, rfl⟩
  case round =>
    rcases hrel with ⟨rfl, rfl, rfl⟩ | ⟨rfl, rfl, hB⟩
    · go_wp2
      go_loopg [9] 0 (fun gk s9 wx => gk = 0 ∧ s9 = .int .i64 1 ∧ wx = wr)
      case atStart => exact ⟨rfl, rfl, rfl⟩
      case round =>
        obtain ⟨rfl, rfl, rfl⟩ := hrel
        have kc := Kin.cells wr
        have kn : Nonempty (Kin wr) := ⟨⟨wr, bl_refl _⟩⟩
        go_wp2
        refine wp_region_kin (by kernel_rfl) (by kernel_rfl) ?_
        repeat (go_big_quiet_step ((go_at_call 32; with_reducible exact kin_of (CC.out _))))
        refine wpQuiet_nil ?_
        intro wq hw'
        obtain ⟨nq, hw''⟩ := hw'
        have hq : Below wr.heap.size wr wq := hw'' ▸ nq.h
        clear hw'' nq kc kn
        go_wp2
        go_roundg 0
        case measure => omega
        case rel => exact Or.inr ⟨rfl, by go_num, HR.out.1.kept hq, bl_via HR.out.2.1 hq⟩
    · have HX : Hid (RowS wr g a b c A B C ∧ Below B0.heap.size B0 wr) := hB
      clear hB
      go_wp2
      refine bodyPost_end (v := .tuple #[]) (results_none (by kernel_rfl) _ _ _) rfl ⟨rfl, ?_⟩
      exact HX.out
set_option maxRecDepth 100000 in
set_option maxHeartbeats 1600000 in
theorem insert_swap (g cap : Nat) (a b c A B C : Int) (B0 w : World) (hr : RowS w g a b c A B C) (hB0 : Below B0.heap.size B0 w) (hg : B0.heap.size ≤ g) (hk : decide (cmpS A B C a b c < 0) = true) :
    Calls Try.prog 53 #[.slice (some ⟨g, 0, none⟩) 2 cap, .int .i64 0, .int .i64 2, .func (.func 32) #[] #[]] w fun e w' => e = .returned (.tuple #[]) ∧ RowS w' g A B C a b c ∧ Below B0.heap.size B0 w' := by
  have HR : Hid (RowS w g a b c A B C ∧ Below B0.heap.size B0 w ∧ B0.heap.size ≤ g) := ⟨hr, hB0, hg⟩
  obtain ⟨⟨c0, c1, c2, c3, c4, c5⟩, hf⟩ := hr
  have zg := World.block_lt_of_cell? _ _ c0
  have CC : Hid (∀ W, Calls Try.prog 32 #[.agg #[.int .i64 A, .int .i64 B, .int .i64 C], .agg #[.int .i64 a, .int .i64 b, .int .i64 c]] W fun e w' => e = .returned (.int .i64 (cmpS A B C a b c)) ∧ Below W.heap.size W w') := fun W => compare32 A B C a b c W
  generalize cmpS A B C a b c = V at *
  have hk2 : V < 0 := of_decide_eq_true hk
  clear hf hB0 hg
  go_enter Try.func53, Try.ntmps53
  go_wp2
  go_loopg [8, 9] 1 (fun gk s8 s9 wx => (gk = 1 ∧ s8 = .int .i64 1 ∧ wx = w) ∨ (gk = 0 ∧ s8 = .int .i64 2 ∧ RowS wx g A B C a b c ∧ Below B0.heap.size B0 wx))
  case atStart => exact Or.inl ⟨rfl, rfl, rfl⟩
  case round =>
    rcases hrel with ⟨rfl, rfl, rfl⟩ | ⟨rfl, rfl, hB⟩
    · go_wp2
      go_loopg [9] 1 (fun gk s9 wx => (gk = 1 ∧ s9 = .int .i64 1 ∧ wx = wr) ∨ (gk = 0 ∧ s9 = .int .i64 0 ∧ RowS wx g A B C a b c ∧ Below B0.heap.size B0 wx))
      case atStart => exact Or.inl ⟨rfl, rfl, rfl⟩
      case round =>
        rcases hrel with ⟨rfl, rfl, rfl⟩ | ⟨rfl, rfl, hB⟩
        · have kc := Kin.cells wr
          have kn : Nonempty (Kin wr) := ⟨⟨wr, bl_refl _⟩⟩
          go_wp2
          refine wp_region_kin (by kernel_rfl) (by kernel_rfl) ?_
          repeat (go_big_quiet_step ((go_at_call 32; with_reducible exact kin_of (CC.out _))))
          refine wpQuiet_nil ?_
          intro wq hw'
          obtain ⟨nq, hw''⟩ := hw'
          have hq : Below wr.heap.size wr wq := hw'' ▸ nq.h
          clear hw'' nq kc kn
          have hx := HR.out.1.kept hq
          have HX : Hid (RowS wq g a b c A B C ∧ Below B0.heap.size B0 wq ∧ B0.heap.size ≤ g) := ⟨hx, bl_via HR.out.2.1 hq, HR.out.2.2⟩
          obtain ⟨⟨d0, d1, d2, d3, d4, d5⟩, hf⟩ := hx
          have f0 := hf 0
          have f1 := hf 1
          have f2 := hf 2
          have f3 := hf 3
          have f4 := hf 4
          have f5 := hf 5
          have zq := World.block_lt_of_cell? _ _ d0
          clear hf hq c0 c1 c2 c3 c4 c5 zg
          go_wp2
          go_region
          go_wp2
          go_roundg 0
          case measure => omega
          case rel => exact Or.inr ⟨rfl, by go_num, RowS.kept (HX.out.1.swapped) (bl_drew (bl_refl _)), bl_drew (bl_set (bl_set (bl_set (bl_set (bl_set (bl_set HX.out.2.1 HX.out.2.2) HX.out.2.2) HX.out.2.2) HX.out.2.2) HX.out.2.2) HX.out.2.2)⟩
        · have HX : Hid (RowS wr g A B C a b c ∧ Below B0.heap.size B0 wr) := hB
          clear hB
          have kc := Kin.cells wr
          have kn : Nonempty (Kin wr) := ⟨⟨wr, bl_refl _⟩⟩
          go_wp2
          refine wp_region_kin (by kernel_rfl) (by kernel_rfl) ?_
          repeat (go_big_quiet_step (fail))
          refine wpQuiet_nil ?_
          intro wq hw'
          obtain ⟨nq, hw''⟩ := hw'
          have hq : Below wr.heap.size wr wq := hw'' ▸ nq.h
          clear hw'' nq kc kn
          go_wp2
          go_roundg 0
          case measure => omega
          case rel => exact Or.inr ⟨rfl, by go_num, HX.out.1.kept hq, bl_via HX.out.2 hq⟩
    · have HX : Hid (RowS wr g A B C a b c ∧ Below B0.heap.size B0 wr) := hB
      clear hB
      go_wp2
      refine bodyPost_end (v := .tuple #[]) (results_none (by kernel_rfl) _ _ _) rfl ⟨rfl, ?_⟩
      exact HX.out
set_option maxRecDepth 100000 in
theorem pdq_one (g cap : Nat) (w : World) : Calls Try.prog 46 #[.slice (some ⟨g, 0, none⟩) 1 cap, .int .i64 0, .int .i64 1, .int .i64 1, .func (.func 32) #[] #[]] w fun e w' => e = .returned (.tuple #[]) ∧ Below w.heap.size w w' := by
  have CI : Hid (∀ W, Calls Try.prog 53 #[.slice (some ⟨g, 0, none⟩) 1 cap, .int .i64 0, .int .i64 1, .func (.func 32) #[] #[]] W fun e w' => e = .returned (.tuple #[]) ∧ Below W.heap.size W w') := fun W => insert_one g cap W
  go_enter Try.func46, Try.ntmps46
  go_wp2
  go_loopg [1, 2] 0 (fun gk s1 s2 wx => gk = 0 ∧ s1 = .int .i64 0 ∧ s2 = .int .i64 1 ∧ wx = w)
  case atStart => exact ⟨rfl, rfl, rfl, rfl⟩
  case round =>
    obtain ⟨rfl, rfl, rfl, rfl⟩ := hrel
    go_wp2_with (go_at_call 53; refine (CI.out _).mono ?_; rintro e w1 ⟨rfl, hb⟩)
    refine bodyPost_ret (v := .tuple #[]) (results_none (by kernel_rfl) _ _ _) rfl ⟨rfl, ?_⟩
    exact hb
set_option maxRecDepth 100000 in
theorem sort_one (g cap : Nat) (w : World) : Calls Try.prog 31 #[.slice (some ⟨g, 0, none⟩) 1 cap, .func (.func 32) #[] #[]] w fun e w' => e = .returned (.tuple #[]) ∧ Below w.heap.size w w' := by
  have CP : Hid (∀ W, Below w.heap.size w W → Calls Try.prog 46 #[.slice (some ⟨g, 0, none⟩) 1 cap, .int .i64 0, .int .i64 1, .int .i64 1, .func (.func 32) #[] #[]] W fun e w' => e = .returned (.tuple #[]) ∧ Below W.heap.size W w') := fun W _ => pdq_one g cap W
  have CL : Hid (∀ W, Calls Try.prog 47 #[.int .u64 1] W fun e w' => e = .returned (.int .i64 1) ∧ Below W.heap.size W w') := fun W => len47_1 W
  go_enter Try.func31, Try.ntmps31
  go_wp2_with (first | (go_at_call 47; (with_reducible refine (CL.out _).mono ?_); rintro e w1 ⟨rfl, hb1⟩) | (go_at_call 46; refine (CP.out _ hb1).mono ?_; rintro e w2 ⟨rfl, hb⟩) | fail)
  refine bodyPost_end (v := .tuple #[]) (results_none (by kernel_rfl) _ _ _) rfl ⟨rfl, ?_⟩
  exact bl_via hb1 hb
set_option maxRecDepth 100000 in
theorem pdq_keep (g cap : Nat) (a b c A B C : Int) (B0 : World) (w : World) (hr : RowS w g a b c A B C) (hB0 : Below B0.heap.size B0 w) (hg : B0.heap.size ≤ g) (hk : decide (cmpS A B C a b c < 0) = false) : Calls Try.prog 46 #[.slice (some ⟨g, 0, none⟩) 2 cap, .int .i64 0, .int .i64 2, .int .i64 2, .func (.func 32) #[] #[]] w fun e w' => e = .returned (.tuple #[]) ∧ RowS w' g a b c A B C ∧ Below B0.heap.size B0 w' := by
  have CI : Hid (∀ W, Below w.heap.size w W → Calls Try.prog 53 #[.slice (some ⟨g, 0, none⟩) 2 cap, .int .i64 0, .int .i64 2, .func (.func 32) #[] #[]] W fun e w' => e = .returned (.tuple #[]) ∧ RowS w' g a b c A B C ∧ Below B0.heap.size B0 w') := fun W hW => insert_keep g cap a b c A B C B0 W (hr.kept hW) (bl_via hB0 hW) hg hk
  clear hr hB0 hg hk
  go_enter Try.func46, Try.ntmps46
  go_wp2
  go_loopg [1, 2] 0 (fun gk s1 s2 wx => gk = 0 ∧ s1 = .int .i64 0 ∧ s2 = .int .i64 2 ∧ wx = w)
  case atStart => exact ⟨rfl, rfl, rfl, rfl⟩
  case round =>
    obtain ⟨rfl, rfl, rfl, rfl⟩ := hrel
    go_wp2_with (go_at_call 53; refine (CI.out _ (bl_refl _)).mono ?_; rintro e w1 ⟨rfl, hb⟩)
    refine bodyPost_ret (v := .tuple #[]) (results_none (by kernel_rfl) _ _ _) rfl ⟨rfl, ?_⟩
    exact hb
set_option maxRecDepth 100000 in
theorem sort_keep (g cap : Nat) (a b c A B C : Int) (B0 : World) (w : World) (hr : RowS w g a b c A B C) (hB0 : Below B0.heap.size B0 w) (hg : B0.heap.size ≤ g) (hk : decide (cmpS A B C a b c < 0) = false) : Calls Try.prog 31 #[.slice (some ⟨g, 0, none⟩) 2 cap, .func (.func 32) #[] #[]] w fun e w' => e = .returned (.tuple #[]) ∧ RowS w' g a b c A B C ∧ Below B0.heap.size B0 w' := by
  have CP : Hid (∀ W, Below w.heap.size w W → Calls Try.prog 46 #[.slice (some ⟨g, 0, none⟩) 2 cap, .int .i64 0, .int .i64 2, .int .i64 2, .func (.func 32) #[] #[]] W fun e w' => e = .returned (.tuple #[]) ∧ RowS w' g a b c A B C ∧ Below B0.heap.size B0 w') := fun W hW => pdq_keep g cap a b c A B C B0 W (hr.kept hW) (bl_via hB0 hW) hg hk
  have CL : Hid (∀ W, Calls Try.prog 47 #[.int .u64 2] W fun e w' => e = .returned (.int .i64 2) ∧ Below W.heap.size W w') := fun W => len47_2 W
  clear hr hB0 hg hk
  go_enter Try.func31, Try.ntmps31
  go_wp2_with (first | (go_at_call 47; (with_reducible refine (CL.out _).mono ?_); rintro e w1 ⟨rfl, hb1⟩) | (go_at_call 46; refine (CP.out _ hb1).mono ?_; rintro e w2 ⟨rfl, hb⟩) | fail)
  refine bodyPost_end (v := .tuple #[]) (results_none (by kernel_rfl) _ _ _) rfl ⟨rfl, ?_⟩
  exact hb
set_option maxRecDepth 100000 in
theorem pdq_swap (g cap : Nat) (a b c A B C : Int) (B0 : World) (w : World) (hr : RowS w g a b c A B C) (hB0 : Below B0.heap.size B0 w) (hg : B0.heap.size ≤ g) (hk : decide (cmpS A B C a b c < 0) = true) : Calls Try.prog 46 #[.slice (some ⟨g, 0, none⟩) 2 cap, .int .i64 0, .int .i64 2, .int .i64 2, .func (.func 32) #[] #[]] w fun e w' => e = .returned (.tuple #[]) ∧ RowS w' g A B C a b c ∧ Below B0.heap.size B0 w' := by
  have CI : Hid (∀ W, Below w.heap.size w W → Calls Try.prog 53 #[.slice (some ⟨g, 0, none⟩) 2 cap, .int .i64 0, .int .i64 2, .func (.func 32) #[] #[]] W fun e w' => e = .returned (.tuple #[]) ∧ RowS w' g A B C a b c ∧ Below B0.heap.size B0 w') := fun W hW => insert_swap g cap a b c A B C B0 W (hr.kept hW) (bl_via hB0 hW) hg hk
  clear hr hB0 hg hk
  go_enter Try.func46, Try.ntmps46
  go_wp2
  go_loopg [1, 2] 0 (fun gk s1 s2 wx => gk = 0 ∧ s1 = .int .i64 0 ∧ s2 = .int .i64 2 ∧ wx = w)
  case atStart => exact ⟨rfl, rfl, rfl, rfl⟩
  case round =>
    obtain ⟨rfl, rfl, rfl, rfl⟩ := hrel
    go_wp2_with (go_at_call 53; refine (CI.out _ (bl_refl _)).mono ?_; rintro e w1 ⟨rfl, hb⟩)
    refine bodyPost_ret (v := .tuple #[]) (results_none (by kernel_rfl) _ _ _) rfl ⟨rfl, ?_⟩
    exact hb
set_option maxRecDepth 100000 in
theorem sort_swap (g cap : Nat) (a b c A B C : Int) (B0 : World) (w : World) (hr : RowS w g a b c A B C) (hB0 : Below B0.heap.size B0 w) (hg : B0.heap.size ≤ g) (hk : decide (cmpS A B C a b c < 0) = true) : Calls Try.prog 31 #[.slice (some ⟨g, 0, none⟩) 2 cap, .func (.func 32) #[] #[]] w fun e w' => e = .returned (.tuple #[]) ∧ RowS w' g A B C a b c ∧ Below B0.heap.size B0 w' := by
  have CP : Hid (∀ W, Below w.heap.size w W → Calls Try.prog 46 #[.slice (some ⟨g, 0, none⟩) 2 cap, .int .i64 0, .int .i64 2, .int .i64 2, .func (.func 32) #[] #[]] W fun e w' => e = .returned (.tuple #[]) ∧ RowS w' g A B C a b c ∧ Below B0.heap.size B0 w') := fun W hW => pdq_swap g cap a b c A B C B0 W (hr.kept hW) (bl_via hB0 hW) hg hk
  have CL : Hid (∀ W, Calls Try.prog 47 #[.int .u64 2] W fun e w' => e = .returned (.int .i64 2) ∧ Below W.heap.size W w') := fun W => len47_2 W
  clear hr hB0 hg hk
  go_enter Try.func31, Try.ntmps31
  go_wp2_with (first | (go_at_call 47; (with_reducible refine (CL.out _).mono ?_); rintro e w1 ⟨rfl, hb1⟩) | (go_at_call 46; refine (CP.out _ hb1).mono ?_; rintro e w2 ⟨rfl, hb⟩) | fail)
  refine bodyPost_end (v := .tuple #[]) (results_none (by kernel_rfl) _ _ _) rfl ⟨rfl, ?_⟩
  exact hb
end Go.Proofs.Ytohnppjbmpaomaa
