import Derived.Test.YthkhiedpkmpifaaDoorPkai
import Derived.Test.YthkhiedpkmpifaaDoorPkad
import Derived.Test.YthkhiedpkmpifaaDoorPkab
import Derived.Test.YthkhiedpkmpifaaDoorPkaa
import Derived.Deep.QuietTactic
import Derived.BigQuiet
/- Are all triangles of a sheet joined? The reference's way. -/
namespace Go.Proofs.YthkhiedpkmpifaaDoor
open Go.RowKit

theorem plc_self {l : List (Int × Int × Int)} (hn : l.Nodup) {j : Nat} (hj : j < l.length) : plc l l[j] = j :=
  plc_at hj rfl fun j' hj' hlt he => by
    have := nodup_inj hn hj' hj he
    omega
theorem ok_adj {l : List (Int × Int × Int)} {who : Nat → Nat} (hn : l.Nodup) (hk : ∀ t ∈ l, Kd t) (h : ∀ i e, i < l.length → e < 3 → Ok l who i e) : ∀ i j (hi : i < l.length) (hj : j < l.length), Adj l[i] l[j] → who i ≤ who j := fun i j hi hj ha => by
  obtain ⟨e, he, hh⟩ := (adj_iff (hk _ (List.getElem_mem hi)) (hk _ (List.getElem_mem hj))).1 ha
  exact h i e hi he hi j hj (by rw [← hh]; exact plc_self hn hj)

set_option maxHeartbeats 1600000 in
theorem joinedSheet_any (W H b off cap : Nat) (zs : List Int) (c : Value) (w : World) (hr : Row w (some ⟨b, off, none⟩) zs) (hW : 1 ≤ W ∧ W ≤ 8) (hH : 1 ≤ H ∧ H ≤ 8) (hl : zs.length = W * H) (hm : maskB zs = true) :
    Calls Tryd.prog 77 #[.agg #[.int .i64 (W : Int), .int .i64 (H : Int), .slice (some ⟨b, off, none⟩) zs.length cap, c]] w fun e w' => ∃ bb : Bool, e = .returned (.bool bb) ∧ (bb = true ↔ Joined (ty zs W H)) ∧ Below w.heap.size w w' := by
  have C102 : Hid (∀ W' : World, Below w.heap.size w W' → Calls Tryd.prog 102 #[.agg #[.int .i64 (W : Int), .int .i64 (H : Int), .slice (some ⟨b, off, none⟩) zs.length cap, c], .bool true] W' fun e w' => ∃ g who, e = .returned (.slice (some ⟨g, 0, none⟩) (ty zs W H).length (ty zs W H).length) ∧ WRow w' g (ty zs W H).length who ∧ Inv (ty zs W H) who ∧ (∀ i e, i < (ty zs W H).length → e < 3 → Ok (ty zs W H) who i e) ∧ Below W'.heap.size W' w') := fun W' hW' => groups_any W H b off cap zs c W' (hr.kept hW') hW hH hl hm
  have HBD : Hid ((∀ t ∈ ty zs W H, Kd t) ∧ (ty zs W H).Nodup) := ⟨fun t ht => (ty_bd hW.2 hH.2 t ht).2.2, ty_nodup zs W H⟩
  have hlen : (ty zs W H).length ≤ 256 := by have := ty_len zs W H hW.2; omega
  clear hr hl hm hW hH
  obtain ⟨L, hL⟩ : ∃ L, L = ty zs W H := ⟨_, rfl⟩
  rw [← hL] at C102 HBD hlen ⊢
  clear hL
  go_enter Tryd.func77, Tryd.ntmps77
  go_wp2_with (go_at_call 102; refine (C102.out _ (by with_reducible exact bl_alloc (bl_refl _))).mono ?_; rintro e w1 ⟨g, who, rfl, hW1, hI, hO, hb⟩; have HW : Hid (WRow w1 g L.length who ∧ Inv L who ∧ (∀ i e, i < L.length → e < 3 → Ok L who i e) ∧ Below w.heap.size w w1) := ⟨hW1, hI, hO, bl_via (bl_alloc (bl_refl _)) hb⟩; clear hW1 hI hO hb)
  have HJ : Hid (∀ h0 : 0 < L.length, (∀ i, i < L.length → who i = 0) ↔ Joined L) := fun h0 => who_joined HBD.out.2 h0 who HW.out.2.1 (ok_adj HBD.out.2 HBD.out.1 HW.out.2.2.1)
  go_loopg [4] L.length (fun gk s4 wx => ∃ i : Nat, i ≤ L.length ∧ gk = L.length - i ∧ s4 = .int .i64 (i : Int) ∧ (∀ j, j < i → who j = 0) ∧ wx = w1)
  case atStart => exact ⟨0, by omega, rfl, rfl, fun j h => by omega, rfl⟩
  case round =>
    obtain ⟨i, hi, rfl, rfl, hp, rfl⟩ := hrel
    have HP : Hid (∀ j, j < i → who j = 0) := hp
    clear hp
    by_cases h1 : i < L.length
    · have i1 : (i : Int) < (L.length : Int) := by omega
      have i0 : (0 : Int) ≤ (i : Int) := by omega
      obtain ⟨ci, fi⟩ := HW.out.1 i h1
      by_cases hz : who i = 0
      · rw [hz] at ci
        have HZ : Hid (who i = 0) := hz
        clear hz
        go_wp2
        go_roundg (L.length - (i + 1))
        case measure => omega
        case rel =>
          refine ⟨i + 1, by omega, rfl, by go_num, fun j hj => ?_, rfl⟩
          by_cases e : j = i
          · subst e; exact HZ.out
          · exact HP.out j (by omega)
      · have hz' : ((who i : Int) == 0) = false := by simp; omega
        have hz2 : ¬ (who i : Int) = 0 := by omega
        go_wp2
        go_ret
        refine ⟨false, rfl, ⟨fun h => Bool.noConfusion h, fun h => absurd (((HJ.out (by omega)).2 h) i h1) hz⟩, HW.out.2.2.2⟩
    · have i1 : ¬ (i : Int) < (L.length : Int) := by omega
      by_cases h0 : 0 < L.length
      · have q0 : (0 : Int) < (L.length : Int) := by omega
        go_wp2
        go_ret
        exact Or.inr ⟨rfl, (HJ.out h0).1 (fun j hj => HP.out j (by omega)), HW.out.2.2.2⟩
      · have q0 : ¬ (0 : Int) < (L.length : Int) := by omega
        go_wp2
        go_ret
        exact Or.inl ⟨rfl, fun h => absurd h.1 h0, HW.out.2.2.2⟩
end Go.Proofs.YthkhiedpkmpifaaDoor

/- The edges of a triangle as paper has them; a sheet whose cells may not be is not laid out. -/
namespace Go.Proofs.YthkhiedpkmpifaaDoor
open Go.RowKit

set_option maxHeartbeats 1600000 in
theorem paperEdges_any (x y k : Int) (w : World) (h : triB x y k = true) (hs : Steps w) :
    Calls Tryd.prog 113 #[.agg #[.int .i64 x, .int .i64 y, .int .i64 k]] w fun e w' => e = .returned (.agg #[.int .i64 (ue0 x y k), .int .i64 (ue1 x y k), .int .i64 (ue2 x y k), .int .i64 (ue3 x y k), .int .i64 (ue4 x y k), .int .i64 (ue5 x y k), .int .i64 (ue6 x y k), .int .i64 (ue7 x y k), .int .i64 (ue8 x y k), .int .i64 (ue9 x y k), .int .i64 (ue10 x y k), .int .i64 (ue11 x y k)]) ∧ Below w.heap.size w w' := by
  have HS : Hid (Steps w) := hs
  clear hs
  go_enter Tryd.func113, Tryd.ntmps113
  go_wp2_with (go_at_call 10; refine (Edges_yes _ _ _ _ h (HS.out.kept (bl_alloc (bl_alloc (bl_refl _))))).mono ?_; rintro e w2 ⟨rfl, hb⟩; have r0 : w2.cell? ⟨w.heap.size + 1, 0, none⟩ = some (.int .i64 0) := cl_kept hb (by first | (simp [go_sem]; done) | (simp [go_sem, World.cell?_alloc_past]; done)); have f0' : w2.frozen? ⟨w.heap.size + 1, 0, none⟩ = false := (hb.frozen (p := ⟨w.heap.size + 1, 0, none⟩) (by simp <;> omega)).trans (by simp [go_sem]); have r1 : w2.cell? ⟨w.heap.size + 1, 1, none⟩ = some (.int .i64 0) := cl_kept hb (by first | (simp [go_sem]; done) | (simp [go_sem, World.cell?_alloc_past]; done)); have f1' : w2.frozen? ⟨w.heap.size + 1, 1, none⟩ = false := (hb.frozen (p := ⟨w.heap.size + 1, 1, none⟩) (by simp <;> omega)).trans (by simp [go_sem]); have r2 : w2.cell? ⟨w.heap.size + 1, 2, none⟩ = some (.int .i64 0) := cl_kept hb (by first | (simp [go_sem]; done) | (simp [go_sem, World.cell?_alloc_past]; done)); have f2' : w2.frozen? ⟨w.heap.size + 1, 2, none⟩ = false := (hb.frozen (p := ⟨w.heap.size + 1, 2, none⟩) (by simp <;> omega)).trans (by simp [go_sem]); have r3 : w2.cell? ⟨w.heap.size + 1, 3, none⟩ = some (.int .i64 0) := cl_kept hb (by first | (simp [go_sem]; done) | (simp [go_sem, World.cell?_alloc_past]; done)); have f3' : w2.frozen? ⟨w.heap.size + 1, 3, none⟩ = false := (hb.frozen (p := ⟨w.heap.size + 1, 3, none⟩) (by simp <;> omega)).trans (by simp [go_sem]); have r4 : w2.cell? ⟨w.heap.size + 1, 4, none⟩ = some (.int .i64 0) := cl_kept hb (by first | (simp [go_sem]; done) | (simp [go_sem, World.cell?_alloc_past]; done)); have f4' : w2.frozen? ⟨w.heap.size + 1, 4, none⟩ = false := (hb.frozen (p := ⟨w.heap.size + 1, 4, none⟩) (by simp <;> omega)).trans (by simp [go_sem]); have r5 : w2.cell? ⟨w.heap.size + 1, 5, none⟩ = some (.int .i64 0) := cl_kept hb (by first | (simp [go_sem]; done) | (simp [go_sem, World.cell?_alloc_past]; done)); have f5' : w2.frozen? ⟨w.heap.size + 1, 5, none⟩ = false := (hb.frozen (p := ⟨w.heap.size + 1, 5, none⟩) (by simp <;> omega)).trans (by simp [go_sem]); have r6 : w2.cell? ⟨w.heap.size + 1, 6, none⟩ = some (.int .i64 0) := cl_kept hb (by first | (simp [go_sem]; done) | (simp [go_sem, World.cell?_alloc_past]; done)); have f6' : w2.frozen? ⟨w.heap.size + 1, 6, none⟩ = false := (hb.frozen (p := ⟨w.heap.size + 1, 6, none⟩) (by simp <;> omega)).trans (by simp [go_sem]); have r7 : w2.cell? ⟨w.heap.size + 1, 7, none⟩ = some (.int .i64 0) := cl_kept hb (by first | (simp [go_sem]; done) | (simp [go_sem, World.cell?_alloc_past]; done)); have f7' : w2.frozen? ⟨w.heap.size + 1, 7, none⟩ = false := (hb.frozen (p := ⟨w.heap.size + 1, 7, none⟩) (by simp <;> omega)).trans (by simp [go_sem]); have r8 : w2.cell? ⟨w.heap.size + 1, 8, none⟩ = some (.int .i64 0) := cl_kept hb (by first | (simp [go_sem]; done) | (simp [go_sem, World.cell?_alloc_past]; done)); have f8' : w2.frozen? ⟨w.heap.size + 1, 8, none⟩ = false := (hb.frozen (p := ⟨w.heap.size + 1, 8, none⟩) (by simp <;> omega)).trans (by simp [go_sem]); have r9 : w2.cell? ⟨w.heap.size + 1, 9, none⟩ = some (.int .i64 0) := cl_kept hb (by first | (simp [go_sem]; done) | (simp [go_sem, World.cell?_alloc_past]; done)); have f9' : w2.frozen? ⟨w.heap.size + 1, 9, none⟩ = false := (hb.frozen (p := ⟨w.heap.size + 1, 9, none⟩) (by simp <;> omega)).trans (by simp [go_sem]); have r10 : w2.cell? ⟨w.heap.size + 1, 10, none⟩ = some (.int .i64 0) := cl_kept hb (by first | (simp [go_sem]; done) | (simp [go_sem, World.cell?_alloc_past]; done)); have f10' : w2.frozen? ⟨w.heap.size + 1, 10, none⟩ = false := (hb.frozen (p := ⟨w.heap.size + 1, 10, none⟩) (by simp <;> omega)).trans (by simp [go_sem]); have r11 : w2.cell? ⟨w.heap.size + 1, 11, none⟩ = some (.int .i64 0) := cl_kept hb (by first | (simp [go_sem]; done) | (simp [go_sem, World.cell?_alloc_past]; done)); have f11' : w2.frozen? ⟨w.heap.size + 1, 11, none⟩ = false := (hb.frozen (p := ⟨w.heap.size + 1, 11, none⟩) (by simp <;> omega)).trans (by simp [go_sem]); have zz0 : w.heap.size + 1 < w2.heap.size := World.block_lt_of_cell? (w := w2) (a := ⟨w.heap.size + 1, 0, none⟩) r0; have zz1 : w.heap.size + 1 < w2.heap.size + 1 := (by omega); have zz2 : w.heap.size + 1 < w2.heap.size + 1 + 1 := (by omega); have zz3 : w.heap.size + 1 < w2.heap.size + 1 + 1 + 1 := (by omega); have HB : Hid (Below w.heap.size w w2) := bl_via (bl_alloc (bl_alloc (bl_refl _))) hb; clear hb)
  refine bodyPost_ret (v := .agg #[.int .i64 (ue0 x y k), .int .i64 (ue1 x y k), .int .i64 (ue2 x y k), .int .i64 (ue3 x y k), .int .i64 (ue4 x y k), .int .i64 (ue5 x y k), .int .i64 (ue6 x y k), .int .i64 (ue7 x y k), .int .i64 (ue8 x y k), .int .i64 (ue9 x y k), .int .i64 (ue10 x y k), .int .i64 (ue11 x y k)]) ?_ rfl ⟨rfl, ?_⟩
  · first | (simp [results, Tryd.results113, go_sem, *]; done) | (simp [results, Tryd.results113, go_sem, World.cell?_alloc_past, *]; done)
  · with_reducible repeat' (first | exact HB.out | refine bl_set ?_ ?_ | refine bl_alloc ?_ | refine bl_drew ?_)
    all_goals (first | omega | (simp; done) | (simp; omega))

set_option maxHeartbeats 1600000 in
theorem lay_bad (W H : Int) (a : Option Addr) (cap : Nat) (zs : List Int) (c : Value) (w : World) (hr : Row w a zs) (hc : cellsB W H zs = false) :
    Calls Tryd.prog 72 #[.agg #[.int .i64 W, .int .i64 H, .slice a zs.length cap, c]] w fun e w' => e = .returned (.tuple #[.agg #[.slice none 0 0, .map none, .map none], .bool false]) ∧ Below w.heap.size w w' := by
  have HR : Hid (Row w a zs) := hr
  clear hr
  cases hW : sideB W
  · go_enter Tryd.func72, Tryd.ntmps72
    go_wp2_with (go_at_call 92; refine (maySide_any _ _).mono ?_; rintro e w' ⟨rfl, rfl⟩)
    refine bodyPost_ret (v := .tuple #[.agg #[.slice none 0 0, .map none, .map none], .bool false]) ?_ rfl ⟨rfl, ?_⟩
    · simp [results, Tryd.results72, go_sem]
    · with_reducible repeat' (first | exact bl_refl _ | refine bl_alloc ?_)
  cases hH : sideB H
  · go_enter Tryd.func72, Tryd.ntmps72
    go_wp2_with (go_at_call 92; refine (maySide_any _ _).mono ?_; rintro e w' ⟨rfl, rfl⟩)
    refine bodyPost_ret (v := .tuple #[.agg #[.slice none 0 0, .map none, .map none], .bool false]) ?_ rfl ⟨rfl, ?_⟩
    · simp [results, Tryd.results72, go_sem]
    · with_reducible repeat' (first | exact bl_refl _ | refine bl_alloc ?_)
  by_cases hl : (zs.length : Int) = W * H
  · have hm : maskB zs = false := by
      have := hc
      simp only [cellsB, hW, hH, decide_eq_true hl] at this
      simpa using this
    have HM : Hid (∀ W' : World, Below w.heap.size w W' → Calls Tryd.prog 93 #[.agg #[.int .i64 W, .int .i64 H, .slice a zs.length cap, c]] W' fun e w' => e = .returned (.bool false) ∧ ∃ o, w' = W'.alloc o) := fun W' hW' => hm ▸ mayMask_any W H a cap zs c W' hW hH (HR.out.kept hW') hl
    clear hm hl hc
    go_enter Tryd.func72, Tryd.ntmps72
    go_wp2_with (first | (go_at_call 92; refine (maySide_any _ _).mono ?_; rintro e w' ⟨rfl, rfl⟩) | (go_at_call 93; refine (HM.out _ (by with_reducible exact bl_alloc (bl_alloc (bl_refl _)))).mono ?_; rintro e w' ⟨rfl, o, rfl⟩))
    refine bodyPost_ret (v := .tuple #[.agg #[.slice none 0 0, .map none, .map none], .bool false]) ?_ rfl ⟨rfl, ?_⟩
    · simp [results, Tryd.results72, go_sem]
    · with_reducible repeat' (first | exact bl_refl _ | refine bl_alloc ?_)
  · have HM : Hid (∀ W' : World, Calls Tryd.prog 93 #[.agg #[.int .i64 W, .int .i64 H, .slice a zs.length cap, c]] W' fun e w' => e = .returned (.bool false) ∧ ∃ o, w' = W'.alloc o) := fun W' => mayMask_len W H a cap zs c W' hW hH hl
    clear hl hc
    go_enter Tryd.func72, Tryd.ntmps72
    go_wp2_with (first | (go_at_call 92; refine (maySide_any _ _).mono ?_; rintro e w' ⟨rfl, rfl⟩) | (go_at_call 93; refine (HM.out _).mono ?_; rintro e w' ⟨rfl, o, rfl⟩))
    refine bodyPost_ret (v := .tuple #[.agg #[.slice none 0 0, .map none, .map none], .bool false]) ?_ rfl ⟨rfl, ?_⟩
    · simp [results, Tryd.results72, go_sem]
    · with_reducible repeat' (first | exact bl_refl _ | refine bl_alloc ?_)

set_option maxHeartbeats 1600000 in
theorem May_no (W H : Int) (a : Option Addr) (cap : Nat) (zs : List Int) (c : Value) (w : World) (hcall : ∀ W' : World, Below w.heap.size w W' → Calls Tryd.prog 72 #[.agg #[.int .i64 W, .int .i64 H, .slice a zs.length cap, c]] W' fun e w' => e = .returned (.tuple #[.agg #[.slice none 0 0, .map none, .map none], .bool false]) ∧ Below W'.heap.size W' w') :
    Calls Tryd.prog 32 #[.agg #[.int .i64 W, .int .i64 H, .slice a zs.length cap, c]] w fun e w' => e = .returned (.bool false) ∧ Below w.heap.size w w' := by
  have HC : Hid (∀ W' : World, Below w.heap.size w W' → Calls Tryd.prog 72 #[.agg #[.int .i64 W, .int .i64 H, .slice a zs.length cap, c]] W' fun e w' => e = .returned (.tuple #[.agg #[.slice none 0 0, .map none, .map none], .bool false]) ∧ Below W'.heap.size W' w') := hcall
  clear hcall
  go_enter Tryd.func32, Tryd.ntmps32
  go_wp2_with (go_at_call 72; refine (HC.out _ (by with_reducible exact bl_alloc (bl_refl _))).mono ?_; rintro e w2 ⟨rfl, hb⟩; have HB : Hid (Below w.heap.size w w2) := bl_via (bl_alloc (bl_refl _)) hb; clear hb)
  go_ret
  exact ⟨rfl, bl_alloc HB.out⟩

set_option maxHeartbeats 1600000 in
theorem Tris_no (W H : Int) (a : Option Addr) (cap : Nat) (zs : List Int) (c : Value) (w : World) (hcall : ∀ W' : World, Below w.heap.size w W' → Calls Tryd.prog 72 #[.agg #[.int .i64 W, .int .i64 H, .slice a zs.length cap, c]] W' fun e w' => e = .returned (.tuple #[.agg #[.slice none 0 0, .map none, .map none], .bool false]) ∧ Below W'.heap.size W' w') :
    Calls Tryd.prog 34 #[.agg #[.int .i64 W, .int .i64 H, .slice a zs.length cap, c]] w fun e w' => e = .returned (.tuple #[.slice none 0 0, .int .i64 10]) ∧ Below w.heap.size w w' := by
  have HC : Hid (∀ W' : World, Below w.heap.size w W' → Calls Tryd.prog 72 #[.agg #[.int .i64 W, .int .i64 H, .slice a zs.length cap, c]] W' fun e w' => e = .returned (.tuple #[.agg #[.slice none 0 0, .map none, .map none], .bool false]) ∧ Below W'.heap.size W' w') := hcall
  clear hcall
  go_enter Tryd.func34, Tryd.ntmps34
  go_wp2_with (go_at_call 72; refine (HC.out _ (by with_reducible exact bl_alloc (bl_refl _))).mono ?_; rintro e w2 ⟨rfl, hb⟩; have HB : Hid (Below w.heap.size w w2) := bl_via (bl_alloc (bl_refl _)) hb; clear hb)
  go_ret2
  exact ⟨rfl, bl_alloc HB.out⟩

set_option maxHeartbeats 1600000 in
theorem Show_no (W H : Int) (a : Option Addr) (cap : Nat) (zs : List Int) (c : Value) (w : World) (hcall : ∀ W' : World, Below w.heap.size w W' → Calls Tryd.prog 72 #[.agg #[.int .i64 W, .int .i64 H, .slice a zs.length cap, c]] W' fun e w' => e = .returned (.tuple #[.agg #[.slice none 0 0, .map none, .map none], .bool false]) ∧ Below W'.heap.size W' w') :
    Calls Tryd.prog 35 #[.agg #[.int .i64 W, .int .i64 H, .slice a zs.length cap, c]] w fun e w' => e = .returned (.tuple #[.string ⟨#[]⟩, .int .i64 10]) ∧ Below w.heap.size w w' := by
  have HC : Hid (∀ W' : World, Below w.heap.size w W' → Calls Tryd.prog 32 #[.agg #[.int .i64 W, .int .i64 H, .slice a zs.length cap, c]] W' fun e w' => e = .returned (.bool false) ∧ Below W'.heap.size W' w') := fun W' hW' => May_no W H a cap zs c W' (fun W2 hW2 => hcall W2 (bl_via hW' hW2))
  clear hcall
  go_enter Tryd.func35, Tryd.ntmps35
  go_wp2_with (go_at_call 32; refine (HC.out _ (by with_reducible exact bl_alloc (bl_refl _))).mono ?_; rintro e w2 ⟨rfl, hb⟩; have HB : Hid (Below w.heap.size w w2) := bl_via (bl_alloc (bl_refl _)) hb; clear hb)
  go_ret2
  exact ⟨rfl, HB.out⟩

set_option maxHeartbeats 1600000 in
theorem sheetMay_bad (W H : Int) (a : Option Addr) (cap : Nat) (zs : List Int) (c : Value) (w : World) (hr : Row w a zs) (hc : cellsB W H zs = false) :
    Calls Tryd.prog 36 #[.agg #[.int .i64 W, .int .i64 H, .slice a zs.length cap, c]] w fun e w' => e = .returned (.bool false) ∧ Below w.heap.size w w' := by
  have HC : Hid (∀ W' : World, Below w.heap.size w W' → Calls Tryd.prog 74 #[.agg #[.int .i64 W, .int .i64 H, .slice a zs.length cap, c]] W' fun e w' => e = .returned (.bool false) ∧ ∃ o, w' = W'.alloc o) := fun W' hW' => hc ▸ cellsMay_any W H a cap zs c W' (hr.kept hW')
  clear hr hc
  go_enter Tryd.func36, Tryd.ntmps36
  go_wp2_with (go_at_call 74; refine (HC.out _ (by with_reducible exact bl_alloc (bl_refl _))).mono ?_; rintro e w2 ⟨rfl, o, rfl⟩)
  go_ret
  exact ⟨rfl, bl_alloc (bl_alloc (bl_refl _))⟩
end Go.Proofs.YthkhiedpkmpifaaDoor

/- A drawn region that only reads, and whose callees leave all old memory alone: one walk in the order of the text serves every order. -/
namespace Go.Proofs.YthkhiedpkmpifaaDoor
open Go.RowKit

/-- The worlds that have all of W as it was. -/
structure Kin (W : World) where
  w : World
  h : Below W.heap.size W w
theorem Kin.cells (W : World) : ∀ (n : Kin W) (b o : Nat), b < W.heap.size → n.w.cell? ⟨b, o, none⟩ = W.cell? ⟨b, o, none⟩ := fun n b o hb => n.h.cell (p := ⟨b, o, none⟩) hb
theorem wp_region_kin {P : Program} {id : Nat} {Q : Exit → Act → World → Prop} {a : Act} {W : World} {l : List Oper} (hm : P.follows .mixedOrders = true) (hB : Region.lexB .any l.toArray = true)
    (h : wpQuiet P l.toArray (fun w' => ∃ n : Kin W, w' = n.w) (fun a' => ∀ w', (∃ n : Kin W, w' = n.w) → Q .normal a' w') l a) : (Code.region id l.toArray true).wp P Q a W :=
  wp_region_quiet (C := fun w' => ∃ n : Kin W, w' = n.w) hm hB ⟨⟨W.drew, bl_drew (bl_refl _)⟩, rfl⟩ (by simpa using h)
theorem kin_of {P : Program} {f : FuncId} {args : Array Value} {W : World} {n : Kin W} {v : Value}
    (h : Calls P f args n.w fun e w' => e = .returned v ∧ Below n.w.heap.size n.w w') : Calls P f args n.w fun e w'' => e = .returned v ∧ ∃ m : Kin W, w'' = m.w :=
  h.mono fun _ w' ⟨he, hb⟩ => ⟨he, ⟨w', bl_via n.h hb⟩, rfl⟩
/-- The world of a walk gets a name. -/
theorem wp_named {P : Program} {c : Code} {Q : Exit → Act → World → Prop} {a : Act} {w : World} (h : ∀ W, W = w → c.wp P Q a W) : c.wp P Q a w := h w rfl
end Go.Proofs.YthkhiedpkmpifaaDoor

/- May a sheet be, whose cells may be? The reference's way. -/
namespace Go.Proofs.YthkhiedpkmpifaaDoor
open Go.RowKit

/-- A crease's numbers. -/
def ck (ks : List Int) (i j : Nat) : Int := ks.getD (i * 5 + j) 0
/-- May the crease i be? -/
def CrOk (l : List (Int × Int × Int)) (ks : List Int) (i : Nat) : Prop :=
  (0 < i → lessE (ck ks (i - 1) 0) (ck ks (i - 1) 1) (ck ks (i - 1) 2) (ck ks (i - 1) 3) (ck ks i 0) (ck ks i 1) (ck ks i 2) (ck ks i 3) = true) ∧ (ck ks i 4 = 1 ∨ ck ks i 4 = 2) ∧ cnt l (ck ks i 0) (ck ks i 1) (ck ks i 2) (ck ks i 3) = 2
/-- Creases in a row of memory, as a slice has them. -/
def CRow (w : World) (cb : Option Addr) (ks : List Int) (n : Nat) : Prop :=
  ∀ i, i < n → ∃ bb bo, cb = some ⟨bb, bo, none⟩ ∧ w.cell? ⟨bb, bo + i * 5, none⟩ = some (.int .i64 (ck ks i 0)) ∧ w.cell? ⟨bb, bo + i * 5 + 1, none⟩ = some (.int .i64 (ck ks i 1)) ∧ w.cell? ⟨bb, bo + i * 5 + 2, none⟩ = some (.int .i64 (ck ks i 2)) ∧ w.cell? ⟨bb, bo + i * 5 + 3, none⟩ = some (.int .i64 (ck ks i 3)) ∧ w.cell? ⟨bb, bo + i * 5 + 4, none⟩ = some (.int .i64 (ck ks i 4))
theorem row_crow {w : World} {cb : Option Addr} {ks : List Int} {n : Nat} (h : Row w cb ks) (hn : ks.length = n * 5) : CRow w cb ks n := fun i hi => by
  have h0 : i * 5 + 4 < ks.length := by omega
  obtain ⟨bb, bo, rfl, c0⟩ := h (i * 5) (by omega)
  refine ⟨bb, bo, rfl, ?_⟩
  have key : ∀ j, j < 5 → w.cell? ⟨bb, bo + i * 5 + j, none⟩ = some (.int .i64 (ck ks i j)) := fun j hj => by
    obtain ⟨b', o', e, hc⟩ := h (i * 5 + j) (by omega)
    simp only [Option.some.injEq, Addr.mk.injEq, and_true] at e
    obtain ⟨rfl, rfl⟩ := e
    rw [Nat.add_assoc, hc]
    simp [ck, show i * 5 + j < ks.length by omega]
  exact ⟨key 0 (by omega), key 1 (by omega), key 2 (by omega), key 3 (by omega), key 4 (by omega)⟩
theorem CRow.kept {w wx : World} {cb : Option Addr} {ks : List Int} {n : Nat} (h : CRow w cb ks n) (hb : Below w.heap.size w wx) : CRow wx cb ks n := fun i hi => by
  obtain ⟨bb, bo, e, h0, h1, h2, h3, h4⟩ := h i hi
  exact ⟨bb, bo, e, cl_kept hb h0, cl_kept hb h1, cl_kept hb h2, cl_kept hb h3, cl_kept hb h4⟩

set_option maxRecDepth 100000 in
set_option maxHeartbeats 6400000 in
theorem sheetMay_any (W H b off cap n ccap : Nat) (cb : Option Addr) (zs ks : List Int) (w : World) (hr : Row w (some ⟨b, off, none⟩) zs) (hW : 1 ≤ W ∧ W ≤ 8) (hH : 1 ≤ H ∧ H ≤ 8) (hl : zs.length = W * H) (hm : maskB zs = true) (hk : Row w cb ks) (hn : ks.length = n * 5) (hn2 : n ≤ 3518437208883) :
    Calls Tryd.prog 36 #[.agg #[.int .i64 (W : Int), .int .i64 (H : Int), .slice (some ⟨b, off, none⟩) zs.length cap, .slice cb n ccap]] w fun e w' => ∃ bb : Bool, e = .returned (.bool bb) ∧ (bb = true ↔ ((∀ i, i < n → CrOk (ty zs W H) ks i) ∧ Joined (ty zs W H))) ∧ Below w.heap.size w w' := by
  have hcb : cellsB (W : Int) (H : Int) zs = true := by
    have e1 : sideB (W : Int) = true := by simp [sideB]; omega
    have e2 : sideB (H : Int) = true := by simp [sideB]; omega
    have e3 : (zs.length : Int) = (W : Int) * (H : Int) := by rw [hl]; simp
    simp only [cellsB, e1, e2, decide_eq_true e3, hm]
    rfl
  have C74 : Hid (∀ W' : World, Below w.heap.size w W' → Calls Tryd.prog 74 #[.agg #[.int .i64 (W : Int), .int .i64 (H : Int), .slice (some ⟨b, off, none⟩) zs.length cap, .slice cb n ccap]] W' fun e w' => e = .returned (.bool true) ∧ ∃ o, w' = W'.alloc o) := fun W' hW' => hcb ▸ cellsMay_any W H (some ⟨b, off, none⟩) cap zs _ W' (hr.kept hW')
  have C77 : Hid (∀ W' : World, Below w.heap.size w W' → Calls Tryd.prog 77 #[.agg #[.int .i64 (W : Int), .int .i64 (H : Int), .slice (some ⟨b, off, none⟩) zs.length cap, .slice cb n ccap]] W' fun e w' => ∃ bb : Bool, e = .returned (.bool bb) ∧ (bb = true ↔ Joined (ty zs W H)) ∧ Below W'.heap.size W' w') := fun W' hW' => joinedSheet_any W H b off cap zs _ W' (hr.kept hW') hW hH hl hm
  have C76 : Hid (∀ (p q r s : Int) (W' : World), Below w.heap.size w W' → Calls Tryd.prog 76 #[.agg #[.int .i64 (W : Int), .int .i64 (H : Int), .slice (some ⟨b, off, none⟩) zs.length cap, .slice cb n ccap], .agg #[.int .i64 p, .int .i64 q, .int .i64 r, .int .i64 s]] W' fun e w' => e = .returned (.bool (decide (cnt (ty zs W H) p q r s = 2))) ∧ Below W'.heap.size W' w') := fun p q r s W' hW' => innerEdge_any W H b off cap zs _ p q r s W' (hr.kept hW') hW hH hl hm
  have HCR : Hid (CRow w cb ks n) := row_crow hk hn
  clear hr hl hm hW hH hk hn hcb
  obtain ⟨L, hL⟩ : ∃ L, L = ty zs W H := ⟨_, rfl⟩
  rw [← hL] at C77 C76 ⊢
  clear hL
  go_enter Tryd.func36, Tryd.ntmps36
  go_wp2_with (go_at_call 74; refine (C74.out _ (by with_reducible exact bl_alloc (bl_refl _))).mono ?_; rintro e w' ⟨rfl, o, rfl⟩)
  go_loopg [3] n (fun gk s3 wx => ∃ i : Nat, i ≤ n ∧ gk = n - i ∧ s3 = .int .i64 (i : Int) ∧ (∀ j, j < i → CrOk L ks j) ∧ Sh wx w.heap.size (.int .i64 (W : Int)) (.int .i64 (H : Int)) (.slice (some ⟨b, off, none⟩) zs.length cap) (.slice cb n ccap) ∧ Below w.heap.size w wx)
  case atStart => exact ⟨0, by omega, rfl, rfl, fun j h => by omega, by simp [Sh, go_sem], bl_alloc (bl_alloc (bl_refl _))⟩
  case round =>
    obtain ⟨i, hi, rfl, rfl, hp, hS, hB⟩ := hrel
    have HP : Hid (∀ j, j < i → CrOk L ks j) := hp
    have HS : Hid (Sh wr w.heap.size (.int .i64 (W : Int)) (.int .i64 (H : Int)) (.slice (some ⟨b, off, none⟩) zs.length cap) (.slice cb n ccap) ∧ Below w.heap.size w wr) := ⟨hS, hB⟩
    obtain ⟨s0, s1, s2, s3⟩ := hS
    have zs0 : w.heap.size < wr.heap.size := World.block_lt_of_cell? _ _ s0
    clear hp hB
    by_cases h1 : i < n
    · have i1 : (i : Int) < (n : Int) := by omega
      have i0 : (0 : Int) ≤ (i : Int) := by omega
      obtain ⟨bb, bo, rfl, c0, c1, c2, c3, c4⟩ := (HCR.out.kept HS.out.2) i h1
      have zb : bb < wr.heap.size := World.block_lt_of_cell? _ _ c0
      go_wp2
      go_cut [51] (fun s51 wx => ∃ bad : Bool, s51 = .bool bad ∧ (bad = true ↔ ¬ CrOk L ks i) ∧ Below wr.heap.size wr wx)
      case first =>
        refine wp_named (fun W0 hW0 => ?_)
        have hB0 : Below wr.heap.size wr W0 := by rw [hW0]; exact bl_alloc (bl_refl _)
        have HB0 : Hid (Below wr.heap.size wr W0) := hB0
        have HSB : Hid (Below w.heap.size w W0) := bl_via HS.out.2 hB0
        have a0 : W0.cell? ⟨w.heap.size, 0, none⟩ = some (.int .i64 (W : Int)) := cl_kept hB0 s0
        have a1 : W0.cell? ⟨w.heap.size, 1, none⟩ = some (.int .i64 (H : Int)) := cl_kept hB0 s1
        have a2 : W0.cell? ⟨w.heap.size, 2, none⟩ = some (.slice (some ⟨b, off, none⟩) zs.length cap) := cl_kept hB0 s2
        have a3 : W0.cell? ⟨w.heap.size, 3, none⟩ = some (.slice (some ⟨bb, bo, none⟩) n ccap) := cl_kept hB0 s3
        have t0 : W0.cell? ⟨wr.heap.size, 0, none⟩ = some (.int .i64 (ck ks i 0)) := by rw [hW0]; simp [go_sem]
        have t1 : W0.cell? ⟨wr.heap.size, 1, none⟩ = some (.int .i64 (ck ks i 1)) := by rw [hW0]; simp [go_sem]
        have t2 : W0.cell? ⟨wr.heap.size, 2, none⟩ = some (.int .i64 (ck ks i 2)) := by rw [hW0]; simp [go_sem]
        have t3 : W0.cell? ⟨wr.heap.size, 3, none⟩ = some (.int .i64 (ck ks i 3)) := by rw [hW0]; simp [go_sem]
        have t4 : W0.cell? ⟨wr.heap.size, 4, none⟩ = some (.int .i64 (ck ks i 4)) := by rw [hW0]; simp [go_sem]
        have z0 : w.heap.size < W0.heap.size := World.block_lt_of_cell? _ _ a0
        have z1 : wr.heap.size < W0.heap.size := World.block_lt_of_cell? _ _ t0
        have z2 : bb < W0.heap.size := Nat.lt_of_lt_of_le zb hB0.size
        have HPR : Hid (CRow W0 (some ⟨bb, bo, none⟩) ks n) := HCR.out.kept HSB.out
        have kc := Kin.cells W0
        have kn : Nonempty (Kin W0) := ⟨⟨W0, bl_refl _⟩⟩
        clear hB0 hW0 s0 s1 s2 s3 c0 c1 c2 c3 c4 zs0 zb
        by_cases hi0 : i = 0
        · have q0 : ¬ (0 : Int) < (i : Int) := by omega
          have HI0 : Hid (i = 0) := hi0
          have q1 : ¬ 0 < i := by omega
          clear hi0
          by_cases k1 : (ck ks i 4) = 1
          · refine wp_region_kin (by kernel_rfl) (by kernel_rfl) ?_
            repeat (go_big_quiet_step ((first | (go_at_call 75; exact kin_of (lessEdge_any _ _ _ _ _ _ _ _ _)) | (go_at_call 76; exact kin_of (C76.out _ _ _ _ _ (bl_via HSB.out (Kin.h _)))))))
            refine wpQuiet_nil ?_
            intro wq hw'
            obtain ⟨nq, hw''⟩ := hw'
            have hq : Below W0.heap.size W0 wq := hw'' ▸ nq.h
            clear hw'' nq
            have HQ : Hid (Below wr.heap.size wr wq) := bl_via HB0.out hq
            clear hq
            go_wp2
            go_meet
            case rel => exact ⟨_, rfl, by simp only [Bool.not_eq_true', decide_eq_false_iff_not]; exact ⟨fun h hc => h hc.2.2, fun h hc => h ⟨fun h => absurd h (by have := HI0.out; omega), Or.inl k1, hc⟩⟩, HQ.out⟩
          · by_cases k2 : (ck ks i 4) = 2
            · refine wp_region_kin (by kernel_rfl) (by kernel_rfl) ?_
              repeat (go_big_quiet_step ((first | (go_at_call 75; exact kin_of (lessEdge_any _ _ _ _ _ _ _ _ _)) | (go_at_call 76; exact kin_of (C76.out _ _ _ _ _ (bl_via HSB.out (Kin.h _)))))))
              refine wpQuiet_nil ?_
              intro wq hw'
              obtain ⟨nq, hw''⟩ := hw'
              have hq : Below W0.heap.size W0 wq := hw'' ▸ nq.h
              clear hw'' nq
              have HQ : Hid (Below wr.heap.size wr wq) := bl_via HB0.out hq
              clear hq
              go_wp2
              go_meet
              case rel => exact ⟨_, rfl, by simp only [Bool.not_eq_true', decide_eq_false_iff_not]; exact ⟨fun h hc => h hc.2.2, fun h hc => h ⟨fun h => absurd h (by have := HI0.out; omega), Or.inr k2, hc⟩⟩, HQ.out⟩
            · have k1b : ((ck ks i 4) != 1) = true := by simpa using k1
              have k2b : ((ck ks i 4) != 2) = true := by simpa using k2
              refine wp_region_kin (by kernel_rfl) (by kernel_rfl) ?_
              repeat (go_big_quiet_step ((first | (go_at_call 75; exact kin_of (lessEdge_any _ _ _ _ _ _ _ _ _)) | (go_at_call 76; exact kin_of (C76.out _ _ _ _ _ (bl_via HSB.out (Kin.h _)))))))
              refine wpQuiet_nil ?_
              intro wq hw'
              obtain ⟨nq, hw''⟩ := hw'
              have hq : Below W0.heap.size W0 wq := hw'' ▸ nq.h
              clear hw'' nq
              have HQ : Hid (Below wr.heap.size wr wq) := bl_via HB0.out hq
              clear hq
              go_wp2
              go_meet
              case rel => exact ⟨_, rfl, ⟨fun _ hc => by rcases hc.2.1 with h | h <;> contradiction, fun _ => rfl⟩, HQ.out⟩

        · have q0 : (0 : Int) < (i : Int) := by omega
          have q1 : 0 < i := by omega
          clear hi0
          obtain ⟨m, hm⟩ : ∃ m, i = m + 1 := ⟨i - 1, by omega⟩
          have hmi : (i : Int) - 1 = (m : Int) := by omega
          have m1 : (m : Int) < (n : Int) := by omega
          have m0 : (0 : Int) ≤ (m : Int) := by omega
          obtain ⟨bb', bo', e', p0, p1, p2, p3, _⟩ := HPR.out m (by omega)
          simp only [Option.some.injEq, Addr.mk.injEq, and_true] at e'
          obtain ⟨rfl, rfl⟩ := e'
          have HM : Hid (i - 1 = m) := by show i - 1 = m; omega
          cases hless : lessE (ck ks m 0) (ck ks m 1) (ck ks m 2) (ck ks m 3) (ck ks i 0) (ck ks i 1) (ck ks i 2) (ck ks i 3)
          · have HL : Hid (¬ CrOk L ks i) := fun h => by
              have := h.1 (by omega)
              rw [HM.out, hless] at this
              exact Bool.noConfusion this
            clear hm
            refine wp_region_kin (by kernel_rfl) (by kernel_rfl) ?_
            repeat (go_big_quiet_step ((first | (go_at_call 75; exact kin_of (lessEdge_any _ _ _ _ _ _ _ _ _)) | (go_at_call 76; exact kin_of (C76.out _ _ _ _ _ (bl_via HSB.out (Kin.h _)))))))
            refine wpQuiet_nil ?_
            intro wq hw'
            obtain ⟨nq, hw''⟩ := hw'
            have hq : Below W0.heap.size W0 wq := hw'' ▸ nq.h
            clear hw'' nq
            have HQ : Hid (Below wr.heap.size wr wq) := bl_via HB0.out hq
            clear hq
            go_wp2
            go_meet
            case rel => exact ⟨_, rfl, ⟨fun _ => HL.out, fun _ => rfl⟩, HQ.out⟩
          · have HL : Hid (0 < i → lessE (ck ks (i - 1) 0) (ck ks (i - 1) 1) (ck ks (i - 1) 2) (ck ks (i - 1) 3) (ck ks i 0) (ck ks i 1) (ck ks i 2) (ck ks i 3) = true) := fun _ => by rw [HM.out]; exact hless
            clear hm
            by_cases k1 : (ck ks i 4) = 1
            · refine wp_region_kin (by kernel_rfl) (by kernel_rfl) ?_
              repeat (go_big_quiet_step ((first | (go_at_call 75; exact kin_of (lessEdge_any _ _ _ _ _ _ _ _ _)) | (go_at_call 76; exact kin_of (C76.out _ _ _ _ _ (bl_via HSB.out (Kin.h _)))))))
              refine wpQuiet_nil ?_
              intro wq hw'
              obtain ⟨nq, hw''⟩ := hw'
              have hq : Below W0.heap.size W0 wq := hw'' ▸ nq.h
              clear hw'' nq
              have HQ : Hid (Below wr.heap.size wr wq) := bl_via HB0.out hq
              clear hq
              go_wp2
              go_meet
              case rel => exact ⟨_, rfl, by simp only [Bool.not_eq_true', decide_eq_false_iff_not]; exact ⟨fun h hc => h hc.2.2, fun h hc => h ⟨HL.out, Or.inl k1, hc⟩⟩, HQ.out⟩
            · by_cases k2 : (ck ks i 4) = 2
              · refine wp_region_kin (by kernel_rfl) (by kernel_rfl) ?_
                repeat (go_big_quiet_step ((first | (go_at_call 75; exact kin_of (lessEdge_any _ _ _ _ _ _ _ _ _)) | (go_at_call 76; exact kin_of (C76.out _ _ _ _ _ (bl_via HSB.out (Kin.h _)))))))
                refine wpQuiet_nil ?_
                intro wq hw'
                obtain ⟨nq, hw''⟩ := hw'
                have hq : Below W0.heap.size W0 wq := hw'' ▸ nq.h
                clear hw'' nq
                have HQ : Hid (Below wr.heap.size wr wq) := bl_via HB0.out hq
                clear hq
                go_wp2
                go_meet
                case rel => exact ⟨_, rfl, by simp only [Bool.not_eq_true', decide_eq_false_iff_not]; exact ⟨fun h hc => h hc.2.2, fun h hc => h ⟨HL.out, Or.inr k2, hc⟩⟩, HQ.out⟩
              · have k1b : ((ck ks i 4) != 1) = true := by simpa using k1
                have k2b : ((ck ks i 4) != 2) = true := by simpa using k2
                refine wp_region_kin (by kernel_rfl) (by kernel_rfl) ?_
                repeat (go_big_quiet_step ((first | (go_at_call 75; exact kin_of (lessEdge_any _ _ _ _ _ _ _ _ _)) | (go_at_call 76; exact kin_of (C76.out _ _ _ _ _ (bl_via HSB.out (Kin.h _)))))))
                refine wpQuiet_nil ?_
                intro wq hw'
                obtain ⟨nq, hw''⟩ := hw'
                have hq : Below W0.heap.size W0 wq := hw'' ▸ nq.h
                clear hw'' nq
                have HQ : Hid (Below wr.heap.size wr wq) := bl_via HB0.out hq
                clear hq
                go_wp2
                go_meet
                case rel => exact ⟨_, rfl, ⟨fun _ hc => by rcases hc.2.1 with h | h <;> contradiction, fun _ => rfl⟩, HQ.out⟩

      case rest =>
        obtain ⟨bad, rfl, hbad, hBc⟩ := hcut
        have HV : Hid ((bad = true ↔ ¬ CrOk L ks i) ∧ Sh wc w.heap.size (.int .i64 (W : Int)) (.int .i64 (H : Int)) (.slice (some ⟨b, off, none⟩) zs.length cap) (.slice (some ⟨bb, bo, none⟩) n ccap) ∧ Below w.heap.size w wc) := ⟨hbad, HS.out.1.kept hBc, bl_via HS.out.2 hBc⟩
        clear hbad hBc
        cases bad
        · go_wp2
          go_roundg (n - (i + 1))
          case measure => omega
          case rel =>
            refine ⟨i + 1, by omega, rfl, by go_num, fun j hj => ?_, HV.out.2.1, HV.out.2.2⟩
            by_cases ej : j = i
            · subst ej
              exact Classical.byContradiction fun h => Bool.noConfusion (HV.out.1.2 h)
            · exact HP.out j (by omega)
        · go_wp2
          go_ret
          exact Or.inl ⟨rfl, fun h => absurd (h i h1) (HV.out.1.1 (by simp)), HV.out.2.2⟩
    · have i1 : ¬ (i : Int) < (n : Int) := by omega
      have HA : Hid (∀ j, j < n → CrOk L ks j) := fun j hj => HP.out j (by omega)
      go_wp2_with (go_at_call 77; refine (C77.out _ HS.out.2).mono ?_; rintro e w2 ⟨bv, rfl, hbv, hb⟩; have HV : Hid ((bv = true ↔ Joined L) ∧ Below w.heap.size w w2) := ⟨hbv, bl_via HS.out.2 hb⟩; clear hbv hb)
      go_ret
      exact ⟨bv, rfl, ⟨fun h => ⟨HA.out, HV.out.1.1 h⟩, fun h => HV.out.1.2 h.2⟩, HV.out.2⟩
end Go.Proofs.YthkhiedpkmpifaaDoor

/- A sheet's text: the reference's way. -/
namespace Go.Proofs.YthkhiedpkmpifaaDoor
open Go.RowKit

/-- A cell's letter. -/
def ltB (z : Int) : UInt8 := if z < 10 then UInt8.ofNat (48 + z.toNat) else UInt8.ofNat (87 + z.toNat)
/-- The first x letters of a row; the first k rows, from the highest on; a crease's line; the first n lines; the whole text. -/
def rwT (zs : List Int) (W y x : Nat) : List UInt8 := (List.range x).map fun x' => ltB (zs.getD (y * W + x') 0)
def rsT (zs : List Int) (W H : Nat) : Nat → List UInt8
  | 0 => []
  | k + 1 => rsT zs W H k ++ rwT zs W (H - 1 - k) W ++ [10]
def crT (ks : List Int) (i : Nat) : List UInt8 :=
  [if ck ks i 4 = 1 then 109 else 118, 32] ++ dgs (ck ks i 0).toNat ++ [32] ++ dgs (ck ks i 1).toNat ++ [32] ++ dgs (ck ks i 2).toNat ++ [32] ++ dgs (ck ks i 3).toNat ++ [10]
def csT (ks : List Int) : Nat → List UInt8
  | 0 => []
  | i + 1 => csT ks i ++ crT ks i
def hdT (W H : Nat) : List UInt8 := [115, 104, 101, 101, 116, 32] ++ dgs W ++ [32] ++ dgs H ++ [10]
def shT (zs ks : List Int) (W H n : Nat) : List UInt8 := hdT W H ++ rsT zs W H H ++ csT ks n
theorem rwT_succ (zs : List Int) (W y x : Nat) : rwT zs W y (x + 1) = rwT zs W y x ++ [ltB (zs.getD (y * W + x) 0)] := by simp [rwT, List.range_succ]

theorem bsz (a : ByteArray) : a.size = a.data.toList.length := by rw [Array.length_toList]; rfl

set_option maxRecDepth 100000 in
set_option maxHeartbeats 6400000 in
theorem sheetText_any (W H b off cap n ccap : Nat) (cb : Option Addr) (zs ks : List Int) (w : World) (hr : Row w (some ⟨b, off, none⟩) zs) (hW : 1 ≤ W ∧ W ≤ 8) (hH : 1 ≤ H ∧ H ≤ 8) (hl : zs.length = W * H) (hm : maskB zs = true) (hk : Row w cb ks) (hn : ks.length = n * 5) (hn2 : n ≤ 3518437208883) (hcr : ∀ i, i < n → ∀ j, j < 4 → 0 ≤ ck ks i j ∧ ck ks i j < 100) :
    Calls Tryd.prog 39 #[.agg #[.int .i64 (W : Int), .int .i64 (H : Int), .slice (some ⟨b, off, none⟩) zs.length cap, .slice cb n ccap]] w fun e w' => ∃ t, e = .returned (.string t) ∧ t.data.toList = shT zs ks W H n ∧ Below w.heap.size w w' := by
  have HR : Hid (Row w (some ⟨b, off, none⟩) zs) := hr
  have h64 : zs.length ≤ 64 := by rw [hl]; exact Nat.le_trans (Nat.mul_le_mul hW.2 hH.2) (by decide)
  have HM : Hid (∀ z ∈ zs, 0 ≤ z ∧ z ≤ 15) := by
    show ∀ z ∈ zs, 0 ≤ z ∧ z ≤ 15
    simpa [maskB] using hm
  have HL : Hid (zs.length = W * H) := hl
  have HCR : Hid (CRow w cb ks n) := row_crow hk hn
  have HCB : Hid (∀ i, i < n → ∀ j, j < 4 → 0 ≤ ck ks i j ∧ ck ks i j < 100) := hcr
  have C79 : Hid (∀ (z : Int) (W' : World), 0 ≤ z → z < 100 → Calls Tryd.prog 79 #[.int .i64 z] W' fun e w' => e = .returned (.string (dgB z.toNat)) ∧ Below W'.heap.size W' w') := fun z W' h0 h1 => by
    have e : ((z.toNat : Nat) : Int) = z := by omega
    have := dec_any z.toNat W' (by omega)
    rwa [e] at this
  obtain ⟨w1, w8⟩ := hW
  obtain ⟨h1, h8⟩ := hH
  have CN : Hid (∀ (m : Nat) (W' : World), m < 100 → Calls Tryd.prog 79 #[.int .i64 (m : Int)] W' fun e w' => e = .returned (.string (dgB m)) ∧ Below W'.heap.size W' w') := fun m W' h => dec_any m W' h
  have zW := dgB_size W
  have zH := dgB_size H
  clear hr hm hl hk hn hcr
  go_enter Tryd.func39, Tryd.ntmps39
  go_wp2
  refine wp_named (fun W0 hW0 => ?_)
  have hB0 : Below w.heap.size w W0 := by rw [hW0]; exact bl_alloc (bl_refl _)
  have s0 : W0.cell? ⟨w.heap.size, 0, none⟩ = some (.int .i64 (W : Int)) := by rw [hW0]; simp [go_sem]
  have s1 : W0.cell? ⟨w.heap.size, 1, none⟩ = some (.int .i64 (H : Int)) := by rw [hW0]; simp [go_sem]
  have s2 : W0.cell? ⟨w.heap.size, 2, none⟩ = some (.slice (some ⟨b, off, none⟩) zs.length cap) := by rw [hW0]; simp [go_sem]
  have s3 : W0.cell? ⟨w.heap.size, 3, none⟩ = some (.slice cb n ccap) := by rw [hW0]; simp [go_sem]
  have HS0 : Hid (Sh W0 w.heap.size (.int .i64 (W : Int)) (.int .i64 (H : Int)) (.slice (some ⟨b, off, none⟩) zs.length cap) (.slice cb n ccap) ∧ Below w.heap.size w W0) := ⟨⟨s0, s1, s2, s3⟩, hB0⟩
  have z0 : w.heap.size < W0.heap.size := World.block_lt_of_cell? _ _ s0
  have kc := Kin.cells W0
  have kn : Nonempty (Kin W0) := ⟨⟨W0, bl_refl _⟩⟩
  have tok1 : True := trivial
  clear hW0 hB0
  refine wp_region_kin (by kernel_rfl) (by kernel_rfl) ?_
  repeat (go_big_quiet_step (((go_at_call 79; refine kin_of (CN.out _ _ ?_); omega))))
  refine wpQuiet_nil ?_
  intro wq hw'
  obtain ⟨nq, hw''⟩ := hw'
  have hq : Below W0.heap.size W0 wq := hw'' ▸ nq.h
  have HQ : Hid (Sh wq w.heap.size (.int .i64 (W : Int)) (.int .i64 (H : Int)) (.slice (some ⟨b, off, none⟩) zs.length cap) (.slice cb n ccap) ∧ Below w.heap.size w wq) := ⟨HS0.out.1.kept hq, bl_via HS0.out.2 hq⟩
  clear hw'' nq hq kc kn s0 s1 s2 s3 z0 HS0 tok1
  obtain ⟨s0, s1, s2, s3⟩ := HQ.out.1
  go_wp2
  clear s0 s1 s2 s3
  go_loopg [3, 4] (H + 1) (fun gk s3 s4 wx => ∃ (r : Nat) (v : Int) (t : ByteArray), r ≤ H ∧ gk = r + 1 ∧ v = (r : Int) - 1 ∧ s4 = .int .i64 v ∧ s3 = .string t ∧ t.data.toList = hdT W H ++ rsT zs W H (H - r) ∧ t.size ≤ 20 + 9 * (H - r) ∧ Sh wx w.heap.size (.int .i64 (W : Int)) (.int .i64 (H : Int)) (.slice (some ⟨b, off, none⟩) zs.length cap) (.slice cb n ccap) ∧ Below w.heap.size w wx)
  case atStart =>
    refine ⟨H, _, _, by omega, rfl, rfl, rfl, rfl, ?_, ?_, HQ.out.1, HQ.out.2⟩
    · simp only [app_list, dgB_list, Nat.sub_self, rsT, List.append_nil, hdT]
    · simp [ByteArray.size_append]
      have e1 : ByteArray.size ⟨#[115, 104, 101, 101, 116, 32]⟩ = 6 := rfl
      have e2 : ByteArray.size ⟨#[32]⟩ = 1 := rfl
      have e3 : ByteArray.size ⟨#[10]⟩ = 1 := rfl
      omega
  case round =>
    clear HQ
    obtain ⟨r, v, t, hr, rfl, hv, rfl, rfl, ht, htz, hS, hB⟩ := hrel
    have HT : Hid (t.data.toList = hdT W H ++ rsT zs W H (H - r)) := ht
    have HS : Hid (Sh wr w.heap.size (.int .i64 (W : Int)) (.int .i64 (H : Int)) (.slice (some ⟨b, off, none⟩) zs.length cap) (.slice cb n ccap) ∧ Below w.heap.size w wr) := ⟨hS, hB⟩
    obtain ⟨s0, s1, s2, s3⟩ := hS
    have zs0 : w.heap.size < wr.heap.size := World.block_lt_of_cell? _ _ s0
    clear ht hB
    by_cases hr0' : 0 < r
    · obtain ⟨y, rfl⟩ : ∃ y, r = y + 1 := ⟨r - 1, by omega⟩
      obtain rfl : v = (y : Int) := by omega
      clear hv
      have iy : (0 : Int) ≤ (y : Int) := by omega
      go_wp2
      go_loopg [3, 5] W (fun gk s3 s5 wx => ∃ (x : Nat) (t : ByteArray), x ≤ W ∧ gk = W - x ∧ s5 = .int .i64 (x : Int) ∧ s3 = .string t ∧ t.data.toList = hdT W H ++ rsT zs W H (H - (y + 1)) ++ rwT zs W y x ∧ t.size ≤ 20 + 9 * (H - (y + 1)) + x ∧ Sh wx w.heap.size (.int .i64 (W : Int)) (.int .i64 (H : Int)) (.slice (some ⟨b, off, none⟩) zs.length cap) (.slice cb n ccap) ∧ Below w.heap.size w wx)
      case atStart => exact ⟨0, t, by omega, rfl, rfl, rfl, by rw [HT.out]; simp [rwT], by omega, HS.out.1, HS.out.2⟩
      case round =>
        clear HT HS s0 s1 s2 s3 zs0
        obtain ⟨x, t2, hx, rfl, rfl, rfl, ht, htz2, hS, hB⟩ := hrel
        have HT : Hid (t2.data.toList = hdT W H ++ rsT zs W H (H - (y + 1)) ++ rwT zs W y x) := ht
        have HS : Hid (Sh wr w.heap.size (.int .i64 (W : Int)) (.int .i64 (H : Int)) (.slice (some ⟨b, off, none⟩) zs.length cap) (.slice cb n ccap) ∧ Below w.heap.size w wr) := ⟨hS, hB⟩
        obtain ⟨s0, s1, s2, s3⟩ := hS
        have zs0 : w.heap.size < wr.heap.size := World.block_lt_of_cell? _ _ s0
        clear ht hB
        by_cases hx1 : x < W
        · have ix : (x : Int) < (W : Int) := by omega
          have hyw : y * W + W ≤ W * H := by
            have := Nat.mul_le_mul_right W (show y + 1 ≤ H by omega)
            rw [Nat.succ_mul, Nat.mul_comm H W] at this
            exact this
          have hm : y * W + x < zs.length := by rw [HL.out]; omega
          have hyw2 : y * W ≤ 64 := by have := HL.out; omega
          obtain ⟨b', off', e', hc⟩ := (HR.out.kept HS.out.2) (y * W + x) hm
          simp at e'
          obtain ⟨rfl, rfl⟩ := e'
          have hzb := HM.out _ (List.getElem_mem hm)
          have HZ : Hid (zs.getD (y * W + x) 0 = zs[y * W + x]) := by show _ = _; simp [hm]
          obtain ⟨z, hz⟩ : ∃ z, z = zs[y * W + x] := ⟨_, rfl⟩
          rw [← hz] at hc hzb HZ
          have yw0 : (0 : Int) ≤ (y : Int) * (W : Int) := by rw [← Int.natCast_mul]; omega
          have yw1 : (y : Int) * (W : Int) ≤ 64 := by rw [← Int.natCast_mul]; omega
          have yx : (y : Int) * (W : Int) + (x : Int) = ((y * W + x : Nat) : Int) := by simp
          have i1 : ((y * W + x : Nat) : Int) < (zs.length : Int) := by omega
          have i0 : (0 : Int) ≤ ((y * W + x : Nat) : Int) := by omega
          obtain ⟨m, hmm2⟩ : ∃ m, m = y * W + x := ⟨_, rfl⟩
          rw [← hmm2] at hc yx i1 i0 HZ
          have HMM : Hid (m = y * W + x) := hmm2
          have zbb := World.block_lt_of_cell? _ _ hc
          clear hz hm hyw hyw2 hmm2
          obtain ⟨z0, z15⟩ := hzb
          by_cases hz10 : z < 10
          · have zz := dgB_size z.toNat
            go_wp2_with (go_at_call 79; refine (C79.out _ _ z0 (by omega)).mono ?_; rintro e w5 ⟨rfl, hb5⟩; have HS5 : Hid (Sh w5 w.heap.size (.int .i64 (W : Int)) (.int .i64 (H : Int)) (.slice (some ⟨b, off, none⟩) zs.length cap) (.slice cb n ccap) ∧ Below w.heap.size w w5) := ⟨HS.out.1.kept hb5, bl_via HS.out.2 hb5⟩; clear hb5)
            go_roundg (W - (x + 1))
            case measure => omega
            case rel =>
              refine ⟨x + 1, t2 ++ dgB z.toNat, by omega, rfl, by go_num, rfl, ?_, ?_, HS5.out.1, HS5.out.2⟩
              · have hd : dgs z.toNat = [ltB z] := by
                  have q : z.toNat < 10 := by omega
                  simp [dgs, ltB, q, hz10]
                rw [app_list, HT.out, dgB_list, rwT_succ, ← HMM.out, HZ.out, hd]
                simp only [List.append_assoc]
              · rw [ByteArray.size_append, bsz (dgB z.toNat), dgB_list]
                have q : z.toNat < 10 := by omega
                simp only [dgs, q, if_true, List.length_singleton]
                omega
          · have hcv := byte_conv (87 + z.toNat) (by omega) wr
            have e1 : ((87 + z.toNat : Nat) : Int) = 97 + z - 10 := by omega
            rw [e1] at hcv
            obtain ⟨bz, hbz⟩ : ∃ b : ByteArray, b = ⟨#[UInt8.ofNat (87 + z.toNat)]⟩ := ⟨_, rfl⟩
            rw [← hbz] at hcv
            have hbs : bz.size = 1 := by rw [hbz]; rfl
            have HBZ : Hid (bz.data.toList = [ltB z]) := by
              show _ = _
              rw [hbz]
              simp [ltB, hz10]
            clear hbz e1
            go_wp2
            go_roundg (W - (x + 1))
            case measure => omega
            case rel =>
              refine ⟨x + 1, t2 ++ bz, by omega, rfl, by go_num, rfl, ?_, ?_, HS.out.1.kept (bl_alloc (bl_refl _)), bl_alloc HS.out.2⟩
              · rw [app_list, HT.out, HBZ.out, rwT_succ, ← HMM.out, HZ.out]
                simp only [List.append_assoc]
              · rw [ByteArray.size_append, hbs]
                omega
        · have ix : ¬ (x : Int) < (W : Int) := by omega
          obtain rfl : x = W := by omega
          go_wp2
          go_roundg (y + 1)
          case measure => omega
          case rel =>
            refine ⟨y, (y : Int) - 1, t2 ++ ⟨#[10]⟩, by omega, rfl, rfl, rfl, rfl, ?_, ?_, HS.out.1, HS.out.2⟩
            · have e : H - y = (H - (y + 1)) + 1 := by omega
              rw [app_list, HT.out, e, rsT, show H - 1 - (H - (y + 1)) = y by omega]
              simp
            · rw [ByteArray.size_append, show ByteArray.size ⟨#[10]⟩ = 1 from rfl]
              omega
    · obtain rfl : r = 0 := by omega
      obtain rfl : v = -1 := by omega
      clear hv
      go_wp2
      go_loopg [3, 7] n (fun gk s3 s7 wx => ∃ (i : Nat) (t : ByteArray), i ≤ n ∧ gk = n - i ∧ s7 = .int .i64 (i : Int) ∧ s3 = .string t ∧ t.data.toList = hdT W H ++ rsT zs W H H ++ csT ks i ∧ t.size ≤ 100 + 15 * i ∧ Sh wx w.heap.size (.int .i64 (W : Int)) (.int .i64 (H : Int)) (.slice (some ⟨b, off, none⟩) zs.length cap) (.slice cb n ccap) ∧ Below w.heap.size w wx)
      case atStart => exact ⟨0, t, by omega, rfl, rfl, rfl, by rw [HT.out]; simp [csT], by omega, HS.out.1, HS.out.2⟩
      case round =>
        clear HT HS s0 s1 s2 s3 zs0 htz
        obtain ⟨i, t, hi, rfl, rfl, rfl, ht, htz, hS, hB⟩ := hrel
        have HT : Hid (t.data.toList = hdT W H ++ rsT zs W H H ++ csT ks i) := ht
        have HS : Hid (Sh wr w.heap.size (.int .i64 (W : Int)) (.int .i64 (H : Int)) (.slice (some ⟨b, off, none⟩) zs.length cap) (.slice cb n ccap) ∧ Below w.heap.size w wr) := ⟨hS, hB⟩
        obtain ⟨s0, s1, s2, s3⟩ := hS
        have zs0 : w.heap.size < wr.heap.size := World.block_lt_of_cell? _ _ s0
        clear ht hB
        by_cases h1' : i < n
        · have i1 : (i : Int) < (n : Int) := by omega
          have i0 : (0 : Int) ≤ (i : Int) := by omega
          obtain ⟨bb, bo, rfl, c0, c1, c2, c3, c4⟩ := (HCR.out.kept HS.out.2) i h1'
          have zb : bb < wr.heap.size := World.block_lt_of_cell? _ _ c0
          obtain ⟨p0, p0'⟩ := HCB.out i h1' 0 (by omega)
          obtain ⟨p1, p1'⟩ := HCB.out i h1' 1 (by omega)
          obtain ⟨p2, p2'⟩ := HCB.out i h1' 2 (by omega)
          obtain ⟨p3, p3'⟩ := HCB.out i h1' 3 (by omega)
          have d0 := dgB_size (ck ks i 0).toNat
          have d1 := dgB_size (ck ks i 1).toNat
          have d2 := dgB_size (ck ks i 2).toNat
          have d3 := dgB_size (ck ks i 3).toNat
          by_cases k1 : ck ks i 4 = 1
          · have HK : Hid (ck ks i 4 = 1) := k1
            have k1b : (ck ks i 4 == 1) = true := by simpa using k1
            clear k1
            go_wp2
            refine wp_named (fun W0 hW0 => ?_)
            have hB0 : Below wr.heap.size wr W0 := by rw [hW0]; exact bl_alloc (bl_refl _)
            have t0 : W0.cell? ⟨wr.heap.size, 0, none⟩ = some (.int .i64 (ck ks i 0)) := by rw [hW0]; simp [go_sem]
            have t1 : W0.cell? ⟨wr.heap.size, 1, none⟩ = some (.int .i64 (ck ks i 1)) := by rw [hW0]; simp [go_sem]
            have t2 : W0.cell? ⟨wr.heap.size, 2, none⟩ = some (.int .i64 (ck ks i 2)) := by rw [hW0]; simp [go_sem]
            have t3 : W0.cell? ⟨wr.heap.size, 3, none⟩ = some (.int .i64 (ck ks i 3)) := by rw [hW0]; simp [go_sem]
            have t4 : W0.cell? ⟨wr.heap.size, 4, none⟩ = some (.int .i64 (ck ks i 4)) := by rw [hW0]; simp [go_sem]
            have z0 : wr.heap.size < W0.heap.size := World.block_lt_of_cell? _ _ t0
            have HB0 : Hid (Below wr.heap.size wr W0) := hB0
            have kc := Kin.cells W0
            have kn : Nonempty (Kin W0) := ⟨⟨W0, bl_refl _⟩⟩
            clear hW0 hB0
            refine wp_region_kin (by kernel_rfl) (by kernel_rfl) ?_
            repeat (go_big_quiet_step ((go_at_call 79; refine kin_of (C79.out _ _ ?_ ?_) <;> omega)))
            refine wpQuiet_nil ?_
            intro wq hw'
            obtain ⟨nq, hw''⟩ := hw'
            have hq : Below W0.heap.size W0 wq := hw'' ▸ nq.h
            have HS5 : Hid (Sh wq w.heap.size (.int .i64 (W : Int)) (.int .i64 (H : Int)) (.slice (some ⟨b, off, none⟩) zs.length cap) (.slice (some ⟨bb, bo, none⟩) n ccap) ∧ Below w.heap.size w wq) := ⟨HS.out.1.kept (bl_via HB0.out hq), bl_via HS.out.2 (bl_via HB0.out hq)⟩
            clear hw'' nq hq kc kn
            go_wp2
            go_roundg (n - (i + 1))
            case measure => omega
            case rel =>
              refine ⟨i + 1, _, by omega, rfl, by go_num, rfl, ?_, ?_, HS5.out.1, HS5.out.2⟩
              · simp only [app_list, dgB_list, HT.out, csT, crT, HK.out, if_true]
                simp
              · simp only [ByteArray.size_append]
                have e2 : ByteArray.size ⟨#[32]⟩ = 1 := rfl
                have e3 : ByteArray.size ⟨#[10]⟩ = 1 := rfl
                have e4 : ByteArray.size ⟨#[109, 32]⟩ = 2 := rfl
                omega
          · have HK : Hid (¬ ck ks i 4 = 1) := k1
            have k1b : (ck ks i 4 == 1) = false := by simpa using k1
            clear k1
            go_wp2
            refine wp_named (fun W0 hW0 => ?_)
            have hB0 : Below wr.heap.size wr W0 := by rw [hW0]; exact bl_alloc (bl_refl _)
            have t0 : W0.cell? ⟨wr.heap.size, 0, none⟩ = some (.int .i64 (ck ks i 0)) := by rw [hW0]; simp [go_sem]
            have t1 : W0.cell? ⟨wr.heap.size, 1, none⟩ = some (.int .i64 (ck ks i 1)) := by rw [hW0]; simp [go_sem]
            have t2 : W0.cell? ⟨wr.heap.size, 2, none⟩ = some (.int .i64 (ck ks i 2)) := by rw [hW0]; simp [go_sem]
            have t3 : W0.cell? ⟨wr.heap.size, 3, none⟩ = some (.int .i64 (ck ks i 3)) := by rw [hW0]; simp [go_sem]
            have t4 : W0.cell? ⟨wr.heap.size, 4, none⟩ = some (.int .i64 (ck ks i 4)) := by rw [hW0]; simp [go_sem]
            have z0 : wr.heap.size < W0.heap.size := World.block_lt_of_cell? _ _ t0
            have HB0 : Hid (Below wr.heap.size wr W0) := hB0
            have kc := Kin.cells W0
            have kn : Nonempty (Kin W0) := ⟨⟨W0, bl_refl _⟩⟩
            clear hW0 hB0
            refine wp_region_kin (by kernel_rfl) (by kernel_rfl) ?_
            repeat (go_big_quiet_step ((go_at_call 79; refine kin_of (C79.out _ _ ?_ ?_) <;> omega)))
            refine wpQuiet_nil ?_
            intro wq hw'
            obtain ⟨nq, hw''⟩ := hw'
            have hq : Below W0.heap.size W0 wq := hw'' ▸ nq.h
            have HS5 : Hid (Sh wq w.heap.size (.int .i64 (W : Int)) (.int .i64 (H : Int)) (.slice (some ⟨b, off, none⟩) zs.length cap) (.slice (some ⟨bb, bo, none⟩) n ccap) ∧ Below w.heap.size w wq) := ⟨HS.out.1.kept (bl_via HB0.out hq), bl_via HS.out.2 (bl_via HB0.out hq)⟩
            clear hw'' nq hq kc kn
            go_wp2
            go_roundg (n - (i + 1))
            case measure => omega
            case rel =>
              refine ⟨i + 1, _, by omega, rfl, by go_num, rfl, ?_, ?_, HS5.out.1, HS5.out.2⟩
              · simp only [app_list, dgB_list, HT.out, csT, crT, HK.out, if_false]
                simp
              · simp only [ByteArray.size_append]
                have e2 : ByteArray.size ⟨#[32]⟩ = 1 := rfl
                have e3 : ByteArray.size ⟨#[10]⟩ = 1 := rfl
                have e4 : ByteArray.size ⟨#[118, 32]⟩ = 2 := rfl
                omega
        · have i1 : ¬ (i : Int) < (n : Int) := by omega
          obtain rfl : i = n := by omega
          go_wp2
          go_ret
          exact ⟨t, rfl, HT.out, HS.out.2⟩
end Go.Proofs.YthkhiedpkmpifaaDoor

