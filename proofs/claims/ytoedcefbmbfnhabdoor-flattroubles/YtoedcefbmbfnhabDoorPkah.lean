import Derived.Test.YtoedcefbmbfnhabDoorPkag
import Derived.Test.YtoedcefbmbfnhabDoorPkad
import Derived.Test.YtoedcefbmbfnhabDoorPkab
import Derived.Test.YtoedcefbmbfnhabDoorPkaa
import Derived.Deep.QuietTactic
import Derived.BigQuiet
import Derived.Test.YtoedcefbmbfnhabDoorPkac
import Derived.WideKeyEntry
import Derived.WideKeyRuns
import Derived.Laws.AppendOwn
import Derived.ChangeMaps5
/- Are all triangles of a sheet joined? The reference's way. -/
namespace Go.Proofs.YtoedcefbmbfnhabDoor
open Go.RowKit

theorem plc_self {l : List (Int × Int × Int)} (hn : l.Nodup) {j : Nat} (hj : j < l.length) : plc l l[j] = j :=
  plc_at hj rfl fun j' hj' hlt he => by
    have := nodup_inj hn hj' hj he
    omega
theorem ok_adj {l : List (Int × Int × Int)} {who : Nat → Nat} (hn : l.Nodup) (hk : ∀ t ∈ l, Kd t) (h : ∀ i e, i < l.length → e < 3 → Ok l who i e) : ∀ i j (hi : i < l.length) (hj : j < l.length), Adj l[i] l[j] → who i ≤ who j := fun i j hi hj ha => by
  obtain ⟨e, he, hh⟩ := (adj_iff (hk _ (List.getElem_mem hi)) (hk _ (List.getElem_mem hj))).1 ha
  exact h i e hi he hi j hj (by rw [← hh]; exact plc_self hn hj)

set_option maxHeartbeats 1600000 in
theorem joinedSheet_any (W H b off cap : Nat) (zs : List Int) (c : Value) (w : World) (hr : Row w (some ⟨b, off, none⟩) zs) (hW : 1 ≤ W ∧ W ≤ 8) (hH : 1 ≤ H ∧ H ≤ 8) (hl : zs.length = W * H) (hm : maskB zs = true) :
    Calls Tryd.prog 28 #[.agg #[.int .i64 (W : Int), .int .i64 (H : Int), .slice (some ⟨b, off, none⟩) zs.length cap, c]] w fun e w' => ∃ bb : Bool, e = .returned (.bool bb) ∧ (bb = true ↔ Joined (ty zs W H)) ∧ Below w.heap.size w w' := by
  have C102 : Hid (∀ W' : World, Below w.heap.size w W' → Calls Tryd.prog 30 #[.agg #[.int .i64 (W : Int), .int .i64 (H : Int), .slice (some ⟨b, off, none⟩) zs.length cap, c], .bool true] W' fun e w' => ∃ g who, e = .returned (.slice (some ⟨g, 0, none⟩) (ty zs W H).length (ty zs W H).length) ∧ WRow w' g (ty zs W H).length who ∧ Inv (ty zs W H) who ∧ (∀ i e, i < (ty zs W H).length → e < 3 → Ok (ty zs W H) who i e) ∧ Below W'.heap.size W' w') := fun W' hW' => groups_any W H b off cap zs c W' (hr.kept hW') hW hH hl hm
  have HBD : Hid ((∀ t ∈ ty zs W H, Kd t) ∧ (ty zs W H).Nodup) := ⟨fun t ht => (ty_bd hW.2 hH.2 t ht).2.2, ty_nodup zs W H⟩
  have hlen : (ty zs W H).length ≤ 256 := by have := ty_len zs W H hW.2; omega
  clear hr hl hm hW hH
  obtain ⟨L, hL⟩ : ∃ L, L = ty zs W H := ⟨_, rfl⟩
  rw [← hL] at C102 HBD hlen ⊢
  clear hL
  go_enter Tryd.func28, Tryd.ntmps28
  go_wp2_with (go_at_call 30; refine (C102.out _ (by with_reducible exact bl_alloc (bl_refl _))).mono ?_; rintro e w1 ⟨g, who, rfl, hW1, hI, hO, hb⟩; have HW : Hid (WRow w1 g L.length who ∧ Inv L who ∧ (∀ i e, i < L.length → e < 3 → Ok L who i e) ∧ Below w.heap.size w w1) := ⟨hW1, hI, hO, bl_via (bl_alloc (bl_refl _)) hb⟩; clear hW1 hI hO hb)
  have HJ : Hid (∀ h0 : 0 < L.length, (∀ i, i < L.length → who i = 0) ↔ Joined L) := fun h0 => who_joined HBD.out.2 h0 who HW.out.2.1 (ok_adj HBD.out.2 HBD.out.1 HW.out.2.2.1)
  go_loopg [4] L.length (fun gk s4 wx => ∃ i : Nat, i ≤ L.length ∧ gk = L.length - i ∧ s4 = .int .i64 (i : Int) ∧ (∀ j, j < i → who j = 0) ∧ wx = w1)
  case atStart => exact ⟨0, by omega, rfl, rfl, fun j h => by omega, rfl⟩
  case round =>
    obtain ⟨i, hi, rfl, rfl, hp, rfl⟩ := hrel
    have HP : Hid (∀ j, j < i → who j = 0) := hp
    clear hp
    by_cases h1 : i < L.length
    · have i1 : (i : Int) < (L.length : Int) := by omega
      have i0 : (0 : Int) ≤ (i : Int) := by omega
      obtain ⟨ci, fi⟩ := HW.out.1 i h1
      by_cases hz : who i = 0
      · rw [hz] at ci
        have HZ : Hid (who i = 0) := hz
        clear hz
        go_wp2
        go_roundg (L.length - (i + 1))
        case measure => omega
        case rel =>
          refine ⟨i + 1, by omega, rfl, by go_num, fun j hj => ?_, rfl⟩
          by_cases e : j = i
          · subst e; exact HZ.out
          · exact HP.out j (by omega)
      · have hz' : ((who i : Int) == 0) = false := by simp; omega
        have hz2 : ¬ (who i : Int) = 0 := by omega
        go_wp2
        go_ret
        refine ⟨false, rfl, ⟨fun h => Bool.noConfusion h, fun h => absurd (((HJ.out (by omega)).2 h) i h1) hz⟩, HW.out.2.2.2⟩
    · have i1 : ¬ (i : Int) < (L.length : Int) := by omega
      by_cases h0 : 0 < L.length
      · have q0 : (0 : Int) < (L.length : Int) := by omega
        go_wp2
        go_ret
        exact Or.inr ⟨rfl, (HJ.out h0).1 (fun j hj => HP.out j (by omega)), HW.out.2.2.2⟩
      · have q0 : ¬ (0 : Int) < (L.length : Int) := by omega
        go_wp2
        go_ret
        exact Or.inl ⟨rfl, fun h => absurd h.1 h0, HW.out.2.2.2⟩
end Go.Proofs.YtoedcefbmbfnhabDoor

/- The edges of a triangle as paper has them; a sheet whose cells may not be is not laid out. -/
namespace Go.Proofs.YtoedcefbmbfnhabDoor
open Go.RowKit

set_option maxHeartbeats 1600000 in
theorem paperEdges_any (x y k : Int) (w : World) (h : triB x y k = true) (hs : Steps w) :
    Calls Tryd.prog 87 #[.agg #[.int .i64 x, .int .i64 y, .int .i64 k]] w fun e w' => e = .returned (.agg #[.int .i64 (ue0 x y k), .int .i64 (ue1 x y k), .int .i64 (ue2 x y k), .int .i64 (ue3 x y k), .int .i64 (ue4 x y k), .int .i64 (ue5 x y k), .int .i64 (ue6 x y k), .int .i64 (ue7 x y k), .int .i64 (ue8 x y k), .int .i64 (ue9 x y k), .int .i64 (ue10 x y k), .int .i64 (ue11 x y k)]) ∧ Below w.heap.size w w' := by
  have HS : Hid (Steps w) := hs
  clear hs
  go_enter Tryd.func87, Tryd.ntmps87
  go_wp2_with (go_at_call 109; refine (Edges_yes _ _ _ _ h (HS.out.kept (bl_alloc (bl_alloc (bl_refl _))))).mono ?_; rintro e w2 ⟨rfl, hb⟩; have r0 : w2.cell? ⟨w.heap.size + 1, 0, none⟩ = some (.int .i64 0) := cl_kept hb (by first | (simp [go_sem]; done) | (simp [go_sem, World.cell?_alloc_past]; done)); have f0' : w2.frozen? ⟨w.heap.size + 1, 0, none⟩ = false := (hb.frozen (p := ⟨w.heap.size + 1, 0, none⟩) (by simp <;> omega)).trans (by simp [go_sem]); have r1 : w2.cell? ⟨w.heap.size + 1, 1, none⟩ = some (.int .i64 0) := cl_kept hb (by first | (simp [go_sem]; done) | (simp [go_sem, World.cell?_alloc_past]; done)); have f1' : w2.frozen? ⟨w.heap.size + 1, 1, none⟩ = false := (hb.frozen (p := ⟨w.heap.size + 1, 1, none⟩) (by simp <;> omega)).trans (by simp [go_sem]); have r2 : w2.cell? ⟨w.heap.size + 1, 2, none⟩ = some (.int .i64 0) := cl_kept hb (by first | (simp [go_sem]; done) | (simp [go_sem, World.cell?_alloc_past]; done)); have f2' : w2.frozen? ⟨w.heap.size + 1, 2, none⟩ = false := (hb.frozen (p := ⟨w.heap.size + 1, 2, none⟩) (by simp <;> omega)).trans (by simp [go_sem]); have r3 : w2.cell? ⟨w.heap.size + 1, 3, none⟩ = some (.int .i64 0) := cl_kept hb (by first | (simp [go_sem]; done) | (simp [go_sem, World.cell?_alloc_past]; done)); have f3' : w2.frozen? ⟨w.heap.size + 1, 3, none⟩ = false := (hb.frozen (p := ⟨w.heap.size + 1, 3, none⟩) (by simp <;> omega)).trans (by simp [go_sem]); have r4 : w2.cell? ⟨w.heap.size + 1, 4, none⟩ = some (.int .i64 0) := cl_kept hb (by first | (simp [go_sem]; done) | (simp [go_sem, World.cell?_alloc_past]; done)); have f4' : w2.frozen? ⟨w.heap.size + 1, 4, none⟩ = false := (hb.frozen (p := ⟨w.heap.size + 1, 4, none⟩) (by simp <;> omega)).trans (by simp [go_sem]); have r5 : w2.cell? ⟨w.heap.size + 1, 5, none⟩ = some (.int .i64 0) := cl_kept hb (by first | (simp [go_sem]; done) | (simp [go_sem, World.cell?_alloc_past]; done)); have f5' : w2.frozen? ⟨w.heap.size + 1, 5, none⟩ = false := (hb.frozen (p := ⟨w.heap.size + 1, 5, none⟩) (by simp <;> omega)).trans (by simp [go_sem]); have r6 : w2.cell? ⟨w.heap.size + 1, 6, none⟩ = some (.int .i64 0) := cl_kept hb (by first | (simp [go_sem]; done) | (simp [go_sem, World.cell?_alloc_past]; done)); have f6' : w2.frozen? ⟨w.heap.size + 1, 6, none⟩ = false := (hb.frozen (p := ⟨w.heap.size + 1, 6, none⟩) (by simp <;> omega)).trans (by simp [go_sem]); have r7 : w2.cell? ⟨w.heap.size + 1, 7, none⟩ = some (.int .i64 0) := cl_kept hb (by first | (simp [go_sem]; done) | (simp [go_sem, World.cell?_alloc_past]; done)); have f7' : w2.frozen? ⟨w.heap.size + 1, 7, none⟩ = false := (hb.frozen (p := ⟨w.heap.size + 1, 7, none⟩) (by simp <;> omega)).trans (by simp [go_sem]); have r8 : w2.cell? ⟨w.heap.size + 1, 8, none⟩ = some (.int .i64 0) := cl_kept hb (by first | (simp [go_sem]; done) | (simp [go_sem, World.cell?_alloc_past]; done)); have f8' : w2.frozen? ⟨w.heap.size + 1, 8, none⟩ = false := (hb.frozen (p := ⟨w.heap.size + 1, 8, none⟩) (by simp <;> omega)).trans (by simp [go_sem]); have r9 : w2.cell? ⟨w.heap.size + 1, 9, none⟩ = some (.int .i64 0) := cl_kept hb (by first | (simp [go_sem]; done) | (simp [go_sem, World.cell?_alloc_past]; done)); have f9' : w2.frozen? ⟨w.heap.size + 1, 9, none⟩ = false := (hb.frozen (p := ⟨w.heap.size + 1, 9, none⟩) (by simp <;> omega)).trans (by simp [go_sem]); have r10 : w2.cell? ⟨w.heap.size + 1, 10, none⟩ = some (.int .i64 0) := cl_kept hb (by first | (simp [go_sem]; done) | (simp [go_sem, World.cell?_alloc_past]; done)); have f10' : w2.frozen? ⟨w.heap.size + 1, 10, none⟩ = false := (hb.frozen (p := ⟨w.heap.size + 1, 10, none⟩) (by simp <;> omega)).trans (by simp [go_sem]); have r11 : w2.cell? ⟨w.heap.size + 1, 11, none⟩ = some (.int .i64 0) := cl_kept hb (by first | (simp [go_sem]; done) | (simp [go_sem, World.cell?_alloc_past]; done)); have f11' : w2.frozen? ⟨w.heap.size + 1, 11, none⟩ = false := (hb.frozen (p := ⟨w.heap.size + 1, 11, none⟩) (by simp <;> omega)).trans (by simp [go_sem]); have zz0 : w.heap.size + 1 < w2.heap.size := World.block_lt_of_cell? (w := w2) (a := ⟨w.heap.size + 1, 0, none⟩) r0; have zz1 : w.heap.size + 1 < w2.heap.size + 1 := (by omega); have zz2 : w.heap.size + 1 < w2.heap.size + 1 + 1 := (by omega); have zz3 : w.heap.size + 1 < w2.heap.size + 1 + 1 + 1 := (by omega); have HB : Hid (Below w.heap.size w w2) := bl_via (bl_alloc (bl_alloc (bl_refl _))) hb; clear hb)
  refine bodyPost_ret (v := .agg #[.int .i64 (ue0 x y k), .int .i64 (ue1 x y k), .int .i64 (ue2 x y k), .int .i64 (ue3 x y k), .int .i64 (ue4 x y k), .int .i64 (ue5 x y k), .int .i64 (ue6 x y k), .int .i64 (ue7 x y k), .int .i64 (ue8 x y k), .int .i64 (ue9 x y k), .int .i64 (ue10 x y k), .int .i64 (ue11 x y k)]) ?_ rfl ⟨rfl, ?_⟩
  · first | (simp [results, Tryd.results87, go_sem, *]; done) | (simp [results, Tryd.results87, go_sem, World.cell?_alloc_past, *]; done)
  · with_reducible repeat' (first | exact HB.out | refine bl_set ?_ ?_ | refine bl_alloc ?_ | refine bl_drew ?_)
    all_goals (first | omega | (simp; done) | (simp; omega))

set_option maxHeartbeats 1600000 in
theorem lay_bad (W H : Int) (a : Option Addr) (cap : Nat) (zs : List Int) (c : Value) (w : World) (hr : Row w a zs) (hc : cellsB W H zs = false) :
    Calls Tryd.prog 21 #[.agg #[.int .i64 W, .int .i64 H, .slice a zs.length cap, c]] w fun e w' => e = .returned (.tuple #[.agg #[.slice none 0 0, .map none, .map none], .bool false]) ∧ Below w.heap.size w w' := by
  have HR : Hid (Row w a zs) := hr
  clear hr
  cases hW : sideB W
  · go_enter Tryd.func21, Tryd.ntmps21
    go_wp2_with (go_at_call 47; refine (maySide_any _ _).mono ?_; rintro e w' ⟨rfl, rfl⟩)
    refine bodyPost_ret (v := .tuple #[.agg #[.slice none 0 0, .map none, .map none], .bool false]) ?_ rfl ⟨rfl, ?_⟩
    · simp [results, Tryd.results21, go_sem]
    · with_reducible repeat' (first | exact bl_refl _ | refine bl_alloc ?_)
  cases hH : sideB H
  · go_enter Tryd.func21, Tryd.ntmps21
    go_wp2_with (go_at_call 47; refine (maySide_any _ _).mono ?_; rintro e w' ⟨rfl, rfl⟩)
    refine bodyPost_ret (v := .tuple #[.agg #[.slice none 0 0, .map none, .map none], .bool false]) ?_ rfl ⟨rfl, ?_⟩
    · simp [results, Tryd.results21, go_sem]
    · with_reducible repeat' (first | exact bl_refl _ | refine bl_alloc ?_)
  by_cases hl : (zs.length : Int) = W * H
  · have hm : maskB zs = false := by
      have := hc
      simp only [cellsB, hW, hH, decide_eq_true hl] at this
      simpa using this
    have HM : Hid (∀ W' : World, Below w.heap.size w W' → Calls Tryd.prog 48 #[.agg #[.int .i64 W, .int .i64 H, .slice a zs.length cap, c]] W' fun e w' => e = .returned (.bool false) ∧ ∃ o, w' = W'.alloc o) := fun W' hW' => hm ▸ mayMask_any W H a cap zs c W' hW hH (HR.out.kept hW') hl
    clear hm hl hc
    go_enter Tryd.func21, Tryd.ntmps21
    go_wp2_with (first | (go_at_call 47; refine (maySide_any _ _).mono ?_; rintro e w' ⟨rfl, rfl⟩) | (go_at_call 48; refine (HM.out _ (by with_reducible exact bl_alloc (bl_alloc (bl_refl _)))).mono ?_; rintro e w' ⟨rfl, o, rfl⟩))
    refine bodyPost_ret (v := .tuple #[.agg #[.slice none 0 0, .map none, .map none], .bool false]) ?_ rfl ⟨rfl, ?_⟩
    · simp [results, Tryd.results21, go_sem]
    · with_reducible repeat' (first | exact bl_refl _ | refine bl_alloc ?_)
  · have HM : Hid (∀ W' : World, Calls Tryd.prog 48 #[.agg #[.int .i64 W, .int .i64 H, .slice a zs.length cap, c]] W' fun e w' => e = .returned (.bool false) ∧ ∃ o, w' = W'.alloc o) := fun W' => mayMask_len W H a cap zs c W' hW hH hl
    clear hl hc
    go_enter Tryd.func21, Tryd.ntmps21
    go_wp2_with (first | (go_at_call 47; refine (maySide_any _ _).mono ?_; rintro e w' ⟨rfl, rfl⟩) | (go_at_call 48; refine (HM.out _).mono ?_; rintro e w' ⟨rfl, o, rfl⟩))
    refine bodyPost_ret (v := .tuple #[.agg #[.slice none 0 0, .map none, .map none], .bool false]) ?_ rfl ⟨rfl, ?_⟩
    · simp [results, Tryd.results21, go_sem]
    · with_reducible repeat' (first | exact bl_refl _ | refine bl_alloc ?_)

set_option maxHeartbeats 1600000 in
theorem sheetMay_bad (W H : Int) (a : Option Addr) (cap : Nat) (zs : List Int) (c : Value) (w : World) (hr : Row w a zs) (hc : cellsB W H zs = false) :
    Calls Tryd.prog 10 #[.agg #[.int .i64 W, .int .i64 H, .slice a zs.length cap, c]] w fun e w' => e = .returned (.bool false) ∧ Below w.heap.size w w' := by
  have HC : Hid (∀ W' : World, Below w.heap.size w W' → Calls Tryd.prog 25 #[.agg #[.int .i64 W, .int .i64 H, .slice a zs.length cap, c]] W' fun e w' => e = .returned (.bool false) ∧ ∃ o, w' = W'.alloc o) := fun W' hW' => hc ▸ cellsMay_any W H a cap zs c W' (hr.kept hW')
  clear hr hc
  go_enter Tryd.func10, Tryd.ntmps10
  go_wp2_with (go_at_call 25; refine (HC.out _ (by with_reducible exact bl_alloc (bl_refl _))).mono ?_; rintro e w2 ⟨rfl, o, rfl⟩)
  go_ret
  exact ⟨rfl, bl_alloc (bl_alloc (bl_refl _))⟩
end Go.Proofs.YtoedcefbmbfnhabDoor

/- A drawn region that only reads, and whose callees leave all old memory alone: one walk in the order of the text serves every order. -/
namespace Go.Proofs.YtoedcefbmbfnhabDoor
open Go.RowKit

/-- The worlds that have all of W as it was. -/
structure Kin (W : World) where
  w : World
  h : Below W.heap.size W w
theorem Kin.cells (W : World) : ∀ (n : Kin W) (b o : Nat), b < W.heap.size → n.w.cell? ⟨b, o, none⟩ = W.cell? ⟨b, o, none⟩ := fun n b o hb => n.h.cell (p := ⟨b, o, none⟩) hb
theorem wp_region_kin {P : Program} {id : Nat} {Q : Exit → Act → World → Prop} {a : Act} {W : World} {l : List Oper} (hm : P.follows .mixedOrders = true) (hB : Region.lexB .any l.toArray = true)
    (h : wpQuiet P l.toArray (fun w' => ∃ n : Kin W, w' = n.w) (fun a' => ∀ w', (∃ n : Kin W, w' = n.w) → Q .normal a' w') l a) : (Code.region id l.toArray true).wp P Q a W :=
  wp_region_quiet (C := fun w' => ∃ n : Kin W, w' = n.w) hm hB ⟨⟨W.drew, bl_drew (bl_refl _)⟩, rfl⟩ (by simpa using h)
theorem kin_of {P : Program} {f : FuncId} {args : Array Value} {W : World} {n : Kin W} {v : Value}
    (h : Calls P f args n.w fun e w' => e = .returned v ∧ Below n.w.heap.size n.w w') : Calls P f args n.w fun e w'' => e = .returned v ∧ ∃ m : Kin W, w'' = m.w :=
  h.mono fun _ w' ⟨he, hb⟩ => ⟨he, ⟨w', bl_via n.h hb⟩, rfl⟩
/-- The world of a walk gets a name. -/
theorem wp_named {P : Program} {c : Code} {Q : Exit → Act → World → Prop} {a : Act} {w : World} (h : ∀ W, W = w → c.wp P Q a W) : c.wp P Q a w := h w rfl
end Go.Proofs.YtoedcefbmbfnhabDoor

/- May a sheet be, whose cells may be? The reference's way. -/
namespace Go.Proofs.YtoedcefbmbfnhabDoor
open Go.RowKit

/-- A crease's numbers. -/
def ck (ks : List Int) (i j : Nat) : Int := ks.getD (i * 5 + j) 0
/-- May the crease i be? -/
def CrOk (l : List (Int × Int × Int)) (ks : List Int) (i : Nat) : Prop :=
  (0 < i → lessE (ck ks (i - 1) 0) (ck ks (i - 1) 1) (ck ks (i - 1) 2) (ck ks (i - 1) 3) (ck ks i 0) (ck ks i 1) (ck ks i 2) (ck ks i 3) = true) ∧ (ck ks i 4 = 1 ∨ ck ks i 4 = 2) ∧ cnt l (ck ks i 0) (ck ks i 1) (ck ks i 2) (ck ks i 3) = 2
/-- Creases in a row of memory, as a slice has them. -/
def CRow (w : World) (cb : Option Addr) (ks : List Int) (n : Nat) : Prop :=
  ∀ i, i < n → ∃ bb bo, cb = some ⟨bb, bo, none⟩ ∧ w.cell? ⟨bb, bo + i * 5, none⟩ = some (.int .i64 (ck ks i 0)) ∧ w.cell? ⟨bb, bo + i * 5 + 1, none⟩ = some (.int .i64 (ck ks i 1)) ∧ w.cell? ⟨bb, bo + i * 5 + 2, none⟩ = some (.int .i64 (ck ks i 2)) ∧ w.cell? ⟨bb, bo + i * 5 + 3, none⟩ = some (.int .i64 (ck ks i 3)) ∧ w.cell? ⟨bb, bo + i * 5 + 4, none⟩ = some (.int .i64 (ck ks i 4))
theorem row_crow {w : World} {cb : Option Addr} {ks : List Int} {n : Nat} (h : Row w cb ks) (hn : ks.length = n * 5) : CRow w cb ks n := fun i hi => by
  have h0 : i * 5 + 4 < ks.length := by omega
  obtain ⟨bb, bo, rfl, c0⟩ := h (i * 5) (by omega)
  refine ⟨bb, bo, rfl, ?_⟩
  have key : ∀ j, j < 5 → w.cell? ⟨bb, bo + i * 5 + j, none⟩ = some (.int .i64 (ck ks i j)) := fun j hj => by
    obtain ⟨b', o', e, hc⟩ := h (i * 5 + j) (by omega)
    simp only [Option.some.injEq, Addr.mk.injEq, and_true] at e
    obtain ⟨rfl, rfl⟩ := e
    rw [Nat.add_assoc, hc]
    simp [ck, show i * 5 + j < ks.length by omega]
  exact ⟨key 0 (by omega), key 1 (by omega), key 2 (by omega), key 3 (by omega), key 4 (by omega)⟩
theorem CRow.kept {w wx : World} {cb : Option Addr} {ks : List Int} {n : Nat} (h : CRow w cb ks n) (hb : Below w.heap.size w wx) : CRow wx cb ks n := fun i hi => by
  obtain ⟨bb, bo, e, h0, h1, h2, h3, h4⟩ := h i hi
  exact ⟨bb, bo, e, cl_kept hb h0, cl_kept hb h1, cl_kept hb h2, cl_kept hb h3, cl_kept hb h4⟩

set_option maxRecDepth 100000 in
set_option maxHeartbeats 6400000 in
theorem sheetMay_any (W H b off cap n ccap : Nat) (cb : Option Addr) (zs ks : List Int) (w : World) (hr : Row w (some ⟨b, off, none⟩) zs) (hW : 1 ≤ W ∧ W ≤ 8) (hH : 1 ≤ H ∧ H ≤ 8) (hl : zs.length = W * H) (hm : maskB zs = true) (hk : Row w cb ks) (hn : ks.length = n * 5) (hn2 : n ≤ 3518437208883) :
    Calls Tryd.prog 10 #[.agg #[.int .i64 (W : Int), .int .i64 (H : Int), .slice (some ⟨b, off, none⟩) zs.length cap, .slice cb n ccap]] w fun e w' => ∃ bb : Bool, e = .returned (.bool bb) ∧ (bb = true ↔ ((∀ i, i < n → CrOk (ty zs W H) ks i) ∧ Joined (ty zs W H))) ∧ Below w.heap.size w w' := by
  have hcb : cellsB (W : Int) (H : Int) zs = true := by
    have e1 : sideB (W : Int) = true := by simp [sideB]; omega
    have e2 : sideB (H : Int) = true := by simp [sideB]; omega
    have e3 : (zs.length : Int) = (W : Int) * (H : Int) := by rw [hl]; simp
    simp only [cellsB, e1, e2, decide_eq_true e3, hm]
    rfl
  have C74 : Hid (∀ W' : World, Below w.heap.size w W' → Calls Tryd.prog 25 #[.agg #[.int .i64 (W : Int), .int .i64 (H : Int), .slice (some ⟨b, off, none⟩) zs.length cap, .slice cb n ccap]] W' fun e w' => e = .returned (.bool true) ∧ ∃ o, w' = W'.alloc o) := fun W' hW' => hcb ▸ cellsMay_any W H (some ⟨b, off, none⟩) cap zs _ W' (hr.kept hW')
  have C77 : Hid (∀ W' : World, Below w.heap.size w W' → Calls Tryd.prog 28 #[.agg #[.int .i64 (W : Int), .int .i64 (H : Int), .slice (some ⟨b, off, none⟩) zs.length cap, .slice cb n ccap]] W' fun e w' => ∃ bb : Bool, e = .returned (.bool bb) ∧ (bb = true ↔ Joined (ty zs W H)) ∧ Below W'.heap.size W' w') := fun W' hW' => joinedSheet_any W H b off cap zs _ W' (hr.kept hW') hW hH hl hm
  have C76 : Hid (∀ (p q r s : Int) (W' : World), Below w.heap.size w W' → Calls Tryd.prog 27 #[.agg #[.int .i64 (W : Int), .int .i64 (H : Int), .slice (some ⟨b, off, none⟩) zs.length cap, .slice cb n ccap], .agg #[.int .i64 p, .int .i64 q, .int .i64 r, .int .i64 s]] W' fun e w' => e = .returned (.bool (decide (cnt (ty zs W H) p q r s = 2))) ∧ Below W'.heap.size W' w') := fun p q r s W' hW' => innerEdge_any W H b off cap zs _ p q r s W' (hr.kept hW') hW hH hl hm
  have HCR : Hid (CRow w cb ks n) := row_crow hk hn
  clear hr hl hm hW hH hk hn hcb
  obtain ⟨L, hL⟩ : ∃ L, L = ty zs W H := ⟨_, rfl⟩
  rw [← hL] at C77 C76 ⊢
  clear hL
  go_enter Tryd.func10, Tryd.ntmps10
  go_wp2_with (go_at_call 25; refine (C74.out _ (by with_reducible exact bl_alloc (bl_refl _))).mono ?_; rintro e w' ⟨rfl, o, rfl⟩)
  go_loopg [3] n (fun gk s3 wx => ∃ i : Nat, i ≤ n ∧ gk = n - i ∧ s3 = .int .i64 (i : Int) ∧ (∀ j, j < i → CrOk L ks j) ∧ Sh wx w.heap.size (.int .i64 (W : Int)) (.int .i64 (H : Int)) (.slice (some ⟨b, off, none⟩) zs.length cap) (.slice cb n ccap) ∧ Below w.heap.size w wx)
  case atStart => exact ⟨0, by omega, rfl, rfl, fun j h => by omega, by simp [Sh, go_sem], bl_alloc (bl_alloc (bl_refl _))⟩
  case round =>
    obtain ⟨i, hi, rfl, rfl, hp, hS, hB⟩ := hrel
    have HP : Hid (∀ j, j < i → CrOk L ks j) := hp
    have HS : Hid (Sh wr w.heap.size (.int .i64 (W : Int)) (.int .i64 (H : Int)) (.slice (some ⟨b, off, none⟩) zs.length cap) (.slice cb n ccap) ∧ Below w.heap.size w wr) := ⟨hS, hB⟩
    obtain ⟨s0, s1, s2, s3⟩ := hS
    have zs0 : w.heap.size < wr.heap.size := World.block_lt_of_cell? _ _ s0
    clear hp hB
    by_cases h1 : i < n
    · have i1 : (i : Int) < (n : Int) := by omega
      have i0 : (0 : Int) ≤ (i : Int) := by omega
      obtain ⟨bb, bo, rfl, c0, c1, c2, c3, c4⟩ := (HCR.out.kept HS.out.2) i h1
      have zb : bb < wr.heap.size := World.block_lt_of_cell? _ _ c0
      go_wp2
      go_cut [51] (fun s51 wx => ∃ bad : Bool, s51 = .bool bad ∧ (bad = true ↔ ¬ CrOk L ks i) ∧ Below wr.heap.size wr wx)
      case first =>
        refine wp_named (fun W0 hW0 => ?_)
        have hB0 : Below wr.heap.size wr W0 := by rw [hW0]; exact bl_alloc (bl_refl _)
        have HB0 : Hid (Below wr.heap.size wr W0) := hB0
        have HSB : Hid (Below w.heap.size w W0) := bl_via HS.out.2 hB0
        have a0 : W0.cell? ⟨w.heap.size, 0, none⟩ = some (.int .i64 (W : Int)) := cl_kept hB0 s0
        have a1 : W0.cell? ⟨w.heap.size, 1, none⟩ = some (.int .i64 (H : Int)) := cl_kept hB0 s1
        have a2 : W0.cell? ⟨w.heap.size, 2, none⟩ = some (.slice (some ⟨b, off, none⟩) zs.length cap) := cl_kept hB0 s2
        have a3 : W0.cell? ⟨w.heap.size, 3, none⟩ = some (.slice (some ⟨bb, bo, none⟩) n ccap) := cl_kept hB0 s3
        have t0 : W0.cell? ⟨wr.heap.size, 0, none⟩ = some (.int .i64 (ck ks i 0)) := by rw [hW0]; simp [go_sem]
        have t1 : W0.cell? ⟨wr.heap.size, 1, none⟩ = some (.int .i64 (ck ks i 1)) := by rw [hW0]; simp [go_sem]
        have t2 : W0.cell? ⟨wr.heap.size, 2, none⟩ = some (.int .i64 (ck ks i 2)) := by rw [hW0]; simp [go_sem]
        have t3 : W0.cell? ⟨wr.heap.size, 3, none⟩ = some (.int .i64 (ck ks i 3)) := by rw [hW0]; simp [go_sem]
        have t4 : W0.cell? ⟨wr.heap.size, 4, none⟩ = some (.int .i64 (ck ks i 4)) := by rw [hW0]; simp [go_sem]
        have z0 : w.heap.size < W0.heap.size := World.block_lt_of_cell? _ _ a0
        have z1 : wr.heap.size < W0.heap.size := World.block_lt_of_cell? _ _ t0
        have z2 : bb < W0.heap.size := Nat.lt_of_lt_of_le zb hB0.size
        have HPR : Hid (CRow W0 (some ⟨bb, bo, none⟩) ks n) := HCR.out.kept HSB.out
        have kc := Kin.cells W0
        have kn : Nonempty (Kin W0) := ⟨⟨W0, bl_refl _⟩⟩
        clear hB0 hW0 s0 s1 s2 s3 c0 c1 c2 c3 c4 zs0 zb
        by_cases hi0 : i = 0
        · have q0 : ¬ (0 : Int) < (i : Int) := by omega
          have HI0 : Hid (i = 0) := hi0
          have q1 : ¬ 0 < i := by omega
          clear hi0
          by_cases k1 : (ck ks i 4) = 1
          · refine wp_region_kin (by kernel_rfl) (by kernel_rfl) ?_
            repeat (go_big_quiet_step ((first | (go_at_call 26; exact kin_of (lessEdge_any _ _ _ _ _ _ _ _ _)) | (go_at_call 27; exact kin_of (C76.out _ _ _ _ _ (bl_via HSB.out (Kin.h _)))))))
            refine wpQuiet_nil ?_
            intro wq hw'
            obtain ⟨nq, hw''⟩ := hw'
            have hq : Below W0.heap.size W0 wq := hw'' ▸ nq.h
            clear hw'' nq
            have HQ : Hid (Below wr.heap.size wr wq) := bl_via HB0.out hq
            clear hq
            go_wp2
            go_meet
            case rel => exact ⟨_, rfl, by simp only [Bool.not_eq_true', decide_eq_false_iff_not]; exact ⟨fun h hc => h hc.2.2, fun h hc => h ⟨fun h => absurd h (by have := HI0.out; omega), Or.inl k1, hc⟩⟩, HQ.out⟩
          · by_cases k2 : (ck ks i 4) = 2
            · refine wp_region_kin (by kernel_rfl) (by kernel_rfl) ?_
              repeat (go_big_quiet_step ((first | (go_at_call 26; exact kin_of (lessEdge_any _ _ _ _ _ _ _ _ _)) | (go_at_call 27; exact kin_of (C76.out _ _ _ _ _ (bl_via HSB.out (Kin.h _)))))))
              refine wpQuiet_nil ?_
              intro wq hw'
              obtain ⟨nq, hw''⟩ := hw'
              have hq : Below W0.heap.size W0 wq := hw'' ▸ nq.h
              clear hw'' nq
              have HQ : Hid (Below wr.heap.size wr wq) := bl_via HB0.out hq
              clear hq
              go_wp2
              go_meet
              case rel => exact ⟨_, rfl, by simp only [Bool.not_eq_true', decide_eq_false_iff_not]; exact ⟨fun h hc => h hc.2.2, fun h hc => h ⟨fun h => absurd h (by have := HI0.out; omega), Or.inr k2, hc⟩⟩, HQ.out⟩
            · have k1b : ((ck ks i 4) != 1) = true := by simpa using k1
              have k2b : ((ck ks i 4) != 2) = true := by simpa using k2
              refine wp_region_kin (by kernel_rfl) (by kernel_rfl) ?_
              repeat (go_big_quiet_step ((first | (go_at_call 26; exact kin_of (lessEdge_any _ _ _ _ _ _ _ _ _)) | (go_at_call 27; exact kin_of (C76.out _ _ _ _ _ (bl_via HSB.out (Kin.h _)))))))
              refine wpQuiet_nil ?_
              intro wq hw'
              obtain ⟨nq, hw''⟩ := hw'
              have hq : Below W0.heap.size W0 wq := hw'' ▸ nq.h
              clear hw'' nq
              have HQ : Hid (Below wr.heap.size wr wq) := bl_via HB0.out hq
              clear hq
              go_wp2
              go_meet
              case rel => exact ⟨_, rfl, ⟨fun _ hc => by rcases hc.2.1 with h | h <;> contradiction, fun _ => rfl⟩, HQ.out⟩

        · have q0 : (0 : Int) < (i : Int) := by omega
          have q1 : 0 < i := by omega
          clear hi0
          obtain ⟨m, hm⟩ : ∃ m, i = m + 1 := ⟨i - 1, by omega⟩
          have hmi : (i : Int) - 1 = (m : Int) := by omega
          have m1 : (m : Int) < (n : Int) := by omega
          have m0 : (0 : Int) ≤ (m : Int) := by omega
          obtain ⟨bb', bo', e', p0, p1, p2, p3, _⟩ := HPR.out m (by omega)
          simp only [Option.some.injEq, Addr.mk.injEq, and_true] at e'
          obtain ⟨rfl, rfl⟩ := e'
          have HM : Hid (i - 1 = m) := by show i - 1 = m; omega
          cases hless : lessE (ck ks m 0) (ck ks m 1) (ck ks m 2) (ck ks m 3) (ck ks i 0) (ck ks i 1) (ck ks i 2) (ck ks i 3)
          · have HL : Hid (¬ CrOk L ks i) := fun h => by
              have := h.1 (by omega)
              rw [HM.out, hless] at this
              exact Bool.noConfusion this
            clear hm
            refine wp_region_kin (by kernel_rfl) (by kernel_rfl) ?_
            repeat (go_big_quiet_step ((first | (go_at_call 26; exact kin_of (lessEdge_any _ _ _ _ _ _ _ _ _)) | (go_at_call 27; exact kin_of (C76.out _ _ _ _ _ (bl_via HSB.out (Kin.h _)))))))
            refine wpQuiet_nil ?_
            intro wq hw'
            obtain ⟨nq, hw''⟩ := hw'
            have hq : Below W0.heap.size W0 wq := hw'' ▸ nq.h
            clear hw'' nq
            have HQ : Hid (Below wr.heap.size wr wq) := bl_via HB0.out hq
            clear hq
            go_wp2
            go_meet
            case rel => exact ⟨_, rfl, ⟨fun _ => HL.out, fun _ => rfl⟩, HQ.out⟩
          · have HL : Hid (0 < i → lessE (ck ks (i - 1) 0) (ck ks (i - 1) 1) (ck ks (i - 1) 2) (ck ks (i - 1) 3) (ck ks i 0) (ck ks i 1) (ck ks i 2) (ck ks i 3) = true) := fun _ => by rw [HM.out]; exact hless
            clear hm
            by_cases k1 : (ck ks i 4) = 1
            · refine wp_region_kin (by kernel_rfl) (by kernel_rfl) ?_
              repeat (go_big_quiet_step ((first | (go_at_call 26; exact kin_of (lessEdge_any _ _ _ _ _ _ _ _ _)) | (go_at_call 27; exact kin_of (C76.out _ _ _ _ _ (bl_via HSB.out (Kin.h _)))))))
              refine wpQuiet_nil ?_
              intro wq hw'
              obtain ⟨nq, hw''⟩ := hw'
              have hq : Below W0.heap.size W0 wq := hw'' ▸ nq.h
              clear hw'' nq
              have HQ : Hid (Below wr.heap.size wr wq) := bl_via HB0.out hq
              clear hq
              go_wp2
              go_meet
              case rel => exact ⟨_, rfl, by simp only [Bool.not_eq_true', decide_eq_false_iff_not]; exact ⟨fun h hc => h hc.2.2, fun h hc => h ⟨HL.out, Or.inl k1, hc⟩⟩, HQ.out⟩
            · by_cases k2 : (ck ks i 4) = 2
              · refine wp_region_kin (by kernel_rfl) (by kernel_rfl) ?_
                repeat (go_big_quiet_step ((first | (go_at_call 26; exact kin_of (lessEdge_any _ _ _ _ _ _ _ _ _)) | (go_at_call 27; exact kin_of (C76.out _ _ _ _ _ (bl_via HSB.out (Kin.h _)))))))
                refine wpQuiet_nil ?_
                intro wq hw'
                obtain ⟨nq, hw''⟩ := hw'
                have hq : Below W0.heap.size W0 wq := hw'' ▸ nq.h
                clear hw'' nq
                have HQ : Hid (Below wr.heap.size wr wq) := bl_via HB0.out hq
                clear hq
                go_wp2
                go_meet
                case rel => exact ⟨_, rfl, by simp only [Bool.not_eq_true', decide_eq_false_iff_not]; exact ⟨fun h hc => h hc.2.2, fun h hc => h ⟨HL.out, Or.inr k2, hc⟩⟩, HQ.out⟩
              · have k1b : ((ck ks i 4) != 1) = true := by simpa using k1
                have k2b : ((ck ks i 4) != 2) = true := by simpa using k2
                refine wp_region_kin (by kernel_rfl) (by kernel_rfl) ?_
                repeat (go_big_quiet_step ((first | (go_at_call 26; exact kin_of (lessEdge_any _ _ _ _ _ _ _ _ _)) | (go_at_call 27; exact kin_of (C76.out _ _ _ _ _ (bl_via HSB.out (Kin.h _)))))))
                refine wpQuiet_nil ?_
                intro wq hw'
                obtain ⟨nq, hw''⟩ := hw'
                have hq : Below W0.heap.size W0 wq := hw'' ▸ nq.h
                clear hw'' nq
                have HQ : Hid (Below wr.heap.size wr wq) := bl_via HB0.out hq
                clear hq
                go_wp2
                go_meet
                case rel => exact ⟨_, rfl, ⟨fun _ hc => by rcases hc.2.1 with h | h <;> contradiction, fun _ => rfl⟩, HQ.out⟩

      case rest =>
        obtain ⟨bad, rfl, hbad, hBc⟩ := hcut
        have HV : Hid ((bad = true ↔ ¬ CrOk L ks i) ∧ Sh wc w.heap.size (.int .i64 (W : Int)) (.int .i64 (H : Int)) (.slice (some ⟨b, off, none⟩) zs.length cap) (.slice (some ⟨bb, bo, none⟩) n ccap) ∧ Below w.heap.size w wc) := ⟨hbad, HS.out.1.kept hBc, bl_via HS.out.2 hBc⟩
        clear hbad hBc
        cases bad
        · go_wp2
          go_roundg (n - (i + 1))
          case measure => omega
          case rel =>
            refine ⟨i + 1, by omega, rfl, by go_num, fun j hj => ?_, HV.out.2.1, HV.out.2.2⟩
            by_cases ej : j = i
            · subst ej
              exact Classical.byContradiction fun h => Bool.noConfusion (HV.out.1.2 h)
            · exact HP.out j (by omega)
        · go_wp2
          go_ret
          exact Or.inl ⟨rfl, fun h => absurd (h i h1) (HV.out.1.1 (by simp)), HV.out.2.2⟩
    · have i1 : ¬ (i : Int) < (n : Int) := by omega
      have HA : Hid (∀ j, j < n → CrOk L ks j) := fun j hj => HP.out j (by omega)
      go_wp2_with (go_at_call 28; refine (C77.out _ HS.out.2).mono ?_; rintro e w2 ⟨bv, rfl, hbv, hb⟩; have HV : Hid ((bv = true ↔ Joined L) ∧ Below w.heap.size w w2) := ⟨hbv, bl_via HS.out.2 hb⟩; clear hbv hb)
      go_ret
      exact ⟨bv, rfl, ⟨fun h => ⟨HA.out, HV.out.1.1 h⟩, fun h => HV.out.1.2 h.2⟩, HV.out.2⟩
end Go.Proofs.YtoedcefbmbfnhabDoor

/- Maps whose keys are edges: what a look-up, an entry, a store do. -/
namespace Go.Proofs.YtoedcefbmbfnhabDoor
open Go.RowKit Go.ChangeMaps

/-- An edge as a key. -/
def ek (e : Int × Int × Int × Int) : Value := .agg #[.int .i64 e.1, .int .i64 e.2.1, .int .i64 e.2.2.1, .int .i64 e.2.2.2]
/-- An entry: its key, its value, its stamp. -/
def toE (x : (Int × Int × Int × Int) × Value × Nat) : MapEntry := ⟨ek x.1, x.2.1, x.2.2⟩

theorem equal27 (a b : Int × Int × Int × Int) (w : World) : (Op.equal 71 (ek a) (ek b)).run Tryd.prog w = .ok (decide (a = b)) w := by
  obtain ⟨a0, a1, a2, a3⟩ := a
  obtain ⟨b0, b1, b2, b3⟩ := b
  have h := eql27 a0 a1 a2 a3 b0 b1 b2 b3 w
  have e : sameB a0 a1 a2 a3 b0 b1 b2 b3 = decide ((a0, a1, a2, a3) = (b0, b1, b2, b3)) := by simp [sameB]
  rw [e] at h
  unfold ek
  simp only [binOp, Sem.run_bind, Sem.run_pure] at h
  cases hr : (Op.equal 71 (.agg #[.int .i64 a0, .int .i64 a1, .int .i64 a2, .int .i64 a3]) (.agg #[.int .i64 b0, .int .i64 b1, .int .i64 b2, .int .i64 b3])).run Tryd.prog w with
  | ok r w1 =>
    rw [hr] at h
    simpa [Result.andThen] using h
  | halt x w1 =>
    rw [hr] at h
    simp [Result.andThen] at h
theorem checkInt (em : Bool) (n : Nat) (a : Int) (w : World) : (Instr.checkKey em (n + 1) 3 (.int .i64 a)).run Tryd.prog w = .ok () w := by
  simp [Instr.checkKey, run_underlying Tryd.underlying3, Result.andThen]
theorem check25 (em : Bool) (n : Nat) (a b : Int) (w : World) : (Instr.checkKey em (n + 2) 43 (.agg #[.int .i64 a, .int .i64 b])).run Tryd.prog w = .ok () w := by
  rw [show n + 2 = (n + 1) + 1 by omega]
  unfold Instr.checkKey
  simp [run_underlying Tryd.underlying43, go_sem, checkInt]
theorem check27a (em : Bool) (n : Nat) (a b c d : Int) (w : World) : (Instr.checkKey em (n + 3) 71 (.agg #[.int .i64 a, .int .i64 b, .int .i64 c, .int .i64 d])).run Tryd.prog w = .ok () w := by
  rw [show n + 3 = (n + 2) + 1 by omega]
  unfold Instr.checkKey
  simp [run_underlying Tryd.underlying71, go_sem, check25]
theorem check27 (em : Bool) (a : Int × Int × Int × Int) (w : World) : (Instr.checkKey em 10000 71 (ek a)).run Tryd.prog w = .ok () w := check27a em 9997 _ _ _ _ w
theorem stays27 (a : Int × Int × Int × Int) (w : World) : (Instr.keyThatStays (ek a) (ek a)).run Tryd.prog w = .ok (ek a) w := by
  have : Instr.sameBits 10000 (ek a) (ek a) = true := by
    unfold ek
    show Instr.sameBits (9999 + 1) _ _ = true
    simp [Instr.sameBits]
  simp [Instr.keyThatStays, this]
theorem find27 (k : Int × Int × Int × Int) (w : World) : ∀ (ls : List ((Int × Int × Int × Int) × Value × Nat)) (i : Nat),
    ((Instr.findAsking 71 (ek k) (ls.map toE) i).run Tryd.prog w = .ok none w ∧ ∀ x ∈ ls, x.1 ≠ k) ∨
    ∃ j x, (Instr.findAsking 71 (ek k) (ls.map toE) i).run Tryd.prog w = .ok (some (i + j, x.2.1)) w ∧ ls[j]? = some x ∧ x.1 = k
  | [], i => Or.inl ⟨by simp [Instr.findAsking], by simp⟩
  | x :: r, i => by
    by_cases h : k = x.1
    · refine Or.inr ⟨0, x, ?_, rfl, h.symm⟩
      have hq := equal27 k x.1 w
      rw [decide_eq_true h] at hq
      rw [List.map_cons]
      simp only [Instr.findAsking, toE, Sem.run_bind, hq, Result.andThen]
      rfl
    · have hq := equal27 k x.1 w
      rw [decide_eq_false h] at hq
      rcases find27 k w r (i + 1) with ⟨h1, h2⟩ | ⟨j, y, h1, h2, h3⟩
      · refine Or.inl ⟨?_, ?_⟩
        · rw [List.map_cons]
          simp only [Instr.findAsking, toE, Sem.run_bind, hq, Result.andThen]
          exact h1
        · intro y hy
          rcases List.mem_cons.1 hy with rfl | hy
          · exact fun e => h e.symm
          · exact h2 y hy
      · refine Or.inr ⟨j + 1, y, ?_, by simpa using h2, h3⟩
        rw [List.map_cons]
        simp only [Instr.findAsking, toE, Sem.run_bind, hq, Result.andThen]
        rw [show i + (j + 1) = i + 1 + j by omega]
        exact h1
end Go.Proofs.YtoedcefbmbfnhabDoor

/- A map whose keys are edges, as it lies in memory. -/
namespace Go.Proofs.YtoedcefbmbfnhabDoor
open Go.RowKit Go.ChangeMaps

/-- The map's object. -/
def EM (w : World) (r : Nat) (ls : List ((Int × Int × Int × Int) × Value × Nat)) (clock : Nat) : Prop := w.heap[r]? = some (.map (ls.map toE).toArray clock)
/-- Each key once, each stamp once, all of them old. -/
def Good (ls : List ((Int × Int × Int × Int) × Value × Nat)) (clock : Nat) : Prop := (ls.map (fun x => x.1)).Nodup ∧ (ls.map (fun x => x.2.2)).Nodup ∧ ∀ x ∈ ls, x.2.2 < clock
/-- What is at a key. -/
def lk : List ((Int × Int × Int × Int) × Value × Nat) → Int × Int × Int × Int → Option Value
  | [], _ => none
  | x :: r, k => if x.1 = k then some x.2.1 else lk r k
theorem lk_not {k : Int × Int × Int × Int} : ∀ {ls : List ((Int × Int × Int × Int) × Value × Nat)}, (∀ x ∈ ls, x.1 ≠ k) → lk ls k = none
  | [], _ => rfl
  | x :: r, h => by simp [lk, h x (by simp), lk_not (ls := r) (fun y hy => h y (by simp [hy]))]
theorem lk_none {k : Int × Int × Int × Int} : ∀ {ls : List ((Int × Int × Int × Int) × Value × Nat)}, lk ls k = none → ∀ x ∈ ls, x.1 ≠ k
  | [], _ => by simp
  | x :: r, h => by
    unfold lk at h
    split at h
    · cases h
    · rename_i hx
      intro y hy
      rcases List.mem_cons.1 hy with rfl | hy
      · exact hx
      · exact lk_none h y hy
theorem lk_at {k : Int × Int × Int × Int} : ∀ {ls : List ((Int × Int × Int × Int) × Value × Nat)} {j : Nat} {x : (Int × Int × Int × Int) × Value × Nat}, (ls.map (fun x => x.1)).Nodup → ls[j]? = some x → x.1 = k → lk ls k = some x.2.1
  | [], _, _, _, h, _ => by simp at h
  | y :: r, 0, x, _, h, hk => by
    simp at h
    subst h
    simp [lk, hk]
  | y :: r, j + 1, x, hn, h, hk => by
    simp only [List.getElem?_cons_succ] at h
    simp only [List.map_cons, List.nodup_cons] at hn
    have hne : y.1 ≠ k := fun e => hn.1 (List.mem_map.2 ⟨x, List.mem_of_getElem? h, hk.trans e.symm⟩)
    simp [lk, hne, lk_at hn.2 h hk]
theorem lk_mem {k : Int × Int × Int × Int} {v : Value} : ∀ {ls : List ((Int × Int × Int × Int) × Value × Nat)}, lk ls k = some v → ∃ b, (k, v, b) ∈ ls
  | [], h => by simp [lk] at h
  | y :: r, h => by
    unfold lk at h
    split at h
    · rename_i e
      simp at h
      subst h
      subst e
      exact ⟨y.2.2, by simp⟩
    · obtain ⟨b, hb⟩ := lk_mem h
      exact ⟨b, by simp [hb]⟩
theorem lk_push {ls : List ((Int × Int × Int × Int) × Value × Nat)} {k j : Int × Int × Int × Int} {v : Value} {c : Nat} (h : ∀ x ∈ ls, x.1 ≠ k) : lk (ls ++ [(k, v, c)]) j = if j = k then some v else lk ls j := by
  induction ls with
  | nil => by_cases e : j = k
           · simp [lk, e]
           · have e' : ¬ k = j := fun h => e h.symm
             simp [lk, e, e']
  | cons y r ih =>
    have ih := ih (fun x hx => h x (by simp [hx]))
    simp only [List.cons_append, lk, ih]
    by_cases e : j = k
    · subst e
      simp [h y (by simp)]
    · simp [e]
theorem lk_set : ∀ {ls : List ((Int × Int × Int × Int) × Value × Nat)} {i : Nat} {x : (Int × Int × Int × Int) × Value × Nat} {k j : Int × Int × Int × Int} {v : Value}, (ls.map (fun x => x.1)).Nodup → ls[i]? = some x → x.1 = k → lk (ls.set i (k, v, x.2.2)) j = if j = k then some v else lk ls j
  | [], _, _, _, _, _, _, h, _ => by simp at h
  | y :: r, 0, x, k, j, v, _, h, hk => by
    simp at h
    subst h
    by_cases e : j = k
    · simp [lk, e]
    · have e' : ¬ k = j := fun h => e h.symm
      simp [lk, e, hk, e']
  | y :: r, i + 1, x, k, j, v, hn, h, hk => by
    simp only [List.getElem?_cons_succ] at h
    simp only [List.map_cons, List.nodup_cons] at hn
    have hne : y.1 ≠ k := fun e => hn.1 (List.mem_map.2 ⟨x, List.mem_of_getElem? h, hk.trans e.symm⟩)
    have ih := lk_set (j := j) (v := v) hn.2 h hk
    simp only [List.set_cons_succ, lk, ih]
    by_cases e : j = k
    · subst e
      simp [hne]
    · simp [e]
theorem set_keys {ls : List ((Int × Int × Int × Int) × Value × Nat)} {i : Nat} {x : (Int × Int × Int × Int) × Value × Nat} (h : ls[i]? = some x) (v : Value) : (ls.set i (x.1, v, x.2.2)).map (fun x => x.1) = ls.map (fun x => x.1) ∧ (ls.set i (x.1, v, x.2.2)).map (fun x => x.2.2) = ls.map (fun x => x.2.2) := by
  constructor
  · rw [List.map_set]
    exact WideElems.set_self _ _ _ (by simp [h])
  · rw [List.map_set]
    exact WideElems.set_self _ _ _ (by simp [h])
theorem good_push {ls : List ((Int × Int × Int × Int) × Value × Nat)} {clock : Nat} {k : Int × Int × Int × Int} {v : Value} (hg : Good ls clock) (h : ∀ x ∈ ls, x.1 ≠ k) : Good (ls ++ [(k, v, clock)]) (clock + 1) := by
  obtain ⟨g1, g2, g3⟩ := hg
  refine ⟨?_, ?_, ?_⟩
  · rw [List.map_append, List.nodup_append]
    refine ⟨g1, by simp, fun a ha b hb => ?_⟩
    obtain ⟨x, hx, rfl⟩ := List.mem_map.1 ha
    simp at hb
    subst hb
    exact h x hx
  · rw [List.map_append, List.nodup_append]
    refine ⟨g2, by simp, fun a ha b hb => ?_⟩
    obtain ⟨x, hx, rfl⟩ := List.mem_map.1 ha
    simp at hb
    subst hb
    have := g3 x hx
    omega
  · intro x hx
    rcases List.mem_append.1 hx with hx | hx
    · have := g3 x hx
      omega
    · simp at hx
      subst hx
      simp
theorem good_set {ls : List ((Int × Int × Int × Int) × Value × Nat)} {clock i : Nat} {x : (Int × Int × Int × Int) × Value × Nat} (hg : Good ls clock) (h : ls[i]? = some x) (v : Value) : Good (ls.set i (x.1, v, x.2.2)) clock := by
  obtain ⟨g1, g2, g3⟩ := hg
  have hk := set_keys h v
  refine ⟨hk.1 ▸ g1, hk.2 ▸ g2, fun y hy => ?_⟩
  have : y.2.2 ∈ (ls.set i (x.1, v, x.2.2)).map (fun x => x.2.2) := List.mem_map.2 ⟨y, hy, rfl⟩
  rw [hk.2] at this
  obtain ⟨z, hz, e⟩ := List.mem_map.1 this
  have := g3 z hz
  omega

theorem findKey27 (x : Value) (es : List MapEntry) (w : World) : (Instr.findKey 71 x es).run Tryd.prog w = (Instr.findAsking 71 x es).run Tryd.prog w := by
  cases es with
  | nil => simp [Instr.findKey, run_underlying Tryd.underlying71, Instr.findNow, Instr.findAsking]
  | cons e es => simp [Instr.findKey, run_underlying Tryd.underlying71, Instr.findNow, Instr.sameNow]

theorem lookup27 {T E : TypeId} {z : Value} (ht : Tryd.prog.underlying T = some (.map 71 E)) (hz : ∀ u : World, (zeroValue E).run Tryd.prog u = .ok z u) {w : World} {r : Nat} {ls : List ((Int × Int × Int × Int) × Value × Nat)} {clock : Nat} (h : EM w r ls clock) (hg : Good ls clock) (k : Int × Int × Int × Int) :
    (Instr.lookup T (.map (some r)) (ek k) false).run Tryd.prog w = .ok ((lk ls k).getD z) w := by
  unfold EM at h
  have hf := fun em => check27 em k w
  rcases find27 k w ls 0 with ⟨h1, h2⟩ | ⟨j, x, h1, h2, h3⟩
  · rw [lk_not h2]
    have h1' : (Instr.findKey 71 (ek k) (ls.map toE)).run Tryd.prog w = .ok none w := (findKey27 _ _ _).trans h1
    simp [Instr.lookup, run_underlying ht, MapKept.run_getObj_map h, hf, h1', hz, Result.andThen]
  · rw [lk_at hg.1 h2 h3]
    have h1' : (Instr.findKey 71 (ek k) (ls.map toE)).run Tryd.prog w = .ok (some (j, x.2.1)) w := (findKey27 _ _ _).trans (by simpa using h1)
    simp [Instr.lookup, run_underlying ht, MapKept.run_getObj_map h, hf, h1', Result.andThen]

theorem grown_set {w : World} {r : Nat} {es : Array MapEntry} {c : Nat} (h : w.heap[r]? = some (.map es c)) (o : Obj) : w.grownBy (setBlock w r o) (some r) :=
  ⟨rfl, rfl, rfl, by simp [setBlock], fun _ _ hi => heap_setBlock_other h _ (fun e1 => hi (by rw [e1]))⟩

/-- m[k] = f(m[k]): the entry, and the store into it. -/
theorem entry27 {T E : TypeId} {z : Value} (ht : Tryd.prog.underlying T = some (.map 71 E)) (hz : ∀ u : World, (zeroValue E).run Tryd.prog u = .ok z u) {w : World} {r : Nat} {ls : List ((Int × Int × Int × Int) × Value × Nat)} {clock : Nat} (h : EM w r ls clock) (hg : Good ls clock) (k : Int × Int × Int × Int) :
    ∃ st ls1 clock1, (Instr.mapEntry T (.map (some r)) (ek k)).run Tryd.prog w = .ok (.tuple #[(lk ls k).getD z, goInt st]) (setBlock w r (.map (ls1.map toE).toArray clock1)) ∧
      ∀ val, ∃ ls' clock', Good ls' clock' ∧ (∀ j, lk ls' j = if j = k then some val else lk ls j) ∧ (ls'.length = ls.length + if lk ls k = none then 1 else 0) ∧
        ∀ w2, EM w2 r ls1 clock1 → (Instr.entryStore T (.map (some r)) (goInt st) val).run Tryd.prog w2 = .ok () (setBlock w2 r (.map (ls'.map toE).toArray clock')) := by
  have hb := h
  unfold EM at hb
  have hf := fun em => check27 em k w
  rcases find27 k w ls 0 with ⟨h1, h2⟩ | ⟨j, x, h1, h2, h3⟩
  · have h1' : (Instr.findKey 71 (ek k) (ls.map toE)).run Tryd.prog w = .ok none w := (findKey27 _ _ _).trans h1
    refine ⟨clock, ls ++ [(k, z, clock)], clock + 1, ?_, fun val => ⟨ls ++ [(k, val, clock)], clock + 1, good_push hg h2, fun j => lk_push h2, by simp [lk_not h2], fun w2 hw2 => ?_⟩⟩
    · rw [lk_not h2]
      simp [Instr.mapEntry, run_underlying ht, MapKept.run_getObj_map hb, hf, h1', hz, MapKept.run_setObj_map _ hb, Result.andThen, setBlock, toE]
    · unfold EM at hw2
      have hidx : ((ls ++ [(k, z, clock)]).map toE).toArray.findIdx? (fun e => ((e.born : Nat) : Int) == ((clock : Nat) : Int)) = some ls.length := by
        rw [WideElems.findIdx_arr]
        have hn : (((ls ++ [(k, z, clock)]).map toE).map (fun e => e.born)).Nodup := by
          have := (good_push (v := z) hg h2).2.1
          rw [List.map_map]
          exact this
        exact WideElems.findIdx_born hn (j := ls.length) (e0 := toE (k, z, clock)) (by simp)
      have hmod : ((ls ++ [(k, z, clock)]).map toE).toArray.modify ls.length (fun e => { e with val := val }) = ((ls ++ [(k, val, clock)]).map toE).toArray := by
        apply Array.ext'
        rw [Array.toList_modify]
        have := WideElems.modify_last (fun e : MapEntry => { e with val := val }) (toE (k, z, clock)) (ls.map toE)
        rw [List.length_map] at this
        simpa [toE] using this
      simp only [Instr.entryStore, Sem.run_bind, MapKept.run_getObj_map hw2, Result.andThen, asInt, asIntOf, goInt, Sem.run_pure, hidx, hmod, MapKept.run_setObj_map _ hw2, setBlock]
  · have h1' : (Instr.findKey 71 (ek k) (ls.map toE)).run Tryd.prog w = .ok (some (j, x.2.1)) w := (findKey27 _ _ _).trans (by simpa using h1)
    have hj : ((ls.map toE).toArray)[j]? = some (toE x) := by simp [h2]
    have hjl : (ls.map toE)[j]? = some (toE x) := by simp [h2]
    have hkx : (toE x).key = ek k := by simp [toE, h3]
    have hsame : (ls.map toE).toArray.modify j (fun e => { e with key := ek k }) = (ls.map toE).toArray := by
      apply Array.ext'
      rw [Array.toList_modify]
      show (ls.map toE).modify j _ = ls.map toE
      rw [modify_eq_set _ _ _ _ hjl]
      have : ({ toE x with key := ek k } : MapEntry) = toE x := by rw [← hkx]
      rw [this]
      exact WideElems.set_self _ _ _ hjl
    have hst := stays27 k w
    have e1 : lk ls k = some x.2.1 := lk_at hg.1 h2 h3
    refine ⟨x.2.2, ls, clock, ?_, fun val => ⟨ls.set j (x.1, val, x.2.2), clock, good_set hg h2 val, fun i => by have := lk_set (j := i) (v := val) hg.1 h2 h3; rwa [← h3] at this ⊢, by simp [e1], fun w2 hw2 => ?_⟩⟩
    · rw [e1]
      have hb0 : (toE x).born = x.2.2 := rfl
      simp only [Instr.mapEntry, Sem.run_bind, run_underlying ht, MapKept.run_getObj_map hb, hf, h1', Result.andThen, hj, Option.map_some, Option.getD_some, hkx, hst, hsame, MapKept.run_setObj_map _ hb, Sem.run_pure, hb0, setBlock]
    · unfold EM at hw2
      have hidx : (ls.map toE).toArray.findIdx? (fun e => ((e.born : Nat) : Int) == ((x.2.2 : Nat) : Int)) = some j := by
        rw [WideElems.findIdx_arr]
        have hn : ((ls.map toE).map (fun e => e.born)).Nodup := by
          rw [List.map_map]
          exact hg.2.1
        exact WideElems.findIdx_born hn (j := j) (e0 := toE x) hjl
      have hmod : (ls.map toE).toArray.modify j (fun e => { e with val := val }) = ((ls.set j (x.1, val, x.2.2)).map toE).toArray := by
        apply Array.ext'
        rw [Array.toList_modify]
        show (ls.map toE).modify j _ = (ls.set j (x.1, val, x.2.2)).map toE
        rw [modify_eq_set _ _ _ _ hjl, List.map_set]
        rfl
      simp only [Instr.entryStore, Sem.run_bind, MapKept.run_getObj_map hw2, Result.andThen, asInt, asIntOf, goInt, Sem.run_pure, hidx, hmod, MapKept.run_setObj_map _ hw2, setBlock]

/-- m[k] = v. -/
theorem update27 {T E : TypeId} (ht : Tryd.prog.underlying T = some (.map 71 E)) {w : World} {r : Nat} {ls : List ((Int × Int × Int × Int) × Value × Nat)} {clock : Nat} (h : EM w r ls clock) (hg : Good ls clock) (k : Int × Int × Int × Int) (val : Value) :
    ∃ ls' clock', (Instr.mapUpdate T (.map (some r)) (ek k) val).run Tryd.prog w = .ok () (setBlock w r (.map (ls'.map toE).toArray clock')) ∧ Good ls' clock' ∧ (∀ j, lk ls' j = if j = k then some val else lk ls j) ∧ (ls'.length = ls.length + if lk ls k = none then 1 else 0) := by
  have hb := h
  unfold EM at hb
  have hf := fun em => check27 em k w
  rcases find27 k w ls 0 with ⟨h1, h2⟩ | ⟨j, x, h1, h2, h3⟩
  · have h1' : (Instr.findKey 71 (ek k) (ls.map toE)).run Tryd.prog w = .ok none w := (findKey27 _ _ _).trans h1
    refine ⟨ls ++ [(k, val, clock)], clock + 1, ?_, good_push hg h2, fun j => lk_push h2, by simp [lk_not h2]⟩
    simp [Instr.mapUpdate, run_underlying ht, MapKept.run_getObj_map hb, hf, h1', MapKept.run_setObj_map _ hb, Result.andThen, setBlock, toE]
  · have h1' : (Instr.findKey 71 (ek k) (ls.map toE)).run Tryd.prog w = .ok (some (j, x.2.1)) w := (findKey27 _ _ _).trans (by simpa using h1)
    have hj : ((ls.map toE).toArray)[j]? = some (toE x) := by simp [h2]
    have hjl : (ls.map toE)[j]? = some (toE x) := by simp [h2]
    have hkx : (toE x).key = ek k := by simp [toE, h3]
    have e1 : lk ls k = some x.2.1 := lk_at hg.1 h2 h3
    have hmod : (ls.map toE).toArray.modify j (fun e => { e with key := ek k, val := val }) = ((ls.set j (x.1, val, x.2.2)).map toE).toArray := by
      apply Array.ext'
      rw [Array.toList_modify]
      show (ls.map toE).modify j _ = (ls.set j (x.1, val, x.2.2)).map toE
      rw [modify_eq_set _ _ _ _ hjl, List.map_set, ← hkx]
      rfl
    have hst := stays27 k w
    refine ⟨ls.set j (x.1, val, x.2.2), clock, ?_, good_set hg h2 val, fun i => by have := lk_set (j := i) (v := val) hg.1 h2 h3; rwa [← h3] at this ⊢, by simp [e1]⟩
    simp only [Instr.mapUpdate, Sem.run_bind, run_underlying ht, MapKept.run_getObj_map hb, hf, h1', Result.andThen, hj, Option.map_some, Option.getD_some, hkx, hst, hmod, MapKept.run_setObj_map _ hb, setBlock]
theorem em_made (w : World) : EM (w.alloc (.map #[] 0)) w.heap.size [] 0 := (MapKept.heap_alloc w _).1
theorem good_nil : Good [] 0 := ⟨by simp, by simp, by simp⟩
end Go.Proofs.YtoedcefbmbfnhabDoor

