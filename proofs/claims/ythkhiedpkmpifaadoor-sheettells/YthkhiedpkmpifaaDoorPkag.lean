import Derived.Test.YthkhiedpkmpifaaDoorPkad
import Derived.Test.YthkhiedpkmpifaaDoorPkac
import Derived.Test.YthkhiedpkmpifaaDoorPkaf
import Derived.Test.YthkhiedpkmpifaaDoorPkab
/- What lies across an edge: the grid's beyondSide and Across. -/
namespace Go.Proofs.YthkhiedpkmpifaaDoor
open Go.RowKit
attribute [local go_sem ↓] Go.wp_at_zero Go.wp_at_succ

theorem sameB_sym (a b c d p q r s : Int) : sameB a b c d p q r s = sameB p q r s a b c d := by
  unfold sameB
  congr 1
  simp [eq_comm]

set_option maxHeartbeats 800000 in
theorem answerTri_39_0 (x y k : Int) (pa pt : Nat) (w : World) (hcall : ∀ W : World, Below w.heap.size w W → Calls Tryd.prog 48 #[.pointer (some ⟨pa, 0, none⟩), .pointer (some ⟨pt, 0, none⟩)] W fun r w' => r = .returned (.tuple #[.agg #[.int .i64 x, .int .i64 y, .int .i64 k], .int .i64 0]) ∧ Below W.heap.size W w') :
    Calls Tryd.prog 47 #[.bool true, .func (.func 48) #[] #[.pointer (some ⟨pa, 0, none⟩), .pointer (some ⟨pt, 0, none⟩)]] w fun r w' => r = .returned (.tuple #[.agg #[.int .i64 x, .int .i64 y, .int .i64 k], .int .i64 0]) ∧ Below w.heap.size w w' := by
  have HC : Hid (∀ W : World, Below w.heap.size w W → Calls Tryd.prog 48 #[.pointer (some ⟨pa, 0, none⟩), .pointer (some ⟨pt, 0, none⟩)] W fun r w' => r = .returned (.tuple #[.agg #[.int .i64 x, .int .i64 y, .int .i64 k], .int .i64 0]) ∧ Below W.heap.size W w') := hcall
  clear hcall
  go_enter Tryd.func47, Tryd.ntmps47
  go_wp2_with (go_at_call 48; refine (HC.out _ (bl_alloc (bl_alloc (bl_refl _)))).mono ?_; rintro r w2 ⟨rfl, hb⟩; have r0 : w2.cell? ⟨w.heap.size, 0, none⟩ = some (.int .i64 0) := cl_kept hb (by first | (simp [go_sem]; done) | (simp [go_sem, World.cell?_alloc_past]; done)); have f0' : w2.frozen? ⟨w.heap.size, 0, none⟩ = false := (hb.frozen (p := ⟨w.heap.size, 0, none⟩) (by simp <;> omega)).trans (by simp [go_sem]); have r1 : w2.cell? ⟨w.heap.size, 1, none⟩ = some (.int .i64 0) := cl_kept hb (by first | (simp [go_sem]; done) | (simp [go_sem, World.cell?_alloc_past]; done)); have f1' : w2.frozen? ⟨w.heap.size, 1, none⟩ = false := (hb.frozen (p := ⟨w.heap.size, 1, none⟩) (by simp <;> omega)).trans (by simp [go_sem]); have r2 : w2.cell? ⟨w.heap.size, 2, none⟩ = some (.int .i64 0) := cl_kept hb (by first | (simp [go_sem]; done) | (simp [go_sem, World.cell?_alloc_past]; done)); have f2' : w2.frozen? ⟨w.heap.size, 2, none⟩ = false := (hb.frozen (p := ⟨w.heap.size, 2, none⟩) (by simp <;> omega)).trans (by simp [go_sem]); have zz0 : w.heap.size < w2.heap.size := World.block_lt_of_cell? (w := w2) (a := ⟨w.heap.size, 0, none⟩) r0; have zz1 : w.heap.size < w2.heap.size + 1 := (by omega); have zz2 : w.heap.size < w2.heap.size + 1 + 1 := (by omega); have zz3 : w.heap.size < w2.heap.size + 1 + 1 + 1 := (by omega); have zz4 : w.heap.size < w2.heap.size + 1 + 1 + 1 + 1 := (by omega); have zz5 : w.heap.size < w2.heap.size + 1 + 1 + 1 + 1 + 1 := (by omega); have HB : Hid (Below w.heap.size w w2) := bl_via (bl_alloc (bl_alloc (bl_refl _))) hb; clear hb)
  refine bodyPost_ret (v := .tuple #[.agg #[.int .i64 x, .int .i64 y, .int .i64 k], .int .i64 0]) ?_ rfl ⟨rfl, ?_⟩
  · first | (simp [results, Tryd.results47, go_sem, *]; done) | (simp [results, Tryd.results47, go_sem, World.cell?_alloc_past, *]; done)
  · with_reducible repeat' (first | exact HB.out | refine bl_set ?_ ?_ | refine bl_alloc ?_ | refine bl_drew ?_)
    all_goals (first | (simp; done) | (simp; omega))

set_option maxHeartbeats 800000 in
theorem answerTri_39_5 (pa pt : Nat) (w : World) (hcall : ∀ W : World, Below w.heap.size w W → Calls Tryd.prog 48 #[.pointer (some ⟨pa, 0, none⟩), .pointer (some ⟨pt, 0, none⟩)] W fun r w' => r = .returned (.tuple #[.agg #[.int .i64 0, .int .i64 0, .int .i64 0], .int .i64 5]) ∧ Below W.heap.size W w') :
    Calls Tryd.prog 47 #[.bool true, .func (.func 48) #[] #[.pointer (some ⟨pa, 0, none⟩), .pointer (some ⟨pt, 0, none⟩)]] w fun r w' => r = .returned (.tuple #[.agg #[.int .i64 0, .int .i64 0, .int .i64 0], .int .i64 5]) ∧ Below w.heap.size w w' := by
  have HC : Hid (∀ W : World, Below w.heap.size w W → Calls Tryd.prog 48 #[.pointer (some ⟨pa, 0, none⟩), .pointer (some ⟨pt, 0, none⟩)] W fun r w' => r = .returned (.tuple #[.agg #[.int .i64 0, .int .i64 0, .int .i64 0], .int .i64 5]) ∧ Below W.heap.size W w') := hcall
  clear hcall
  go_enter Tryd.func47, Tryd.ntmps47
  go_wp2_with (go_at_call 48; refine (HC.out _ (bl_alloc (bl_alloc (bl_refl _)))).mono ?_; rintro r w2 ⟨rfl, hb⟩; have r0 : w2.cell? ⟨w.heap.size, 0, none⟩ = some (.int .i64 0) := cl_kept hb (by first | (simp [go_sem]; done) | (simp [go_sem, World.cell?_alloc_past]; done)); have f0' : w2.frozen? ⟨w.heap.size, 0, none⟩ = false := (hb.frozen (p := ⟨w.heap.size, 0, none⟩) (by simp <;> omega)).trans (by simp [go_sem]); have r1 : w2.cell? ⟨w.heap.size, 1, none⟩ = some (.int .i64 0) := cl_kept hb (by first | (simp [go_sem]; done) | (simp [go_sem, World.cell?_alloc_past]; done)); have f1' : w2.frozen? ⟨w.heap.size, 1, none⟩ = false := (hb.frozen (p := ⟨w.heap.size, 1, none⟩) (by simp <;> omega)).trans (by simp [go_sem]); have r2 : w2.cell? ⟨w.heap.size, 2, none⟩ = some (.int .i64 0) := cl_kept hb (by first | (simp [go_sem]; done) | (simp [go_sem, World.cell?_alloc_past]; done)); have f2' : w2.frozen? ⟨w.heap.size, 2, none⟩ = false := (hb.frozen (p := ⟨w.heap.size, 2, none⟩) (by simp <;> omega)).trans (by simp [go_sem]); have zz0 : w.heap.size < w2.heap.size := World.block_lt_of_cell? (w := w2) (a := ⟨w.heap.size, 0, none⟩) r0; have zz1 : w.heap.size < w2.heap.size + 1 := (by omega); have zz2 : w.heap.size < w2.heap.size + 1 + 1 := (by omega); have zz3 : w.heap.size < w2.heap.size + 1 + 1 + 1 := (by omega); have zz4 : w.heap.size < w2.heap.size + 1 + 1 + 1 + 1 := (by omega); have zz5 : w.heap.size < w2.heap.size + 1 + 1 + 1 + 1 + 1 := (by omega); have k0 : w2.cell? ⟨w.heap.size + 1, 0, none⟩ = some (.int .i64 0) := cl_kept hb (by first | (simp [go_sem]; done) | (simp [go_sem, World.cell?_alloc_past]; done)); have h0' : w2.frozen? ⟨w.heap.size + 1, 0, none⟩ = false := (hb.frozen (p := ⟨w.heap.size + 1, 0, none⟩) (by simp <;> omega)).trans (by simp [go_sem]); have k1 : w2.cell? ⟨w.heap.size + 1, 1, none⟩ = some (.int .i64 0) := cl_kept hb (by first | (simp [go_sem]; done) | (simp [go_sem, World.cell?_alloc_past]; done)); have h1' : w2.frozen? ⟨w.heap.size + 1, 1, none⟩ = false := (hb.frozen (p := ⟨w.heap.size + 1, 1, none⟩) (by simp <;> omega)).trans (by simp [go_sem]); have k2 : w2.cell? ⟨w.heap.size + 1, 2, none⟩ = some (.int .i64 0) := cl_kept hb (by first | (simp [go_sem]; done) | (simp [go_sem, World.cell?_alloc_past]; done)); have h2' : w2.frozen? ⟨w.heap.size + 1, 2, none⟩ = false := (hb.frozen (p := ⟨w.heap.size + 1, 2, none⟩) (by simp <;> omega)).trans (by simp [go_sem]); have yy0 : w.heap.size + 1 < w2.heap.size := World.block_lt_of_cell? (w := w2) (a := ⟨w.heap.size + 1, 0, none⟩) k0; have yy1 : w.heap.size + 1 < w2.heap.size + 1 := (by omega); have yy2 : w.heap.size + 1 < w2.heap.size + 1 + 1 := (by omega); have yy3 : w.heap.size + 1 < w2.heap.size + 1 + 1 + 1 := (by omega); have yy4 : w.heap.size + 1 < w2.heap.size + 1 + 1 + 1 + 1 := (by omega); have yy5 : w.heap.size + 1 < w2.heap.size + 1 + 1 + 1 + 1 + 1 := (by omega); have HB : Hid (Below w.heap.size w w2) := bl_via (bl_alloc (bl_alloc (bl_refl _))) hb; clear hb)
  refine bodyPost_ret (v := .tuple #[.agg #[.int .i64 0, .int .i64 0, .int .i64 0], .int .i64 5]) ?_ rfl ⟨rfl, ?_⟩
  · first | (simp [results, Tryd.results47, go_sem, *]; done) | (simp [results, Tryd.results47, go_sem, World.cell?_alloc_past, *]; done)
  · with_reducible repeat' (first | exact HB.out | refine bl_set ?_ ?_ | refine bl_alloc ?_ | refine bl_drew ?_)
    all_goals (first | (simp; done) | (simp; omega))


set_option maxRecDepth 100000 in
set_option maxHeartbeats 1600000 in
theorem beyond_any (x y k : Int) (w : World) (h : triB x y k = true) (hs : Steps w) :
    Calls Tryd.prog 50 #[.agg #[.int .i64 x, .int .i64 y, .int .i64 k]] w fun r w' => r = .returned (.agg #[.int .i64 (x + outX k), .int .i64 (y + outY k), .int .i64 ((k + 2) % 4)]) ∧ Below w.heap.size w w' := by
  have hb : 0 ≤ k ∧ k ≤ 3 ∧ -1000000 ≤ x ∧ x ≤ 1000000 ∧ -1000000 ≤ y ∧ y ≤ 1000000 := by simpa [triB] using h
  obtain ⟨k0, k3, b1, b2, b3, b4⟩ := hb
  have ox := outX_bd k
  have oy := outY_bd k
  have wX : IntKind.i64.wrap (x + outX k) = x + outX k := wrap_of (by omega) (by omega)
  have wY : IntKind.i64.wrap (y + outY k) = y + outY k := wrap_of (by omega) (by omega)
  have HS : Hid (Steps w) := hs
  clear hs h
  go_enter Tryd.func50, Tryd.ntmps50
  go_wp2_with (go_at_call 85; refine (outward_any _ _ k0 k3 (HS.out.kept (bl_alloc (bl_alloc (bl_refl _))))).mono ?_; rintro r w1 ⟨rfl, hb⟩; have t0 : w1.cell? ⟨w.heap.size, 0, none⟩ = some (.int .i64 x) := cl_kept hb (by simp [go_sem]); have t1 : w1.cell? ⟨w.heap.size, 1, none⟩ = some (.int .i64 y) := cl_kept hb (by simp [go_sem]); have t2 : w1.cell? ⟨w.heap.size, 2, none⟩ = some (.int .i64 k) := cl_kept hb (by simp [go_sem]); have r0 : w1.cell? ⟨w.heap.size + 1, 0, none⟩ = some (.int .i64 0) := cl_kept hb (by first | (simp [go_sem]; done) | (simp [go_sem, World.cell?_alloc_past]; done)); have f0' : w1.frozen? ⟨w.heap.size + 1, 0, none⟩ = false := (hb.frozen (p := ⟨w.heap.size + 1, 0, none⟩) (by simp <;> omega)).trans (by simp [go_sem]); have r1 : w1.cell? ⟨w.heap.size + 1, 1, none⟩ = some (.int .i64 0) := cl_kept hb (by first | (simp [go_sem]; done) | (simp [go_sem, World.cell?_alloc_past]; done)); have f1' : w1.frozen? ⟨w.heap.size + 1, 1, none⟩ = false := (hb.frozen (p := ⟨w.heap.size + 1, 1, none⟩) (by simp <;> omega)).trans (by simp [go_sem]); have r2 : w1.cell? ⟨w.heap.size + 1, 2, none⟩ = some (.int .i64 0) := cl_kept hb (by first | (simp [go_sem]; done) | (simp [go_sem, World.cell?_alloc_past]; done)); have f2' : w1.frozen? ⟨w.heap.size + 1, 2, none⟩ = false := (hb.frozen (p := ⟨w.heap.size + 1, 2, none⟩) (by simp <;> omega)).trans (by simp [go_sem]); have zz0 : w.heap.size + 1 < w1.heap.size := World.block_lt_of_cell? (w := w1) (a := ⟨w.heap.size + 1, 0, none⟩) r0; have zz1 : w.heap.size + 1 < w1.heap.size + 1 := (by omega); have zz2 : w.heap.size + 1 < w1.heap.size + 1 + 1 := (by omega); have zz3 : w.heap.size + 1 < w1.heap.size + 1 + 1 + 1 := (by omega); have zz4 : w.heap.size + 1 < w1.heap.size + 1 + 1 + 1 + 1 := (by omega); have zz5 : w.heap.size + 1 < w1.heap.size + 1 + 1 + 1 + 1 + 1 := (by omega); have yy0 : w.heap.size < w1.heap.size := (by omega); have yy1 : w.heap.size < w1.heap.size + 1 := (by omega); have yy2 : w.heap.size < w1.heap.size + 1 + 1 := (by omega); have yy3 : w.heap.size < w1.heap.size + 1 + 1 + 1 := (by omega); have yy4 : w.heap.size < w1.heap.size + 1 + 1 + 1 + 1 := (by omega); have yy5 : w.heap.size < w1.heap.size + 1 + 1 + 1 + 1 + 1 := (by omega); have HB : Hid (Below w.heap.size w w1) := bl_via (bl_alloc (bl_alloc (bl_refl _))) hb; clear hb)
  go_region_held3 (fun w' => w'.cell? ⟨w.heap.size, 0, none⟩ = some (.int .i64 x) ∧ w'.cell? ⟨w.heap.size, 1, none⟩ = some (.int .i64 y) ∧ w'.cell? ⟨w.heap.size, 2, none⟩ = some (.int .i64 k) ∧ w'.cell? ⟨w1.heap.size, 0, none⟩ = some (.int .i64 (outX k)) ∧ w'.cell? ⟨w1.heap.size, 1, none⟩ = some (.int .i64 (outY k)))
    ((refine ⟨?_, ?_, ?_, ?_, ?_⟩ <;> (repeat' (first | (with_reducible assumption) | (with_reducible refine st_old ?_ ?_) | (dsimp only; omega) | (simp [go_sem]; done) | (with_reducible refine al_old ?_) | (with_reducible refine dr_old ?_)))))
    ((go_at_call 49; refine (turned_any _ _ _ (by omega) (by omega) (by omega) (by omega)).mono ?_; rintro r w2 ⟨rfl, rfl⟩))
  go_wp2
  refine bodyPost_ret (v := .agg #[.int .i64 (x + outX k), .int .i64 (y + outY k), .int .i64 ((k + 2) % 4)]) ?_ rfl ⟨rfl, ?_⟩
  · first | (simp [results, Tryd.results50, go_sem, *]; done) | (simp [results, Tryd.results50, go_sem, World.cell?_alloc_past, *]; done)
  · with_reducible repeat' (first | exact HB.out | refine bl_set ?_ ?_ | refine bl_alloc ?_ | refine bl_drew ?_)
    all_goals (first | (simp; done) | (simp; omega))

/-- An edge's four numbers in a row of memory. -/
def Qd (w : World) (g : Nat) (p q r s : Int) : Prop := w.cell? ⟨g, 0, none⟩ = some (.int .i64 p) ∧ w.cell? ⟨g, 1, none⟩ = some (.int .i64 q) ∧ w.cell? ⟨g, 2, none⟩ = some (.int .i64 r) ∧ w.cell? ⟨g, 3, none⟩ = some (.int .i64 s)
theorem Qd.lt {w : World} {g : Nat} {p q r s : Int} (h : Qd w g p q r s) : g < w.heap.size := World.block_lt_of_cell? _ _ h.1
theorem Qd.kept {w wx : World} {g : Nat} {p q r s : Int} (h : Qd w g p q r s) (hb : Below w.heap.size w wx) : Qd wx g p q r s := by
  obtain ⟨h0, h1, h2, h3⟩ := h
  exact ⟨cl_kept hb h0, cl_kept hb h1, cl_kept hb h2, cl_kept hb h3⟩

set_option maxRecDepth 100000 in
set_option maxHeartbeats 3200000 in
theorem across1_a (x y k p q r s : Int) (pt pe : Nat) (w : World) (h : triB x y k = true) (hs : Steps w) (ht : Tr w pt x y k) (hp : Qd w pe p q r s) (h0 : sameB p q r s (ue0 x y k) (ue1 x y k) (ue2 x y k) (ue3 x y k) = true) :
    Calls Tryd.prog 48 #[.pointer (some ⟨pt, 0, none⟩), .pointer (some ⟨pe, 0, none⟩)] w fun e w' => e = .returned (.tuple #[.agg #[.int .i64 x, .int .i64 y, .int .i64 ((k + 3) % 4)], .int .i64 0]) ∧ Below w.heap.size w w' := by
  have zt := ht.lt
  have ze := hp.lt
  obtain ⟨b0, b1, b2⟩ := ht
  obtain ⟨c0, c1, c2, c3⟩ := hp
  have he := eql27
  have hk : 0 ≤ k ∧ k ≤ 3 := by have := h; simp [triB] at this; omega
  obtain ⟨k0, k3⟩ := hk
  have HS : Hid (Steps w) := hs
  have HT : Hid (triB x y k = true) := h
  clear hs h
  go_enter Tryd.func48, Tryd.ntmps48
  go_wp2_with (first | (go_at_call 46; refine (edges_num _ _ _ _ HT.out (HS.out.kept (bl_alloc (bl_refl _)))).mono ?_; rintro e w1 ⟨rfl, hb⟩; have t0 : w1.cell? ⟨pt, 0, none⟩ = some (.int .i64 x) := cl_kept hb (by with_reducible exact al_old b0); have t1 : w1.cell? ⟨pt, 1, none⟩ = some (.int .i64 y) := cl_kept hb (by with_reducible exact al_old b1); have t2 : w1.cell? ⟨pt, 2, none⟩ = some (.int .i64 k) := cl_kept hb (by with_reducible exact al_old b2); have q0 : w1.cell? ⟨pe, 0, none⟩ = some (.int .i64 p) := cl_kept hb (by with_reducible exact al_old c0); have q1 : w1.cell? ⟨pe, 1, none⟩ = some (.int .i64 q) := cl_kept hb (by with_reducible exact al_old c1); have q2 : w1.cell? ⟨pe, 2, none⟩ = some (.int .i64 r) := cl_kept hb (by with_reducible exact al_old c2); have q3 : w1.cell? ⟨pe, 3, none⟩ = some (.int .i64 s) := cl_kept hb (by with_reducible exact al_old c3); have r0 : w1.cell? ⟨w.heap.size, 0, none⟩ = some (.int .i64 0) := cl_kept hb (by first | (simp [go_sem]; done) | (simp [go_sem, World.cell?_alloc_past]; done)); have f0' : w1.frozen? ⟨w.heap.size, 0, none⟩ = false := (hb.frozen (p := ⟨w.heap.size, 0, none⟩) (by simp <;> omega)).trans (by simp [go_sem]); have r1 : w1.cell? ⟨w.heap.size, 1, none⟩ = some (.int .i64 0) := cl_kept hb (by first | (simp [go_sem]; done) | (simp [go_sem, World.cell?_alloc_past]; done)); have f1' : w1.frozen? ⟨w.heap.size, 1, none⟩ = false := (hb.frozen (p := ⟨w.heap.size, 1, none⟩) (by simp <;> omega)).trans (by simp [go_sem]); have r2 : w1.cell? ⟨w.heap.size, 2, none⟩ = some (.int .i64 0) := cl_kept hb (by first | (simp [go_sem]; done) | (simp [go_sem, World.cell?_alloc_past]; done)); have f2' : w1.frozen? ⟨w.heap.size, 2, none⟩ = false := (hb.frozen (p := ⟨w.heap.size, 2, none⟩) (by simp <;> omega)).trans (by simp [go_sem]); have zz0 : w.heap.size < w1.heap.size := World.block_lt_of_cell? (w := w1) (a := ⟨w.heap.size, 0, none⟩) r0; have zz1 : w.heap.size < w1.heap.size + 1 := (by omega); have zz2 : w.heap.size < w1.heap.size + 1 + 1 := (by omega); have zz3 : w.heap.size < w1.heap.size + 1 + 1 + 1 := (by omega); have zz4 : w.heap.size < w1.heap.size + 1 + 1 + 1 + 1 := (by omega); have zz5 : w.heap.size < w1.heap.size + 1 + 1 + 1 + 1 + 1 := (by omega); have xt0 : pt < w1.heap.size := (by omega); have xt1 : pt < w1.heap.size + 1 := (by omega); have xt2 : pt < w1.heap.size + 1 + 1 := (by omega); have xt3 : pt < w1.heap.size + 1 + 1 + 1 := (by omega); have xt4 : pt < w1.heap.size + 1 + 1 + 1 + 1 := (by omega); have xe0 : pe < w1.heap.size := (by omega); have xe1 : pe < w1.heap.size + 1 := (by omega); have xe2 : pe < w1.heap.size + 1 + 1 := (by omega); have xe3 : pe < w1.heap.size + 1 + 1 + 1 := (by omega); have xe4 : pe < w1.heap.size + 1 + 1 + 1 + 1 := (by omega); have HB : Hid (Below w.heap.size w w1) := bl_via (bl_alloc (bl_refl _)) hb; clear hb))
  go_region_held3 (fun w' => w'.cell? ⟨pt, 0, none⟩ = some (.int .i64 x) ∧ w'.cell? ⟨pt, 1, none⟩ = some (.int .i64 y) ∧ w'.cell? ⟨pt, 2, none⟩ = some (.int .i64 k))
    ((refine ⟨?_, ?_, ?_⟩ <;> (repeat' (first | (with_reducible assumption) | (with_reducible refine st_old ?_ ?_) | (dsimp only; omega) | (simp [go_sem]; done) | (with_reducible refine al_old ?_) | (with_reducible refine dr_old ?_)))))
    ((go_at_call 49; refine (turned_any _ _ _ (by omega) (by omega) (by omega) (by omega)).mono ?_; rintro r w2 ⟨rfl, rfl⟩))
  go_wp2
  refine bodyPost_ret (v := .tuple #[.agg #[.int .i64 x, .int .i64 y, .int .i64 ((k + 3) % 4)], .int .i64 0]) ?_ rfl ⟨rfl, ?_⟩
  · first | (simp [results, Tryd.results48, go_sem, *]; done) | (simp [results, Tryd.results48, go_sem, World.cell?_alloc_past, *]; done)
  · with_reducible repeat' (first | exact HB.out | refine bl_set ?_ ?_ | refine bl_alloc ?_ | refine bl_drew ?_)
    all_goals (first | (simp; done) | (simp; omega))

set_option maxRecDepth 100000 in
set_option maxHeartbeats 3200000 in
theorem across1_b (x y k p q r s : Int) (pt pe : Nat) (w : World) (h : triB x y k = true) (hs : Steps w) (ht : Tr w pt x y k) (hp : Qd w pe p q r s) (h0 : sameB p q r s (ue0 x y k) (ue1 x y k) (ue2 x y k) (ue3 x y k) = false) (h1 : sameB p q r s (ue4 x y k) (ue5 x y k) (ue6 x y k) (ue7 x y k) = true) :
    Calls Tryd.prog 48 #[.pointer (some ⟨pt, 0, none⟩), .pointer (some ⟨pe, 0, none⟩)] w fun e w' => e = .returned (.tuple #[.agg #[.int .i64 (x + outX k), .int .i64 (y + outY k), .int .i64 ((k + 2) % 4)], .int .i64 0]) ∧ Below w.heap.size w w' := by
  have zt := ht.lt
  have ze := hp.lt
  obtain ⟨b0, b1, b2⟩ := ht
  obtain ⟨c0, c1, c2, c3⟩ := hp
  have he := eql27
  have hk : 0 ≤ k ∧ k ≤ 3 := by have := h; simp [triB] at this; omega
  obtain ⟨k0, k3⟩ := hk
  have HS : Hid (Steps w) := hs
  have HT : Hid (triB x y k = true) := h
  clear hs h
  go_enter Tryd.func48, Tryd.ntmps48
  go_wp2_with (first | (go_at_call 46; refine (edges_num _ _ _ _ HT.out (HS.out.kept (bl_alloc (bl_refl _)))).mono ?_; rintro e w1 ⟨rfl, hb⟩; have t0 : w1.cell? ⟨pt, 0, none⟩ = some (.int .i64 x) := cl_kept hb (by with_reducible exact al_old b0); have t1 : w1.cell? ⟨pt, 1, none⟩ = some (.int .i64 y) := cl_kept hb (by with_reducible exact al_old b1); have t2 : w1.cell? ⟨pt, 2, none⟩ = some (.int .i64 k) := cl_kept hb (by with_reducible exact al_old b2); have q0 : w1.cell? ⟨pe, 0, none⟩ = some (.int .i64 p) := cl_kept hb (by with_reducible exact al_old c0); have q1 : w1.cell? ⟨pe, 1, none⟩ = some (.int .i64 q) := cl_kept hb (by with_reducible exact al_old c1); have q2 : w1.cell? ⟨pe, 2, none⟩ = some (.int .i64 r) := cl_kept hb (by with_reducible exact al_old c2); have q3 : w1.cell? ⟨pe, 3, none⟩ = some (.int .i64 s) := cl_kept hb (by with_reducible exact al_old c3); have r0 : w1.cell? ⟨w.heap.size, 0, none⟩ = some (.int .i64 0) := cl_kept hb (by first | (simp [go_sem]; done) | (simp [go_sem, World.cell?_alloc_past]; done)); have f0' : w1.frozen? ⟨w.heap.size, 0, none⟩ = false := (hb.frozen (p := ⟨w.heap.size, 0, none⟩) (by simp <;> omega)).trans (by simp [go_sem]); have r1 : w1.cell? ⟨w.heap.size, 1, none⟩ = some (.int .i64 0) := cl_kept hb (by first | (simp [go_sem]; done) | (simp [go_sem, World.cell?_alloc_past]; done)); have f1' : w1.frozen? ⟨w.heap.size, 1, none⟩ = false := (hb.frozen (p := ⟨w.heap.size, 1, none⟩) (by simp <;> omega)).trans (by simp [go_sem]); have r2 : w1.cell? ⟨w.heap.size, 2, none⟩ = some (.int .i64 0) := cl_kept hb (by first | (simp [go_sem]; done) | (simp [go_sem, World.cell?_alloc_past]; done)); have f2' : w1.frozen? ⟨w.heap.size, 2, none⟩ = false := (hb.frozen (p := ⟨w.heap.size, 2, none⟩) (by simp <;> omega)).trans (by simp [go_sem]); have zz0 : w.heap.size < w1.heap.size := World.block_lt_of_cell? (w := w1) (a := ⟨w.heap.size, 0, none⟩) r0; have zz1 : w.heap.size < w1.heap.size + 1 := (by omega); have zz2 : w.heap.size < w1.heap.size + 1 + 1 := (by omega); have zz3 : w.heap.size < w1.heap.size + 1 + 1 + 1 := (by omega); have zz4 : w.heap.size < w1.heap.size + 1 + 1 + 1 + 1 := (by omega); have zz5 : w.heap.size < w1.heap.size + 1 + 1 + 1 + 1 + 1 := (by omega); have xt0 : pt < w1.heap.size := (by omega); have xt1 : pt < w1.heap.size + 1 := (by omega); have xt2 : pt < w1.heap.size + 1 + 1 := (by omega); have xt3 : pt < w1.heap.size + 1 + 1 + 1 := (by omega); have xt4 : pt < w1.heap.size + 1 + 1 + 1 + 1 := (by omega); have xe0 : pe < w1.heap.size := (by omega); have xe1 : pe < w1.heap.size + 1 := (by omega); have xe2 : pe < w1.heap.size + 1 + 1 := (by omega); have xe3 : pe < w1.heap.size + 1 + 1 + 1 := (by omega); have xe4 : pe < w1.heap.size + 1 + 1 + 1 + 1 := (by omega); have HB : Hid (Below w.heap.size w w1) := bl_via (bl_alloc (bl_refl _)) hb; clear hb) | (go_at_call 50; refine (beyond_any _ _ _ _ HT.out (HS.out.kept (bl_alloc HB.out))).mono ?_; rintro e w2 ⟨rfl, hb⟩; have s0 : w2.cell? ⟨w.heap.size, 0, none⟩ = some (.int .i64 0) := cl_kept hb (by first | (with_reducible exact al_old (by assumption)) | (simp [go_sem]; done) | (simp [go_sem, World.cell?_alloc_past]; done)); have g0' : w2.frozen? ⟨w.heap.size, 0, none⟩ = false := (hb.frozen (p := ⟨w.heap.size, 0, none⟩) (by simp <;> omega)).trans (by first | (simp [go_sem]; done) | (simp [go_sem, *]; done)); have s1 : w2.cell? ⟨w.heap.size, 1, none⟩ = some (.int .i64 0) := cl_kept hb (by first | (with_reducible exact al_old (by assumption)) | (simp [go_sem]; done) | (simp [go_sem, World.cell?_alloc_past]; done)); have g1' : w2.frozen? ⟨w.heap.size, 1, none⟩ = false := (hb.frozen (p := ⟨w.heap.size, 1, none⟩) (by simp <;> omega)).trans (by first | (simp [go_sem]; done) | (simp [go_sem, *]; done)); have s2 : w2.cell? ⟨w.heap.size, 2, none⟩ = some (.int .i64 0) := cl_kept hb (by first | (with_reducible exact al_old (by assumption)) | (simp [go_sem]; done) | (simp [go_sem, World.cell?_alloc_past]; done)); have g2' : w2.frozen? ⟨w.heap.size, 2, none⟩ = false := (hb.frozen (p := ⟨w.heap.size, 2, none⟩) (by simp <;> omega)).trans (by first | (simp [go_sem]; done) | (simp [go_sem, *]; done)); have ww0 : w.heap.size < w2.heap.size := World.block_lt_of_cell? (w := w2) (a := ⟨w.heap.size, 0, none⟩) s0; have ww1 : w.heap.size < w2.heap.size + 1 := (by omega); have ww2 : w.heap.size < w2.heap.size + 1 + 1 := (by omega); have ww3 : w.heap.size < w2.heap.size + 1 + 1 + 1 := (by omega); have ww4 : w.heap.size < w2.heap.size + 1 + 1 + 1 + 1 := (by omega); have ww5 : w.heap.size < w2.heap.size + 1 + 1 + 1 + 1 + 1 := (by omega); have HB2 : Hid (Below w.heap.size w w2) := bl_via (bl_alloc HB.out) hb; clear hb))
  refine bodyPost_ret (v := .tuple #[.agg #[.int .i64 (x + outX k), .int .i64 (y + outY k), .int .i64 ((k + 2) % 4)], .int .i64 0]) ?_ rfl ⟨rfl, ?_⟩
  · first | (simp [results, Tryd.results48, go_sem, *]; done) | (simp [results, Tryd.results48, go_sem, World.cell?_alloc_past, *]; done)
  · with_reducible repeat' (first | exact HB2.out | refine bl_set ?_ ?_ | refine bl_alloc ?_ | refine bl_drew ?_)
    all_goals (first | (simp; done) | (simp; omega))

set_option maxRecDepth 100000 in
set_option maxHeartbeats 3200000 in
theorem across1_c (x y k p q r s : Int) (pt pe : Nat) (w : World) (h : triB x y k = true) (hs : Steps w) (ht : Tr w pt x y k) (hp : Qd w pe p q r s) (h0 : sameB p q r s (ue0 x y k) (ue1 x y k) (ue2 x y k) (ue3 x y k) = false) (h1 : sameB p q r s (ue4 x y k) (ue5 x y k) (ue6 x y k) (ue7 x y k) = false) (h2 : sameB p q r s (ue8 x y k) (ue9 x y k) (ue10 x y k) (ue11 x y k) = true) :
    Calls Tryd.prog 48 #[.pointer (some ⟨pt, 0, none⟩), .pointer (some ⟨pe, 0, none⟩)] w fun e w' => e = .returned (.tuple #[.agg #[.int .i64 x, .int .i64 y, .int .i64 ((k + 1) % 4)], .int .i64 0]) ∧ Below w.heap.size w w' := by
  have zt := ht.lt
  have ze := hp.lt
  obtain ⟨b0, b1, b2⟩ := ht
  obtain ⟨c0, c1, c2, c3⟩ := hp
  have he := eql27
  have hk : 0 ≤ k ∧ k ≤ 3 := by have := h; simp [triB] at this; omega
  obtain ⟨k0, k3⟩ := hk
  have HS : Hid (Steps w) := hs
  have HT : Hid (triB x y k = true) := h
  clear hs h
  go_enter Tryd.func48, Tryd.ntmps48
  go_wp2_with (first | (go_at_call 46; refine (edges_num _ _ _ _ HT.out (HS.out.kept (bl_alloc (bl_refl _)))).mono ?_; rintro e w1 ⟨rfl, hb⟩; have t0 : w1.cell? ⟨pt, 0, none⟩ = some (.int .i64 x) := cl_kept hb (by with_reducible exact al_old b0); have t1 : w1.cell? ⟨pt, 1, none⟩ = some (.int .i64 y) := cl_kept hb (by with_reducible exact al_old b1); have t2 : w1.cell? ⟨pt, 2, none⟩ = some (.int .i64 k) := cl_kept hb (by with_reducible exact al_old b2); have q0 : w1.cell? ⟨pe, 0, none⟩ = some (.int .i64 p) := cl_kept hb (by with_reducible exact al_old c0); have q1 : w1.cell? ⟨pe, 1, none⟩ = some (.int .i64 q) := cl_kept hb (by with_reducible exact al_old c1); have q2 : w1.cell? ⟨pe, 2, none⟩ = some (.int .i64 r) := cl_kept hb (by with_reducible exact al_old c2); have q3 : w1.cell? ⟨pe, 3, none⟩ = some (.int .i64 s) := cl_kept hb (by with_reducible exact al_old c3); have r0 : w1.cell? ⟨w.heap.size, 0, none⟩ = some (.int .i64 0) := cl_kept hb (by first | (simp [go_sem]; done) | (simp [go_sem, World.cell?_alloc_past]; done)); have f0' : w1.frozen? ⟨w.heap.size, 0, none⟩ = false := (hb.frozen (p := ⟨w.heap.size, 0, none⟩) (by simp <;> omega)).trans (by simp [go_sem]); have r1 : w1.cell? ⟨w.heap.size, 1, none⟩ = some (.int .i64 0) := cl_kept hb (by first | (simp [go_sem]; done) | (simp [go_sem, World.cell?_alloc_past]; done)); have f1' : w1.frozen? ⟨w.heap.size, 1, none⟩ = false := (hb.frozen (p := ⟨w.heap.size, 1, none⟩) (by simp <;> omega)).trans (by simp [go_sem]); have r2 : w1.cell? ⟨w.heap.size, 2, none⟩ = some (.int .i64 0) := cl_kept hb (by first | (simp [go_sem]; done) | (simp [go_sem, World.cell?_alloc_past]; done)); have f2' : w1.frozen? ⟨w.heap.size, 2, none⟩ = false := (hb.frozen (p := ⟨w.heap.size, 2, none⟩) (by simp <;> omega)).trans (by simp [go_sem]); have zz0 : w.heap.size < w1.heap.size := World.block_lt_of_cell? (w := w1) (a := ⟨w.heap.size, 0, none⟩) r0; have zz1 : w.heap.size < w1.heap.size + 1 := (by omega); have zz2 : w.heap.size < w1.heap.size + 1 + 1 := (by omega); have zz3 : w.heap.size < w1.heap.size + 1 + 1 + 1 := (by omega); have zz4 : w.heap.size < w1.heap.size + 1 + 1 + 1 + 1 := (by omega); have zz5 : w.heap.size < w1.heap.size + 1 + 1 + 1 + 1 + 1 := (by omega); have xt0 : pt < w1.heap.size := (by omega); have xt1 : pt < w1.heap.size + 1 := (by omega); have xt2 : pt < w1.heap.size + 1 + 1 := (by omega); have xt3 : pt < w1.heap.size + 1 + 1 + 1 := (by omega); have xt4 : pt < w1.heap.size + 1 + 1 + 1 + 1 := (by omega); have xe0 : pe < w1.heap.size := (by omega); have xe1 : pe < w1.heap.size + 1 := (by omega); have xe2 : pe < w1.heap.size + 1 + 1 := (by omega); have xe3 : pe < w1.heap.size + 1 + 1 + 1 := (by omega); have xe4 : pe < w1.heap.size + 1 + 1 + 1 + 1 := (by omega); have HB : Hid (Below w.heap.size w w1) := bl_via (bl_alloc (bl_refl _)) hb; clear hb))
  go_region_held3 (fun w' => w'.cell? ⟨pt, 0, none⟩ = some (.int .i64 x) ∧ w'.cell? ⟨pt, 1, none⟩ = some (.int .i64 y) ∧ w'.cell? ⟨pt, 2, none⟩ = some (.int .i64 k))
    ((refine ⟨?_, ?_, ?_⟩ <;> (repeat' (first | (with_reducible assumption) | (with_reducible refine st_old ?_ ?_) | (dsimp only; omega) | (simp [go_sem]; done) | (with_reducible refine al_old ?_) | (with_reducible refine dr_old ?_)))))
    ((go_at_call 49; refine (turned_any _ _ _ (by omega) (by omega) (by omega) (by omega)).mono ?_; rintro r w2 ⟨rfl, rfl⟩))
  go_wp2
  refine bodyPost_ret (v := .tuple #[.agg #[.int .i64 x, .int .i64 y, .int .i64 ((k + 1) % 4)], .int .i64 0]) ?_ rfl ⟨rfl, ?_⟩
  · first | (simp [results, Tryd.results48, go_sem, *]; done) | (simp [results, Tryd.results48, go_sem, World.cell?_alloc_past, *]; done)
  · with_reducible repeat' (first | exact HB.out | refine bl_set ?_ ?_ | refine bl_alloc ?_ | refine bl_drew ?_)
    all_goals (first | (simp; done) | (simp; omega))

set_option maxRecDepth 100000 in
set_option maxHeartbeats 3200000 in
theorem across1_d (x y k p q r s : Int) (pt pe : Nat) (w : World) (h : triB x y k = true) (hs : Steps w) (ht : Tr w pt x y k) (hp : Qd w pe p q r s) (h0 : sameB p q r s (ue0 x y k) (ue1 x y k) (ue2 x y k) (ue3 x y k) = false) (h1 : sameB p q r s (ue4 x y k) (ue5 x y k) (ue6 x y k) (ue7 x y k) = false) (h2 : sameB p q r s (ue8 x y k) (ue9 x y k) (ue10 x y k) (ue11 x y k) = false) :
    Calls Tryd.prog 48 #[.pointer (some ⟨pt, 0, none⟩), .pointer (some ⟨pe, 0, none⟩)] w fun e w' => e = .returned (.tuple #[.agg #[.int .i64 0, .int .i64 0, .int .i64 0], .int .i64 5]) ∧ Below w.heap.size w w' := by
  have zt := ht.lt
  have ze := hp.lt
  obtain ⟨b0, b1, b2⟩ := ht
  obtain ⟨c0, c1, c2, c3⟩ := hp
  have he := eql27
  have hk : 0 ≤ k ∧ k ≤ 3 := by have := h; simp [triB] at this; omega
  obtain ⟨k0, k3⟩ := hk
  have HS : Hid (Steps w) := hs
  have HT : Hid (triB x y k = true) := h
  clear hs h
  go_enter Tryd.func48, Tryd.ntmps48
  go_wp2_with (first | (go_at_call 46; refine (edges_num _ _ _ _ HT.out (HS.out.kept (bl_alloc (bl_refl _)))).mono ?_; rintro e w1 ⟨rfl, hb⟩; have t0 : w1.cell? ⟨pt, 0, none⟩ = some (.int .i64 x) := cl_kept hb (by with_reducible exact al_old b0); have t1 : w1.cell? ⟨pt, 1, none⟩ = some (.int .i64 y) := cl_kept hb (by with_reducible exact al_old b1); have t2 : w1.cell? ⟨pt, 2, none⟩ = some (.int .i64 k) := cl_kept hb (by with_reducible exact al_old b2); have q0 : w1.cell? ⟨pe, 0, none⟩ = some (.int .i64 p) := cl_kept hb (by with_reducible exact al_old c0); have q1 : w1.cell? ⟨pe, 1, none⟩ = some (.int .i64 q) := cl_kept hb (by with_reducible exact al_old c1); have q2 : w1.cell? ⟨pe, 2, none⟩ = some (.int .i64 r) := cl_kept hb (by with_reducible exact al_old c2); have q3 : w1.cell? ⟨pe, 3, none⟩ = some (.int .i64 s) := cl_kept hb (by with_reducible exact al_old c3); have r0 : w1.cell? ⟨w.heap.size, 0, none⟩ = some (.int .i64 0) := cl_kept hb (by first | (simp [go_sem]; done) | (simp [go_sem, World.cell?_alloc_past]; done)); have f0' : w1.frozen? ⟨w.heap.size, 0, none⟩ = false := (hb.frozen (p := ⟨w.heap.size, 0, none⟩) (by simp <;> omega)).trans (by simp [go_sem]); have r1 : w1.cell? ⟨w.heap.size, 1, none⟩ = some (.int .i64 0) := cl_kept hb (by first | (simp [go_sem]; done) | (simp [go_sem, World.cell?_alloc_past]; done)); have f1' : w1.frozen? ⟨w.heap.size, 1, none⟩ = false := (hb.frozen (p := ⟨w.heap.size, 1, none⟩) (by simp <;> omega)).trans (by simp [go_sem]); have r2 : w1.cell? ⟨w.heap.size, 2, none⟩ = some (.int .i64 0) := cl_kept hb (by first | (simp [go_sem]; done) | (simp [go_sem, World.cell?_alloc_past]; done)); have f2' : w1.frozen? ⟨w.heap.size, 2, none⟩ = false := (hb.frozen (p := ⟨w.heap.size, 2, none⟩) (by simp <;> omega)).trans (by simp [go_sem]); have zz0 : w.heap.size < w1.heap.size := World.block_lt_of_cell? (w := w1) (a := ⟨w.heap.size, 0, none⟩) r0; have zz1 : w.heap.size < w1.heap.size + 1 := (by omega); have zz2 : w.heap.size < w1.heap.size + 1 + 1 := (by omega); have zz3 : w.heap.size < w1.heap.size + 1 + 1 + 1 := (by omega); have zz4 : w.heap.size < w1.heap.size + 1 + 1 + 1 + 1 := (by omega); have zz5 : w.heap.size < w1.heap.size + 1 + 1 + 1 + 1 + 1 := (by omega); have xt0 : pt < w1.heap.size := (by omega); have xt1 : pt < w1.heap.size + 1 := (by omega); have xt2 : pt < w1.heap.size + 1 + 1 := (by omega); have xt3 : pt < w1.heap.size + 1 + 1 + 1 := (by omega); have xt4 : pt < w1.heap.size + 1 + 1 + 1 + 1 := (by omega); have xe0 : pe < w1.heap.size := (by omega); have xe1 : pe < w1.heap.size + 1 := (by omega); have xe2 : pe < w1.heap.size + 1 + 1 := (by omega); have xe3 : pe < w1.heap.size + 1 + 1 + 1 := (by omega); have xe4 : pe < w1.heap.size + 1 + 1 + 1 + 1 := (by omega); have HB : Hid (Below w.heap.size w w1) := bl_via (bl_alloc (bl_refl _)) hb; clear hb))
  refine bodyPost_ret (v := .tuple #[.agg #[.int .i64 0, .int .i64 0, .int .i64 0], .int .i64 5]) ?_ rfl ⟨rfl, ?_⟩
  · first | (simp [results, Tryd.results48, go_sem, *]; done) | (simp [results, Tryd.results48, go_sem, World.cell?_alloc_past, *]; done)
  · with_reducible repeat' (first | exact HB.out | refine bl_set ?_ ?_ | refine bl_alloc ?_ | refine bl_drew ?_)
    all_goals (first | (simp; done) | (simp; omega))

theorem across1_any (x y k p q r s : Int) (pt pe : Nat) (w : World) (h : triB x y k = true) (hs : Steps w) (ht : Tr w pt x y k) (hp : Qd w pe p q r s) :
    Calls Tryd.prog 48 #[.pointer (some ⟨pt, 0, none⟩), .pointer (some ⟨pe, 0, none⟩)] w fun e w' => e = .returned (.tuple #[.agg #[.int .i64 (acX x y k p q r s), .int .i64 (acY x y k p q r s), .int .i64 (acK x y k p q r s)], .int .i64 (acC x y k p q r s)]) ∧ Below w.heap.size w w' := by
  have E0 : e0 x y k p q r s = sameB p q r s (ue0 x y k) (ue1 x y k) (ue2 x y k) (ue3 x y k) := sameB_sym _ _ _ _ _ _ _ _
  have E1 : e1 x y k p q r s = sameB p q r s (ue4 x y k) (ue5 x y k) (ue6 x y k) (ue7 x y k) := sameB_sym _ _ _ _ _ _ _ _
  have E2 : e2 x y k p q r s = sameB p q r s (ue8 x y k) (ue9 x y k) (ue10 x y k) (ue11 x y k) := sameB_sym _ _ _ _ _ _ _ _
  unfold acX acY acK acC
  rw [E0, E1, E2]
  cases h0 : sameB p q r s (ue0 x y k) (ue1 x y k) (ue2 x y k) (ue3 x y k)
  · cases h1 : sameB p q r s (ue4 x y k) (ue5 x y k) (ue6 x y k) (ue7 x y k)
    · cases h2 : sameB p q r s (ue8 x y k) (ue9 x y k) (ue10 x y k) (ue11 x y k)
      · exact across1_d x y k p q r s pt pe w h hs ht hp h0 h1 h2
      · exact across1_c x y k p q r s pt pe w h hs ht hp h0 h1 h2
    · exact across1_b x y k p q r s pt pe w h hs ht hp h0 h1
  · exact across1_a x y k p q r s pt pe w h hs ht hp h0

theorem answerTri_39 (x y k p q r s : Int) (pt pe : Nat) (w : World) (hcall : ∀ W : World, Below w.heap.size w W → Calls Tryd.prog 48 #[.pointer (some ⟨pt, 0, none⟩), .pointer (some ⟨pe, 0, none⟩)] W fun r' w' => r' = .returned (.tuple #[.agg #[.int .i64 (acX x y k p q r s), .int .i64 (acY x y k p q r s), .int .i64 (acK x y k p q r s)], .int .i64 (acC x y k p q r s)]) ∧ Below W.heap.size W w') :
    Calls Tryd.prog 47 #[.bool true, .func (.func 48) #[] #[.pointer (some ⟨pt, 0, none⟩), .pointer (some ⟨pe, 0, none⟩)]] w fun r' w' => r' = .returned (.tuple #[.agg #[.int .i64 (acX x y k p q r s), .int .i64 (acY x y k p q r s), .int .i64 (acK x y k p q r s)], .int .i64 (acC x y k p q r s)]) ∧ Below w.heap.size w w' := by
  unfold acX acY acK acC at *
  cases h0 : e0 x y k p q r s
  · cases h1 : e1 x y k p q r s
    · cases h2 : e2 x y k p q r s
      · simp only [h0, h1, h2, Bool.false_eq_true, if_false] at hcall ⊢
        exact answerTri_39_5 pt pe w hcall
      · simp only [h0, h1, h2, Bool.false_eq_true, if_false, if_true] at hcall ⊢
        exact answerTri_39_0 _ _ _ pt pe w hcall
    · simp only [h0, h1, Bool.false_eq_true, if_false, if_true] at hcall ⊢
      exact answerTri_39_0 _ _ _ pt pe w hcall
  · simp only [h0, if_true] at hcall ⊢
    exact answerTri_39_0 _ _ _ pt pe w hcall

set_option maxHeartbeats 1600000 in
theorem Across_yes (x y k p q r s : Int) (w : World) (h : triB x y k = true) (hs : Steps w) :
    Calls Tryd.prog 11 #[.agg #[.int .i64 x, .int .i64 y, .int .i64 k], .agg #[.int .i64 p, .int .i64 q, .int .i64 r, .int .i64 s]] w fun e w' => e = .returned (.tuple #[.agg #[.int .i64 (acX x y k p q r s), .int .i64 (acY x y k p q r s), .int .i64 (acK x y k p q r s)], .int .i64 (acC x y k p q r s)]) ∧ Below w.heap.size w w' := by
  have hmf := make_func
  have HC : Hid (∀ (pt pe : Nat) (W : World), Below w.heap.size w W → Tr W pt x y k → Qd W pe p q r s → Calls Tryd.prog 48 #[.pointer (some ⟨pt, 0, none⟩), .pointer (some ⟨pe, 0, none⟩)] W fun r' w' => r' = .returned (.tuple #[.agg #[.int .i64 (acX x y k p q r s), .int .i64 (acY x y k p q r s), .int .i64 (acK x y k p q r s)], .int .i64 (acC x y k p q r s)]) ∧ Below W.heap.size W w') := fun pt pe W hW ht hq => across1_any x y k p q r s pt pe W h (hs.kept hW) ht hq
  clear hs
  go_enter Tryd.func11, Tryd.ntmps11
  go_wp2_with (first | (go_at_call 41; refine (mayTri_any _ _ _ _).mono ?_; rintro e w3 ⟨rfl, o2, rfl⟩) | (go_at_call 47; refine (answerTri_39 _ _ _ _ _ _ _ _ _ _ (fun W hW => HC.out _ _ W (bl_via (bl_alloc (bl_alloc (bl_alloc (bl_alloc (bl_refl _))))) hW) (Tr.kept (by simp [Tr, go_sem]) hW) (Qd.kept (by simp [Qd, go_sem]) hW))).mono ?_; rintro e w2 ⟨rfl, hb⟩; have r0 : w2.cell? ⟨w.heap.size + 1 + 1, 0, none⟩ = some (.int .i64 0) := cl_kept hb (by first | (simp [go_sem]; done) | (simp [go_sem, World.cell?_alloc_past]; done)); have f0' : w2.frozen? ⟨w.heap.size + 1 + 1, 0, none⟩ = false := (hb.frozen (p := ⟨w.heap.size + 1 + 1, 0, none⟩) (by simp <;> omega)).trans (by simp [go_sem]); have r1 : w2.cell? ⟨w.heap.size + 1 + 1, 1, none⟩ = some (.int .i64 0) := cl_kept hb (by first | (simp [go_sem]; done) | (simp [go_sem, World.cell?_alloc_past]; done)); have f1' : w2.frozen? ⟨w.heap.size + 1 + 1, 1, none⟩ = false := (hb.frozen (p := ⟨w.heap.size + 1 + 1, 1, none⟩) (by simp <;> omega)).trans (by simp [go_sem]); have r2 : w2.cell? ⟨w.heap.size + 1 + 1, 2, none⟩ = some (.int .i64 0) := cl_kept hb (by first | (simp [go_sem]; done) | (simp [go_sem, World.cell?_alloc_past]; done)); have f2' : w2.frozen? ⟨w.heap.size + 1 + 1, 2, none⟩ = false := (hb.frozen (p := ⟨w.heap.size + 1 + 1, 2, none⟩) (by simp <;> omega)).trans (by simp [go_sem]); have zz0 : w.heap.size + 1 + 1 < w2.heap.size := World.block_lt_of_cell? (w := w2) (a := ⟨w.heap.size + 1 + 1, 0, none⟩) r0; have zz1 : w.heap.size + 1 + 1 < w2.heap.size + 1 := (by omega); have zz2 : w.heap.size + 1 + 1 < w2.heap.size + 1 + 1 := (by omega); have zz3 : w.heap.size + 1 + 1 < w2.heap.size + 1 + 1 + 1 := (by omega); have zz4 : w.heap.size + 1 + 1 < w2.heap.size + 1 + 1 + 1 + 1 := (by omega); have zz5 : w.heap.size + 1 + 1 < w2.heap.size + 1 + 1 + 1 + 1 + 1 := (by omega); have HB : Hid (Below w.heap.size w w2) := bl_via (bl_alloc (bl_alloc (bl_alloc (bl_alloc (bl_refl _))))) hb; clear hb))
  refine bodyPost_ret (v := .tuple #[.agg #[.int .i64 (acX x y k p q r s), .int .i64 (acY x y k p q r s), .int .i64 (acK x y k p q r s)], .int .i64 (acC x y k p q r s)]) ?_ rfl ⟨rfl, ?_⟩
  · first | (simp [results, Tryd.results11, go_sem, *]; done) | (simp [results, Tryd.results11, go_sem, World.cell?_alloc_past, *]; done)
  · with_reducible repeat' (first | exact HB.out | refine bl_set ?_ ?_ | refine bl_alloc ?_ | refine bl_drew ?_)
    all_goals (first | (simp; done) | (simp; omega))

theorem Across_out (x y k p q r s : Int) (w : World) (h : triB x y k = false) :
    Calls Tryd.prog 11 #[.agg #[.int .i64 x, .int .i64 y, .int .i64 k], .agg #[.int .i64 p, .int .i64 q, .int .i64 r, .int .i64 s]] w fun e w' => e = .returned (.tuple #[.agg #[.int .i64 0, .int .i64 0, .int .i64 0], .int .i64 3]) ∧ Below w.heap.size w w' := by
  have hmf := make_func
  go_enter Tryd.func11, Tryd.ntmps11
  go_wp2_with (first | (go_at_call 41; refine (mayTri_any _ _ _ _).mono ?_; rintro e w3 ⟨rfl, o2, rfl⟩) | (go_at_call 47; refine (answerTri_no _ _).mono ?_; rintro e w2 ⟨rfl, o3, o4, rfl⟩))
  refine bodyPost_ret (v := .tuple #[.agg #[.int .i64 0, .int .i64 0, .int .i64 0], .int .i64 3]) (by simp [results, Tryd.results11, go_sem]) rfl ⟨rfl, ?_⟩
  with_reducible repeat' (first | exact bl_refl _ | refine bl_set ?_ ?_ | refine bl_alloc ?_ | refine bl_drew ?_)
  all_goals (first | (simp; done) | (simp; omega))

end Go.Proofs.YthkhiedpkmpifaaDoor

/- Is an edge on two triangles that are there? The reference's way. -/
namespace Go.Proofs.YthkhiedpkmpifaaDoor
open Go.RowKit
attribute [local go_sem ↓] Go.wp_at_zero Go.wp_at_succ

theorem bl_undrew {v u : World} (h : Below v.drew.heap.size v.drew u) : Below v.heap.size v u := bl_via (bl_drew (bl_refl v)) h
/-- Triangles in a row of memory, as a slice has them. -/
def TRow (w : World) (a : Option Addr) (l : List (Int × Int × Int)) : Prop :=
  ∀ i (h : i < l.length), ∃ g, a = some ⟨g, 0, none⟩ ∧ w.cell? ⟨g, i * 3, none⟩ = some (.int .i64 l[i].1) ∧ w.cell? ⟨g, i * 3 + 1, none⟩ = some (.int .i64 l[i].2.1) ∧ w.cell? ⟨g, i * 3 + 2, none⟩ = some (.int .i64 l[i].2.2)
theorem TRow.kept {w wx : World} {a : Option Addr} {l : List (Int × Int × Int)} (h : TRow w a l) (hb : Below w.heap.size w wx) : TRow wx a l := fun i hi => by
  obtain ⟨g, e, h0, h1, h2⟩ := h i hi
  exact ⟨g, e, cl_kept hb h0, cl_kept hb h1, cl_kept hb h2⟩
theorem flatV_at : ∀ (l : List (Int × Int × Int)) (i : Nat) (h : i < l.length), (flatV l)[i * 3]? = some (.int .i64 l[i].1) ∧ (flatV l)[i * 3 + 1]? = some (.int .i64 l[i].2.1) ∧ (flatV l)[i * 3 + 2]? = some (.int .i64 l[i].2.2)
  | t :: l, 0, _ => by simp [flatV]
  | t :: l, i + 1, h => by
    have ih := flatV_at l i (by simpa using h)
    have e : flatV (t :: l) = [Value.int .i64 t.1, .int .i64 t.2.1, .int .i64 t.2.2] ++ flatV l := by simp [flatV]
    rw [e, show (i + 1) * 3 = 3 + i * 3 by omega]
    simp only [List.getElem_cons_succ]
    refine ⟨?_, ?_, ?_⟩
    · rw [List.getElem?_append_right (by simp)]
      simpa using ih.1
    · rw [List.getElem?_append_right (by simp; omega)]
      rw [show 3 + i * 3 + 1 - [Value.int .i64 t.1, Value.int .i64 t.2.1, Value.int .i64 t.2.2].length = i * 3 + 1 by simp; omega]
      exact ih.2.1
    · rw [List.getElem?_append_right (by simp; omega)]
      rw [show 3 + i * 3 + 2 - [Value.int .i64 t.1, Value.int .i64 t.2.1, Value.int .i64 t.2.2].length = i * 3 + 2 by simp; omega]
      exact ih.2.2
theorem own_tris {w : World} {base : Nat} {v : Value} {l : List (Int × Int × Int)} (h : w.ownsRow base 23 3 v l.length (flatV l)) : ∃ a cap, v = .slice a l.length cap ∧ TRow w a l := by
  rcases h.2 with ⟨rfl, h0⟩ | ⟨g, cap, cur, rfl, _⟩
  · exact ⟨none, 0, by rw [h0], fun i hi => by omega⟩
  · refine ⟨some ⟨g, 0, none⟩, cap, rfl, fun i hi => ⟨g, rfl, ?_⟩⟩
    have f := flatV_at l i hi
    exact ⟨(h.cellAt _ (by omega)).trans f.1, (h.cellAt _ (by omega)).trans f.2.1, (h.cellAt _ (by omega)).trans f.2.2⟩

theorem ty_bd {zs : List Int} {W H : Nat} (hW : W ≤ 8) (hH : H ≤ 8) : ∀ t ∈ ty zs W H, (0 ≤ t.1 ∧ t.1 ≤ 8) ∧ (0 ≤ t.2.1 ∧ t.2.1 ≤ 8) ∧ (0 ≤ t.2.2 ∧ t.2.2 ≤ 3) := by
  intro t ht
  simp only [ty, tx, tk, List.mem_flatMap, List.mem_map, List.mem_filter, List.mem_range] at ht
  obtain ⟨y, hy, x, hx, k, ⟨hk, _⟩, rfl⟩ := ht
  dsimp only
  omega

/-- How many of some triangles have an edge. -/
def cnt (l : List (Int × Int × Int)) (p q r s : Int) : Nat := l.countP fun t => hasB t.1 t.2.1 t.2.2 p q r s
theorem cnt_next {l : List (Int × Int × Int)} {p q r s : Int} {i : Nat} (h : i < l.length) : cnt (l.take (i + 1)) p q r s = cnt (l.take i) p q r s + if hasB l[i].1 l[i].2.1 l[i].2.2 p q r s = true then 1 else 0 := by
  unfold cnt
  rw [List.take_succ_eq_append_getElem h, List.countP_append]
  simp [List.countP_cons]
theorem cnt_le (l : List (Int × Int × Int)) (p q r s : Int) (i : Nat) : cnt (l.take i) p q r s ≤ l.length := by
  unfold cnt
  exact Nat.le_trans List.countP_le_length (by simp; omega)

set_option maxRecDepth 100000 in
set_option maxHeartbeats 3200000 in
theorem innerEdge_any (W H b off cap : Nat) (zs : List Int) (c : Value) (p q r s : Int) (w : World) (hr : Row w (some ⟨b, off, none⟩) zs) (hW : 1 ≤ W ∧ W ≤ 8) (hH : 1 ≤ H ∧ H ≤ 8) (hl : zs.length = W * H) (hm : maskB zs = true) :
    Calls Tryd.prog 76 #[.agg #[.int .i64 (W : Int), .int .i64 (H : Int), .slice (some ⟨b, off, none⟩) zs.length cap, c], .agg #[.int .i64 p, .int .i64 q, .int .i64 r, .int .i64 s]] w fun e w' => e = .returned (.bool (decide (cnt (ty zs W H) p q r s = 2))) ∧ Below w.heap.size w w' := by
  have C38 : Hid (∀ W' : World, Below w.heap.size w W' → Calls Tryd.prog 38 #[.agg #[.int .i64 (W : Int), .int .i64 (H : Int), .slice (some ⟨b, off, none⟩) zs.length cap, c]] W' fun e w' => ∃ v, e = .returned v ∧ w'.ownsRow (W'.heap.size + 1) 23 3 v (ty zs W H).length (flatV (ty zs W H)) ∧ Below W'.heap.size W' w') := fun W' hW' => trisOf_any W H b off cap zs c W' (hr.kept hW') hW hH hl hm
  have HBD : Hid (∀ t ∈ ty zs W H, (0 ≤ t.1 ∧ t.1 ≤ 8) ∧ (0 ≤ t.2.1 ∧ t.2.1 ≤ 8) ∧ (0 ≤ t.2.2 ∧ t.2.2 ≤ 3)) := ty_bd hW.2 hH.2
  have hlen : (ty zs W H).length ≤ 256 := by have := ty_len zs W H hW.2; omega
  clear hr hl hm hW hH
  obtain ⟨L, hL⟩ : ∃ L, L = ty zs W H := ⟨_, rfl⟩
  rw [← hL] at C38 HBD hlen ⊢
  clear hL
  go_enter Tryd.func76, Tryd.ntmps76
  go_wp2_with (go_at_call 38; refine (C38.out _ (by with_reducible exact bl_alloc (bl_alloc (bl_refl _)))).mono ?_; rintro e w1 ⟨v, rfl, ho, hb⟩; have hQ : Qd w1 (w.heap.size + 1) p q r s := Qd.kept (by simp [Qd, go_sem]) hb; have hB : Below w.heap.size w w1 := bl_via (bl_alloc (bl_alloc (bl_refl _))) hb; obtain ⟨a, ca, rfl, hT⟩ := own_tris ho; have HW : Hid (Qd w1 (w.heap.size + 1) p q r s ∧ TRow w1 a L ∧ Below w.heap.size w w1) := ⟨hQ, hT, hB⟩; clear hQ hB hT ho hb)
  go_loopg [6, 7] L.length (fun g s6 s7 wx => ∃ i : Nat, i ≤ L.length ∧ g = L.length - i ∧ s6 = .int .i64 ((cnt (L.take i) p q r s : Nat) : Int) ∧ s7 = .int .i64 (i : Int) ∧ Qd wx (w.heap.size + 1) p q r s ∧ TRow wx a L ∧ Below w.heap.size w wx)
  case atStart => exact ⟨0, by omega, rfl, by simp [cnt], rfl, HW.out⟩
  case round =>
    clear HW
    obtain ⟨i, hi, rfl, rfl, rfl, hQ, hT, hB⟩ := hrel
    have HR : Hid (Qd wr (w.heap.size + 1) p q r s ∧ TRow wr a L ∧ Below w.heap.size w wr) := ⟨hQ, hT, hB⟩
    clear hQ hT hB
    obtain ⟨n, hn⟩ : ∃ n, n = cnt (L.take i) p q r s := ⟨_, rfl⟩
    have hn2 : n ≤ 256 := by have := cnt_le L p q r s i; omega
    have HN : Hid (n = cnt (L.take i) p q r s) := hn
    rw [← hn]
    clear hn
    by_cases h1 : i < L.length
    · have i1 : (i : Int) < (L.length : Int) := by omega
      have i0 : (0 : Int) ≤ (i : Int) := by omega
      obtain ⟨q0, q1, q2, q3⟩ := HR.out.1
      obtain ⟨g, rfl, t0, t1, t2⟩ := HR.out.2.1 i h1
      have hbd := HBD.out _ (List.getElem_mem h1)
      obtain ⟨t, ht⟩ : ∃ t, t = L[i] := ⟨_, rfl⟩
      obtain ⟨x, y, k⟩ := t
      rw [← ht] at t0 t1 t2 hbd
      dsimp only at t0 t1 t2 hbd
      have HCN : Hid (cnt (L.take (i + 1)) p q r s = n + if hasB x y k p q r s = true then 1 else 0) := by
        show cnt (L.take (i + 1)) p q r s = n + if hasB x y k p q r s = true then 1 else 0
        rw [cnt_next h1, ← ht, ← HN.out]
      have C53 : Hid (∀ W' : World, Calls Tryd.prog 53 #[.agg #[.int .i64 x, .int .i64 y, .int .i64 k], .agg #[.int .i64 p, .int .i64 q, .int .i64 r, .int .i64 s]] W' fun e w' => e = .returned (.bool (hasB x y k p q r s)) ∧ Below W'.heap.size W' w') := fun W' => hasEdge_any x y k p q r s W' (by omega) (by omega) (by omega) (by omega) (by omega) (by omega)
      clear ht hbd
      have zq : w.heap.size + 1 < wr.heap.size := World.block_lt_of_cell? _ _ q0
      have zg : g < wr.heap.size := World.block_lt_of_cell? _ _ t0
      go_wp2
      go_cut [21] (fun s21 wx => s21 = .bool (hasB x y k p q r s) ∧ Below wr.heap.size wr wx)
      case first =>
        go_region_held3 (fun w' => w'.cell? ⟨g, i * 3, none⟩ = some (.int .i64 x) ∧ w'.cell? ⟨g, i * 3 + 1, none⟩ = some (.int .i64 y) ∧ w'.cell? ⟨g, i * 3 + 2, none⟩ = some (.int .i64 k) ∧ w'.cell? ⟨w.heap.size + 1, 0, none⟩ = some (.int .i64 p) ∧ w'.cell? ⟨w.heap.size + 1, 1, none⟩ = some (.int .i64 q) ∧ w'.cell? ⟨w.heap.size + 1, 2, none⟩ = some (.int .i64 r) ∧ w'.cell? ⟨w.heap.size + 1, 3, none⟩ = some (.int .i64 s))
          ((refine ⟨?_, ?_, ?_, ?_, ?_, ?_, ?_⟩ <;> (repeat' (first | (with_reducible assumption) | (dsimp only; omega) | (simp [go_sem]; done) | (with_reducible refine al_old ?_) | (with_reducible refine dr_old ?_)))))
          ((go_at_call 53; refine (C53.out _).mono ?_; rintro e w8 ⟨rfl, hb⟩; have t0' : w8.cell? ⟨g, i * 3, none⟩ = some (.int .i64 x) := cl_kept hb (by with_reducible (repeat (first | assumption | refine dr_old ?_))); have t1' : w8.cell? ⟨g, i * 3 + 1, none⟩ = some (.int .i64 y) := cl_kept hb (by with_reducible (repeat (first | assumption | refine dr_old ?_))); have t2' : w8.cell? ⟨g, i * 3 + 2, none⟩ = some (.int .i64 k) := cl_kept hb (by with_reducible (repeat (first | assumption | refine dr_old ?_))); have q0' : w8.cell? ⟨w.heap.size + 1, 0, none⟩ = some (.int .i64 p) := cl_kept hb (by with_reducible (repeat (first | assumption | refine dr_old ?_))); have q1' : w8.cell? ⟨w.heap.size + 1, 1, none⟩ = some (.int .i64 q) := cl_kept hb (by with_reducible (repeat (first | assumption | refine dr_old ?_))); have q2' : w8.cell? ⟨w.heap.size + 1, 2, none⟩ = some (.int .i64 r) := cl_kept hb (by with_reducible (repeat (first | assumption | refine dr_old ?_))); have q3' : w8.cell? ⟨w.heap.size + 1, 3, none⟩ = some (.int .i64 s) := cl_kept hb (by with_reducible (repeat (first | assumption | refine dr_old ?_))); have hq : Below wr.heap.size wr w8 := (by with_reducible (first | exact hb | exact bl_undrew hb | exact bl_undrew (bl_undrew hb))); have HQ : Hid (Below wr.heap.size wr w8) := hq; clear hb hq))
        all_goals
          go_wp2
          go_meet
          case rel =>
            refine ⟨rfl, ?_⟩
            with_reducible repeat' (first | exact HQ.out | refine bl_drew ?_)
      case rest =>
        obtain ⟨rfl, hBc⟩ := hcut
        have HC : Hid (Qd wc (w.heap.size + 1) p q r s ∧ TRow wc (some ⟨g, 0, none⟩) L ∧ Below w.heap.size w wc) := ⟨HR.out.1.kept hBc, HR.out.2.1.kept hBc, bl_via HR.out.2.2 hBc⟩
        clear hBc q0 q1 q2 q3 t0 t1 t2 zq zg HR
        cases hh : hasB x y k p q r s
        · have HM : Hid (cnt (L.take (i + 1)) p q r s = n) := by
            show cnt (L.take (i + 1)) p q r s = n
            rw [HCN.out, hh]
            simp
          go_wp2
          go_roundg (L.length - (i + 1))
          case measure => omega
          case rel => exact ⟨i + 1, by omega, rfl, by rw [HM.out], by go_num, HC.out⟩
        · have HM : Hid (cnt (L.take (i + 1)) p q r s = n + 1) := by
            show cnt (L.take (i + 1)) p q r s = n + 1
            rw [HCN.out, hh]
            simp
          go_wp2
          go_roundg (L.length - (i + 1))
          case measure => omega
          case rel => exact ⟨i + 1, by omega, rfl, by rw [HM.out]; go_num, by go_num, HC.out⟩
    · have i1 : ¬ (i : Int) < (L.length : Int) := by omega
      have HM : Hid (n = cnt L p q r s) := by
        show n = cnt L p q r s
        rw [HN.out, List.take_of_length_le (by omega)]
      go_wp2
      go_ret
      refine ⟨ret_bool ?_, HR.out.2.2⟩
      rw [← HM.out]
      rw [Bool.eq_iff_iff]
      simp
      omega
end Go.Proofs.YthkhiedpkmpifaaDoor

