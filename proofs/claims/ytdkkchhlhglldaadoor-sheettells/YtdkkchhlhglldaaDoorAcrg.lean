/- What lies across an edge: the grid's beyondSide and Across. -/
import Derived.Test.YtdkkchhlhglldaaDoorEdgy
import Derived.Test.YtdkkchhlhglldaaDoorPkc
import Derived.Test.YtdkkchhlhglldaaDoorAnsx
namespace Go.Proofs.YtdkkchhlhglldaaDoor
open Go.RowKit
attribute [local go_sem ↓] Go.wp_at_zero Go.wp_at_succ

theorem sameB_sym (a b c d p q r s : Int) : sameB a b c d p q r s = sameB p q r s a b c d := by
  unfold sameB
  congr 1
  simp [eq_comm]

set_option maxHeartbeats 800000 in
theorem answerTri_39_0 (x y k : Int) (pa pt : Nat) (w : World) (hcall : ∀ W : World, Below w.heap.size w W → Calls Tryd.prog 48 #[.pointer (some ⟨pa, 0, none⟩), .pointer (some ⟨pt, 0, none⟩)] W fun r w' => r = .returned (.tuple #[.agg #[.int .i64 x, .int .i64 y, .int .i64 k], .int .i64 0]) ∧ Below W.heap.size W w') :
    Calls Tryd.prog 47 #[.bool true, .func (.func 48) #[] #[.pointer (some ⟨pa, 0, none⟩), .pointer (some ⟨pt, 0, none⟩)]] w fun r w' => r = .returned (.tuple #[.agg #[.int .i64 x, .int .i64 y, .int .i64 k], .int .i64 0]) ∧ Below w.heap.size w w' := by
  have HC : Hid (∀ W : World, Below w.heap.size w W → Calls Tryd.prog 48 #[.pointer (some ⟨pa, 0, none⟩), .pointer (some ⟨pt, 0, none⟩)] W fun r w' => r = .returned (.tuple #[.agg #[.int .i64 x, .int .i64 y, .int .i64 k], .int .i64 0]) ∧ Below W.heap.size W w') := hcall
  clear hcall
  go_enter Tryd.func47, Tryd.ntmps47
  go_wp2_with (go_at_call 48; refine (HC.out _ (bl_alloc (bl_alloc (bl_refl _)))).mono ?_; rintro r w2 ⟨rfl, hb⟩; have r0 : w2.cell? ⟨w.heap.size, 0, none⟩ = some (.int .i64 0) := cl_kept hb (by first | (simp [go_sem]; done) | (simp [go_sem, World.cell?_alloc_past]; done)); have f0' : w2.frozen? ⟨w.heap.size, 0, none⟩ = false := (hb.frozen (p := ⟨w.heap.size, 0, none⟩) (by simp <;> omega)).trans (by simp [go_sem]); have r1 : w2.cell? ⟨w.heap.size, 1, none⟩ = some (.int .i64 0) := cl_kept hb (by first | (simp [go_sem]; done) | (simp [go_sem, World.cell?_alloc_past]; done)); have f1' : w2.frozen? ⟨w.heap.size, 1, none⟩ = false := (hb.frozen (p := ⟨w.heap.size, 1, none⟩) (by simp <;> omega)).trans (by simp [go_sem]); have r2 : w2.cell? ⟨w.heap.size, 2, none⟩ = some (.int .i64 0) := cl_kept hb (by first | (simp [go_sem]; done) | (simp [go_sem, World.cell?_alloc_past]; done)); have f2' : w2.frozen? ⟨w.heap.size, 2, none⟩ = false := (hb.frozen (p := ⟨w.heap.size, 2, none⟩) (by simp <;> omega)).trans (by simp [go_sem]); have zz0 : w.heap.size < w2.heap.size := World.block_lt_of_cell? (w := w2) (a := ⟨w.heap.size, 0, none⟩) r0; have zz1 : w.heap.size < w2.heap.size + 1 := (by omega); have zz2 : w.heap.size < w2.heap.size + 1 + 1 := (by omega); have zz3 : w.heap.size < w2.heap.size + 1 + 1 + 1 := (by omega); have zz4 : w.heap.size < w2.heap.size + 1 + 1 + 1 + 1 := (by omega); have zz5 : w.heap.size < w2.heap.size + 1 + 1 + 1 + 1 + 1 := (by omega); have HB : Hid (Below w.heap.size w w2) := bl_via (bl_alloc (bl_alloc (bl_refl _))) hb; clear hb)
  refine bodyPost_ret (v := .tuple #[.agg #[.int .i64 x, .int .i64 y, .int .i64 k], .int .i64 0]) ?_ rfl ⟨rfl, ?_⟩
  · first | (simp [results, Tryd.results47, go_sem, *]; done) | (simp [results, Tryd.results47, go_sem, World.cell?_alloc_past, *]; done)
  · with_reducible repeat' (first | exact HB.out | refine bl_set ?_ ?_ | refine bl_alloc ?_ | refine bl_drew ?_)
    all_goals (first | (simp; done) | (simp; omega))

set_option maxHeartbeats 800000 in
theorem answerTri_39_5 (pa pt : Nat) (w : World) (hcall : ∀ W : World, Below w.heap.size w W → Calls Tryd.prog 48 #[.pointer (some ⟨pa, 0, none⟩), .pointer (some ⟨pt, 0, none⟩)] W fun r w' => r = .returned (.tuple #[.agg #[.int .i64 0, .int .i64 0, .int .i64 0], .int .i64 5]) ∧ Below W.heap.size W w') :
    Calls Tryd.prog 47 #[.bool true, .func (.func 48) #[] #[.pointer (some ⟨pa, 0, none⟩), .pointer (some ⟨pt, 0, none⟩)]] w fun r w' => r = .returned (.tuple #[.agg #[.int .i64 0, .int .i64 0, .int .i64 0], .int .i64 5]) ∧ Below w.heap.size w w' := by
  have HC : Hid (∀ W : World, Below w.heap.size w W → Calls Tryd.prog 48 #[.pointer (some ⟨pa, 0, none⟩), .pointer (some ⟨pt, 0, none⟩)] W fun r w' => r = .returned (.tuple #[.agg #[.int .i64 0, .int .i64 0, .int .i64 0], .int .i64 5]) ∧ Below W.heap.size W w') := hcall
  clear hcall
  go_enter Tryd.func47, Tryd.ntmps47
  go_wp2_with (go_at_call 48; refine (HC.out _ (bl_alloc (bl_alloc (bl_refl _)))).mono ?_; rintro r w2 ⟨rfl, hb⟩; have r0 : w2.cell? ⟨w.heap.size, 0, none⟩ = some (.int .i64 0) := cl_kept hb (by first | (simp [go_sem]; done) | (simp [go_sem, World.cell?_alloc_past]; done)); have f0' : w2.frozen? ⟨w.heap.size, 0, none⟩ = false := (hb.frozen (p := ⟨w.heap.size, 0, none⟩) (by simp <;> omega)).trans (by simp [go_sem]); have r1 : w2.cell? ⟨w.heap.size, 1, none⟩ = some (.int .i64 0) := cl_kept hb (by first | (simp [go_sem]; done) | (simp [go_sem, World.cell?_alloc_past]; done)); have f1' : w2.frozen? ⟨w.heap.size, 1, none⟩ = false := (hb.frozen (p := ⟨w.heap.size, 1, none⟩) (by simp <;> omega)).trans (by simp [go_sem]); have r2 : w2.cell? ⟨w.heap.size, 2, none⟩ = some (.int .i64 0) := cl_kept hb (by first | (simp [go_sem]; done) | (simp [go_sem, World.cell?_alloc_past]; done)); have f2' : w2.frozen? ⟨w.heap.size, 2, none⟩ = false := (hb.frozen (p := ⟨w.heap.size, 2, none⟩) (by simp <;> omega)).trans (by simp [go_sem]); have zz0 : w.heap.size < w2.heap.size := World.block_lt_of_cell? (w := w2) (a := ⟨w.heap.size, 0, none⟩) r0; have zz1 : w.heap.size < w2.heap.size + 1 := (by omega); have zz2 : w.heap.size < w2.heap.size + 1 + 1 := (by omega); have zz3 : w.heap.size < w2.heap.size + 1 + 1 + 1 := (by omega); have zz4 : w.heap.size < w2.heap.size + 1 + 1 + 1 + 1 := (by omega); have zz5 : w.heap.size < w2.heap.size + 1 + 1 + 1 + 1 + 1 := (by omega); have k0 : w2.cell? ⟨w.heap.size + 1, 0, none⟩ = some (.int .i64 0) := cl_kept hb (by first | (simp [go_sem]; done) | (simp [go_sem, World.cell?_alloc_past]; done)); have h0' : w2.frozen? ⟨w.heap.size + 1, 0, none⟩ = false := (hb.frozen (p := ⟨w.heap.size + 1, 0, none⟩) (by simp <;> omega)).trans (by simp [go_sem]); have k1 : w2.cell? ⟨w.heap.size + 1, 1, none⟩ = some (.int .i64 0) := cl_kept hb (by first | (simp [go_sem]; done) | (simp [go_sem, World.cell?_alloc_past]; done)); have h1' : w2.frozen? ⟨w.heap.size + 1, 1, none⟩ = false := (hb.frozen (p := ⟨w.heap.size + 1, 1, none⟩) (by simp <;> omega)).trans (by simp [go_sem]); have k2 : w2.cell? ⟨w.heap.size + 1, 2, none⟩ = some (.int .i64 0) := cl_kept hb (by first | (simp [go_sem]; done) | (simp [go_sem, World.cell?_alloc_past]; done)); have h2' : w2.frozen? ⟨w.heap.size + 1, 2, none⟩ = false := (hb.frozen (p := ⟨w.heap.size + 1, 2, none⟩) (by simp <;> omega)).trans (by simp [go_sem]); have yy0 : w.heap.size + 1 < w2.heap.size := World.block_lt_of_cell? (w := w2) (a := ⟨w.heap.size + 1, 0, none⟩) k0; have yy1 : w.heap.size + 1 < w2.heap.size + 1 := (by omega); have yy2 : w.heap.size + 1 < w2.heap.size + 1 + 1 := (by omega); have yy3 : w.heap.size + 1 < w2.heap.size + 1 + 1 + 1 := (by omega); have yy4 : w.heap.size + 1 < w2.heap.size + 1 + 1 + 1 + 1 := (by omega); have yy5 : w.heap.size + 1 < w2.heap.size + 1 + 1 + 1 + 1 + 1 := (by omega); have HB : Hid (Below w.heap.size w w2) := bl_via (bl_alloc (bl_alloc (bl_refl _))) hb; clear hb)
  refine bodyPost_ret (v := .tuple #[.agg #[.int .i64 0, .int .i64 0, .int .i64 0], .int .i64 5]) ?_ rfl ⟨rfl, ?_⟩
  · first | (simp [results, Tryd.results47, go_sem, *]; done) | (simp [results, Tryd.results47, go_sem, World.cell?_alloc_past, *]; done)
  · with_reducible repeat' (first | exact HB.out | refine bl_set ?_ ?_ | refine bl_alloc ?_ | refine bl_drew ?_)
    all_goals (first | (simp; done) | (simp; omega))


set_option maxRecDepth 100000 in
set_option maxHeartbeats 1600000 in
theorem beyond_any (x y k : Int) (w : World) (h : triB x y k = true) (hs : Steps w) :
    Calls Tryd.prog 50 #[.agg #[.int .i64 x, .int .i64 y, .int .i64 k]] w fun r w' => r = .returned (.agg #[.int .i64 (x + outX k), .int .i64 (y + outY k), .int .i64 ((k + 2) % 4)]) ∧ Below w.heap.size w w' := by
  have hb : 0 ≤ k ∧ k ≤ 3 ∧ -1000000 ≤ x ∧ x ≤ 1000000 ∧ -1000000 ≤ y ∧ y ≤ 1000000 := by simpa [triB] using h
  obtain ⟨k0, k3, b1, b2, b3, b4⟩ := hb
  have ox := outX_bd k
  have oy := outY_bd k
  have wX : IntKind.i64.wrap (x + outX k) = x + outX k := wrap_of (by omega) (by omega)
  have wY : IntKind.i64.wrap (y + outY k) = y + outY k := wrap_of (by omega) (by omega)
  have HS : Hid (Steps w) := hs
  clear hs h
  go_enter Tryd.func50, Tryd.ntmps50
  go_wp2_with (go_at_call 85; refine (outward_any _ _ k0 k3 (HS.out.kept (bl_alloc (bl_alloc (bl_refl _))))).mono ?_; rintro r w1 ⟨rfl, hb⟩; have t0 : w1.cell? ⟨w.heap.size, 0, none⟩ = some (.int .i64 x) := cl_kept hb (by simp [go_sem]); have t1 : w1.cell? ⟨w.heap.size, 1, none⟩ = some (.int .i64 y) := cl_kept hb (by simp [go_sem]); have t2 : w1.cell? ⟨w.heap.size, 2, none⟩ = some (.int .i64 k) := cl_kept hb (by simp [go_sem]); have r0 : w1.cell? ⟨w.heap.size + 1, 0, none⟩ = some (.int .i64 0) := cl_kept hb (by first | (simp [go_sem]; done) | (simp [go_sem, World.cell?_alloc_past]; done)); have f0' : w1.frozen? ⟨w.heap.size + 1, 0, none⟩ = false := (hb.frozen (p := ⟨w.heap.size + 1, 0, none⟩) (by simp <;> omega)).trans (by simp [go_sem]); have r1 : w1.cell? ⟨w.heap.size + 1, 1, none⟩ = some (.int .i64 0) := cl_kept hb (by first | (simp [go_sem]; done) | (simp [go_sem, World.cell?_alloc_past]; done)); have f1' : w1.frozen? ⟨w.heap.size + 1, 1, none⟩ = false := (hb.frozen (p := ⟨w.heap.size + 1, 1, none⟩) (by simp <;> omega)).trans (by simp [go_sem]); have r2 : w1.cell? ⟨w.heap.size + 1, 2, none⟩ = some (.int .i64 0) := cl_kept hb (by first | (simp [go_sem]; done) | (simp [go_sem, World.cell?_alloc_past]; done)); have f2' : w1.frozen? ⟨w.heap.size + 1, 2, none⟩ = false := (hb.frozen (p := ⟨w.heap.size + 1, 2, none⟩) (by simp <;> omega)).trans (by simp [go_sem]); have zz0 : w.heap.size + 1 < w1.heap.size := World.block_lt_of_cell? (w := w1) (a := ⟨w.heap.size + 1, 0, none⟩) r0; have zz1 : w.heap.size + 1 < w1.heap.size + 1 := (by omega); have zz2 : w.heap.size + 1 < w1.heap.size + 1 + 1 := (by omega); have zz3 : w.heap.size + 1 < w1.heap.size + 1 + 1 + 1 := (by omega); have zz4 : w.heap.size + 1 < w1.heap.size + 1 + 1 + 1 + 1 := (by omega); have zz5 : w.heap.size + 1 < w1.heap.size + 1 + 1 + 1 + 1 + 1 := (by omega); have yy0 : w.heap.size < w1.heap.size := (by omega); have yy1 : w.heap.size < w1.heap.size + 1 := (by omega); have yy2 : w.heap.size < w1.heap.size + 1 + 1 := (by omega); have yy3 : w.heap.size < w1.heap.size + 1 + 1 + 1 := (by omega); have yy4 : w.heap.size < w1.heap.size + 1 + 1 + 1 + 1 := (by omega); have yy5 : w.heap.size < w1.heap.size + 1 + 1 + 1 + 1 + 1 := (by omega); have HB : Hid (Below w.heap.size w w1) := bl_via (bl_alloc (bl_alloc (bl_refl _))) hb; clear hb)
  go_region_held3 (fun w' => w'.cell? ⟨w.heap.size, 0, none⟩ = some (.int .i64 x) ∧ w'.cell? ⟨w.heap.size, 1, none⟩ = some (.int .i64 y) ∧ w'.cell? ⟨w.heap.size, 2, none⟩ = some (.int .i64 k) ∧ w'.cell? ⟨w1.heap.size, 0, none⟩ = some (.int .i64 (outX k)) ∧ w'.cell? ⟨w1.heap.size, 1, none⟩ = some (.int .i64 (outY k)))
    ((refine ⟨?_, ?_, ?_, ?_, ?_⟩ <;> (repeat' (first | (with_reducible assumption) | (with_reducible refine st_old ?_ ?_) | (dsimp only; omega) | (simp [go_sem]; done) | (with_reducible refine al_old ?_) | (with_reducible refine dr_old ?_)))))
    ((go_at_call 49; refine (turned_any _ _ _ (by omega) (by omega) (by omega) (by omega)).mono ?_; rintro r w2 ⟨rfl, rfl⟩))
  go_wp2
  refine bodyPost_ret (v := .agg #[.int .i64 (x + outX k), .int .i64 (y + outY k), .int .i64 ((k + 2) % 4)]) ?_ rfl ⟨rfl, ?_⟩
  · first | (simp [results, Tryd.results50, go_sem, *]; done) | (simp [results, Tryd.results50, go_sem, World.cell?_alloc_past, *]; done)
  · with_reducible repeat' (first | exact HB.out | refine bl_set ?_ ?_ | refine bl_alloc ?_ | refine bl_drew ?_)
    all_goals (first | (simp; done) | (simp; omega))

/-- An edge's four numbers in a row of memory. -/
def Qd (w : World) (g : Nat) (p q r s : Int) : Prop := w.cell? ⟨g, 0, none⟩ = some (.int .i64 p) ∧ w.cell? ⟨g, 1, none⟩ = some (.int .i64 q) ∧ w.cell? ⟨g, 2, none⟩ = some (.int .i64 r) ∧ w.cell? ⟨g, 3, none⟩ = some (.int .i64 s)
theorem Qd.lt {w : World} {g : Nat} {p q r s : Int} (h : Qd w g p q r s) : g < w.heap.size := World.block_lt_of_cell? _ _ h.1
theorem Qd.kept {w wx : World} {g : Nat} {p q r s : Int} (h : Qd w g p q r s) (hb : Below w.heap.size w wx) : Qd wx g p q r s := by
  obtain ⟨h0, h1, h2, h3⟩ := h
  exact ⟨cl_kept hb h0, cl_kept hb h1, cl_kept hb h2, cl_kept hb h3⟩

set_option maxRecDepth 100000 in
set_option maxHeartbeats 3200000 in
theorem across1_a (x y k p q r s : Int) (pt pe : Nat) (w : World) (h : triB x y k = true) (hs : Steps w) (ht : Tr w pt x y k) (hp : Qd w pe p q r s) (h0 : sameB p q r s (ue0 x y k) (ue1 x y k) (ue2 x y k) (ue3 x y k) = true) :
    Calls Tryd.prog 48 #[.pointer (some ⟨pt, 0, none⟩), .pointer (some ⟨pe, 0, none⟩)] w fun e w' => e = .returned (.tuple #[.agg #[.int .i64 x, .int .i64 y, .int .i64 ((k + 3) % 4)], .int .i64 0]) ∧ Below w.heap.size w w' := by
  have zt := ht.lt
  have ze := hp.lt
  obtain ⟨b0, b1, b2⟩ := ht
  obtain ⟨c0, c1, c2, c3⟩ := hp
  have he := eql27
  have hk : 0 ≤ k ∧ k ≤ 3 := by have := h; simp [triB] at this; omega
  obtain ⟨k0, k3⟩ := hk
  have HS : Hid (Steps w) := hs
  have HT : Hid (triB x y k = true) := h
  clear hs h
  go_enter Tryd.func48, Tryd.ntmps48
  go_wp2_with (first | (go_at_call 46; refine (edges_num _ _ _ _ HT.out (HS.out.kept (bl_alloc (bl_refl _)))).mono ?_; rintro e w1 ⟨rfl, hb⟩; have t0 : w1.cell? ⟨pt, 0, none⟩ = some (.int .i64 x) := cl_kept hb (by with_reducible exact al_old b0); have t1 : w1.cell? ⟨pt, 1, none⟩ = some (.int .i64 y) := cl_kept hb (by with_reducible exact al_old b1); have t2 : w1.cell? ⟨pt, 2, none⟩ = some (.int .i64 k) := cl_kept hb (by with_reducible exact al_old b2); have q0 : w1.cell? ⟨pe, 0, none⟩ = some (.int .i64 p) := cl_kept hb (by with_reducible exact al_old c0); have q1 : w1.cell? ⟨pe, 1, none⟩ = some (.int .i64 q) := cl_kept hb (by with_reducible exact al_old c1); have q2 : w1.cell? ⟨pe, 2, none⟩ = some (.int .i64 r) := cl_kept hb (by with_reducible exact al_old c2); have q3 : w1.cell? ⟨pe, 3, none⟩ = some (.int .i64 s) := cl_kept hb (by with_reducible exact al_old c3); have r0 : w1.cell? ⟨w.heap.size, 0, none⟩ = some (.int .i64 0) := cl_kept hb (by first | (simp [go_sem]; done) | (simp [go_sem, World.cell?_alloc_past]; done)); have f0' : w1.frozen? ⟨w.heap.size, 0, none⟩ = false := (hb.frozen (p := ⟨w.heap.size, 0, none⟩) (by simp <;> omega)).trans (by simp [go_sem]); have r1 : w1.cell? ⟨w.heap.size, 1, none⟩ = some (.int .i64 0) := cl_kept hb (by first | (simp [go_sem]; done) | (simp [go_sem, World.cell?_alloc_past]; done)); have f1' : w1.frozen? ⟨w.heap.size, 1, none⟩ = false := (hb.frozen (p := ⟨w.heap.size, 1, none⟩) (by simp <;> omega)).trans (by simp [go_sem]); have r2 : w1.cell? ⟨w.heap.size, 2, none⟩ = some (.int .i64 0) := cl_kept hb (by first | (simp [go_sem]; done) | (simp [go_sem, World.cell?_alloc_past]; done)); have f2' : w1.frozen? ⟨w.heap.size, 2, none⟩ = false := (hb.frozen (p := ⟨w.heap.size, 2, none⟩) (by simp <;> omega)).trans (by simp [go_sem]); have zz0 : w.heap.size < w1.heap.size := World.block_lt_of_cell? (w := w1) (a := ⟨w.heap.size, 0, none⟩) r0; have zz1 : w.heap.size < w1.heap.size + 1 := (by omega); have zz2 : w.heap.size < w1.heap.size + 1 + 1 := (by omega); have zz3 : w.heap.size < w1.heap.size + 1 + 1 + 1 := (by omega); have zz4 : w.heap.size < w1.heap.size + 1 + 1 + 1 + 1 := (by omega); have zz5 : w.heap.size < w1.heap.size + 1 + 1 + 1 + 1 + 1 := (by omega); have xt0 : pt < w1.heap.size := (by omega); have xt1 : pt < w1.heap.size + 1 := (by omega); have xt2 : pt < w1.heap.size + 1 + 1 := (by omega); have xt3 : pt < w1.heap.size + 1 + 1 + 1 := (by omega); have xt4 : pt < w1.heap.size + 1 + 1 + 1 + 1 := (by omega); have xe0 : pe < w1.heap.size := (by omega); have xe1 : pe < w1.heap.size + 1 := (by omega); have xe2 : pe < w1.heap.size + 1 + 1 := (by omega); have xe3 : pe < w1.heap.size + 1 + 1 + 1 := (by omega); have xe4 : pe < w1.heap.size + 1 + 1 + 1 + 1 := (by omega); have HB : Hid (Below w.heap.size w w1) := bl_via (bl_alloc (bl_refl _)) hb; clear hb))
  go_region_held3 (fun w' => w'.cell? ⟨pt, 0, none⟩ = some (.int .i64 x) ∧ w'.cell? ⟨pt, 1, none⟩ = some (.int .i64 y) ∧ w'.cell? ⟨pt, 2, none⟩ = some (.int .i64 k))
    ((refine ⟨?_, ?_, ?_⟩ <;> (repeat' (first | (with_reducible assumption) | (with_reducible refine st_old ?_ ?_) | (dsimp only; omega) | (simp [go_sem]; done) | (with_reducible refine al_old ?_) | (with_reducible refine dr_old ?_)))))
    ((go_at_call 49; refine (turned_any _ _ _ (by omega) (by omega) (by omega) (by omega)).mono ?_; rintro r w2 ⟨rfl, rfl⟩))
  go_wp2
  refine bodyPost_ret (v := .tuple #[.agg #[.int .i64 x, .int .i64 y, .int .i64 ((k + 3) % 4)], .int .i64 0]) ?_ rfl ⟨rfl, ?_⟩
  · first | (simp [results, Tryd.results48, go_sem, *]; done) | (simp [results, Tryd.results48, go_sem, World.cell?_alloc_past, *]; done)
  · with_reducible repeat' (first | exact HB.out | refine bl_set ?_ ?_ | refine bl_alloc ?_ | refine bl_drew ?_)
    all_goals (first | (simp; done) | (simp; omega))

set_option maxRecDepth 100000 in
set_option maxHeartbeats 3200000 in
theorem across1_b (x y k p q r s : Int) (pt pe : Nat) (w : World) (h : triB x y k = true) (hs : Steps w) (ht : Tr w pt x y k) (hp : Qd w pe p q r s) (h0 : sameB p q r s (ue0 x y k) (ue1 x y k) (ue2 x y k) (ue3 x y k) = false) (h1 : sameB p q r s (ue4 x y k) (ue5 x y k) (ue6 x y k) (ue7 x y k) = true) :
    Calls Tryd.prog 48 #[.pointer (some ⟨pt, 0, none⟩), .pointer (some ⟨pe, 0, none⟩)] w fun e w' => e = .returned (.tuple #[.agg #[.int .i64 (x + outX k), .int .i64 (y + outY k), .int .i64 ((k + 2) % 4)], .int .i64 0]) ∧ Below w.heap.size w w' := by
  have zt := ht.lt
  have ze := hp.lt
  obtain ⟨b0, b1, b2⟩ := ht
  obtain ⟨c0, c1, c2, c3⟩ := hp
  have he := eql27
  have hk : 0 ≤ k ∧ k ≤ 3 := by have := h; simp [triB] at this; omega
  obtain ⟨k0, k3⟩ := hk
  have HS : Hid (Steps w) := hs
  have HT : Hid (triB x y k = true) := h
  clear hs h
  go_enter Tryd.func48, Tryd.ntmps48
  go_wp2_with (first | (go_at_call 46; refine (edges_num _ _ _ _ HT.out (HS.out.kept (bl_alloc (bl_refl _)))).mono ?_; rintro e w1 ⟨rfl, hb⟩; have t0 : w1.cell? ⟨pt, 0, none⟩ = some (.int .i64 x) := cl_kept hb (by with_reducible exact al_old b0); have t1 : w1.cell? ⟨pt, 1, none⟩ = some (.int .i64 y) := cl_kept hb (by with_reducible exact al_old b1); have t2 : w1.cell? ⟨pt, 2, none⟩ = some (.int .i64 k) := cl_kept hb (by with_reducible exact al_old b2); have q0 : w1.cell? ⟨pe, 0, none⟩ = some (.int .i64 p) := cl_kept hb (by with_reducible exact al_old c0); have q1 : w1.cell? ⟨pe, 1, none⟩ = some (.int .i64 q) := cl_kept hb (by with_reducible exact al_old c1); have q2 : w1.cell? ⟨pe, 2, none⟩ = some (.int .i64 r) := cl_kept hb (by with_reducible exact al_old c2); have q3 : w1.cell? ⟨pe, 3, none⟩ = some (.int .i64 s) := cl_kept hb (by with_reducible exact al_old c3); have r0 : w1.cell? ⟨w.heap.size, 0, none⟩ = some (.int .i64 0) := cl_kept hb (by first | (simp [go_sem]; done) | (simp [go_sem, World.cell?_alloc_past]; done)); have f0' : w1.frozen? ⟨w.heap.size, 0, none⟩ = false := (hb.frozen (p := ⟨w.heap.size, 0, none⟩) (by simp <;> omega)).trans (by simp [go_sem]); have r1 : w1.cell? ⟨w.heap.size, 1, none⟩ = some (.int .i64 0) := cl_kept hb (by first | (simp [go_sem]; done) | (simp [go_sem, World.cell?_alloc_past]; done)); have f1' : w1.frozen? ⟨w.heap.size, 1, none⟩ = false := (hb.frozen (p := ⟨w.heap.size, 1, none⟩) (by simp <;> omega)).trans (by simp [go_sem]); have r2 : w1.cell? ⟨w.heap.size, 2, none⟩ = some (.int .i64 0) := cl_kept hb (by first | (simp [go_sem]; done) | (simp [go_sem, World.cell?_alloc_past]; done)); have f2' : w1.frozen? ⟨w.heap.size, 2, none⟩ = false := (hb.frozen (p := ⟨w.heap.size, 2, none⟩) (by simp <;> omega)).trans (by simp [go_sem]); have zz0 : w.heap.size < w1.heap.size := World.block_lt_of_cell? (w := w1) (a := ⟨w.heap.size, 0, none⟩) r0; have zz1 : w.heap.size < w1.heap.size + 1 := (by omega); have zz2 : w.heap.size < w1.heap.size + 1 + 1 := (by omega); have zz3 : w.heap.size < w1.heap.size + 1 + 1 + 1 := (by omega); have zz4 : w.heap.size < w1.heap.size + 1 + 1 + 1 + 1 := (by omega); have zz5 : w.heap.size < w1.heap.size + 1 + 1 + 1 + 1 + 1 := (by omega); have xt0 : pt < w1.heap.size := (by omega); have xt1 : pt < w1.heap.size + 1 := (by omega); have xt2 : pt < w1.heap.size + 1 + 1 := (by omega); have xt3 : pt < w1.heap.size + 1 + 1 + 1 := (by omega); have xt4 : pt < w1.heap.size + 1 + 1 + 1 + 1 := (by omega); have xe0 : pe < w1.heap.size := (by omega); have xe1 : pe < w1.heap.size + 1 := (by omega); have xe2 : pe < w1.heap.size + 1 + 1 := (by omega); have xe3 : pe < w1.heap.size + 1 + 1 + 1 := (by omega); have xe4 : pe < w1.heap.size + 1 + 1 + 1 + 1 := (by omega); have HB : Hid (Below w.heap.size w w1) := bl_via (bl_alloc (bl_refl _)) hb; clear hb) | (go_at_call 50; refine (beyond_any _ _ _ _ HT.out (HS.out.kept (bl_alloc HB.out))).mono ?_; rintro e w2 ⟨rfl, hb⟩; have s0 : w2.cell? ⟨w.heap.size, 0, none⟩ = some (.int .i64 0) := cl_kept hb (by first | (with_reducible exact al_old (by assumption)) | (simp [go_sem]; done) | (simp [go_sem, World.cell?_alloc_past]; done)); have g0' : w2.frozen? ⟨w.heap.size, 0, none⟩ = false := (hb.frozen (p := ⟨w.heap.size, 0, none⟩) (by simp <;> omega)).trans (by first | (simp [go_sem]; done) | (simp [go_sem, *]; done)); have s1 : w2.cell? ⟨w.heap.size, 1, none⟩ = some (.int .i64 0) := cl_kept hb (by first | (with_reducible exact al_old (by assumption)) | (simp [go_sem]; done) | (simp [go_sem, World.cell?_alloc_past]; done)); have g1' : w2.frozen? ⟨w.heap.size, 1, none⟩ = false := (hb.frozen (p := ⟨w.heap.size, 1, none⟩) (by simp <;> omega)).trans (by first | (simp [go_sem]; done) | (simp [go_sem, *]; done)); have s2 : w2.cell? ⟨w.heap.size, 2, none⟩ = some (.int .i64 0) := cl_kept hb (by first | (with_reducible exact al_old (by assumption)) | (simp [go_sem]; done) | (simp [go_sem, World.cell?_alloc_past]; done)); have g2' : w2.frozen? ⟨w.heap.size, 2, none⟩ = false := (hb.frozen (p := ⟨w.heap.size, 2, none⟩) (by simp <;> omega)).trans (by first | (simp [go_sem]; done) | (simp [go_sem, *]; done)); have ww0 : w.heap.size < w2.heap.size := World.block_lt_of_cell? (w := w2) (a := ⟨w.heap.size, 0, none⟩) s0; have ww1 : w.heap.size < w2.heap.size + 1 := (by omega); have ww2 : w.heap.size < w2.heap.size + 1 + 1 := (by omega); have ww3 : w.heap.size < w2.heap.size + 1 + 1 + 1 := (by omega); have ww4 : w.heap.size < w2.heap.size + 1 + 1 + 1 + 1 := (by omega); have ww5 : w.heap.size < w2.heap.size + 1 + 1 + 1 + 1 + 1 := (by omega); have HB2 : Hid (Below w.heap.size w w2) := bl_via (bl_alloc HB.out) hb; clear hb))
  refine bodyPost_ret (v := .tuple #[.agg #[.int .i64 (x + outX k), .int .i64 (y + outY k), .int .i64 ((k + 2) % 4)], .int .i64 0]) ?_ rfl ⟨rfl, ?_⟩
  · first | (simp [results, Tryd.results48, go_sem, *]; done) | (simp [results, Tryd.results48, go_sem, World.cell?_alloc_past, *]; done)
  · with_reducible repeat' (first | exact HB2.out | refine bl_set ?_ ?_ | refine bl_alloc ?_ | refine bl_drew ?_)
    all_goals (first | (simp; done) | (simp; omega))

set_option maxRecDepth 100000 in
set_option maxHeartbeats 3200000 in
theorem across1_c (x y k p q r s : Int) (pt pe : Nat) (w : World) (h : triB x y k = true) (hs : Steps w) (ht : Tr w pt x y k) (hp : Qd w pe p q r s) (h0 : sameB p q r s (ue0 x y k) (ue1 x y k) (ue2 x y k) (ue3 x y k) = false) (h1 : sameB p q r s (ue4 x y k) (ue5 x y k) (ue6 x y k) (ue7 x y k) = false) (h2 : sameB p q r s (ue8 x y k) (ue9 x y k) (ue10 x y k) (ue11 x y k) = true) :
    Calls Tryd.prog 48 #[.pointer (some ⟨pt, 0, none⟩), .pointer (some ⟨pe, 0, none⟩)] w fun e w' => e = .returned (.tuple #[.agg #[.int .i64 x, .int .i64 y, .int .i64 ((k + 1) % 4)], .int .i64 0]) ∧ Below w.heap.size w w' := by
  have zt := ht.lt
  have ze := hp.lt
  obtain ⟨b0, b1, b2⟩ := ht
  obtain ⟨c0, c1, c2, c3⟩ := hp
  have he := eql27
  have hk : 0 ≤ k ∧ k ≤ 3 := by have := h; simp [triB] at this; omega
  obtain ⟨k0, k3⟩ := hk
  have HS : Hid (Steps w) := hs
  have HT : Hid (triB x y k = true) := h
  clear hs h
  go_enter Tryd.func48, Tryd.ntmps48
  go_wp2_with (first | (go_at_call 46; refine (edges_num _ _ _ _ HT.out (HS.out.kept (bl_alloc (bl_refl _)))).mono ?_; rintro e w1 ⟨rfl, hb⟩; have t0 : w1.cell? ⟨pt, 0, none⟩ = some (.int .i64 x) := cl_kept hb (by with_reducible exact al_old b0); have t1 : w1.cell? ⟨pt, 1, none⟩ = some (.int .i64 y) := cl_kept hb (by with_reducible exact al_old b1); have t2 : w1.cell? ⟨pt, 2, none⟩ = some (.int .i64 k) := cl_kept hb (by with_reducible exact al_old b2); have q0 : w1.cell? ⟨pe, 0, none⟩ = some (.int .i64 p) := cl_kept hb (by with_reducible exact al_old c0); have q1 : w1.cell? ⟨pe, 1, none⟩ = some (.int .i64 q) := cl_kept hb (by with_reducible exact al_old c1); have q2 : w1.cell? ⟨pe, 2, none⟩ = some (.int .i64 r) := cl_kept hb (by with_reducible exact al_old c2); have q3 : w1.cell? ⟨pe, 3, none⟩ = some (.int .i64 s) := cl_kept hb (by with_reducible exact al_old c3); have r0 : w1.cell? ⟨w.heap.size, 0, none⟩ = some (.int .i64 0) := cl_kept hb (by first | (simp [go_sem]; done) | (simp [go_sem, World.cell?_alloc_past]; done)); have f0' : w1.frozen? ⟨w.heap.size, 0, none⟩ = false := (hb.frozen (p := ⟨w.heap.size, 0, none⟩) (by simp <;> omega)).trans (by simp [go_sem]); have r1 : w1.cell? ⟨w.heap.size, 1, none⟩ = some (.int .i64 0) := cl_kept hb (by first | (simp [go_sem]; done) | (simp [go_sem, World.cell?_alloc_past]; done)); have f1' : w1.frozen? ⟨w.heap.size, 1, none⟩ = false := (hb.frozen (p := ⟨w.heap.size, 1, none⟩) (by simp <;> omega)).trans (by simp [go_sem]); have r2 : w1.cell? ⟨w.heap.size, 2, none⟩ = some (.int .i64 0) := cl_kept hb (by first | (simp [go_sem]; done) | (simp [go_sem, World.cell?_alloc_past]; done)); have f2' : w1.frozen? ⟨w.heap.size, 2, none⟩ = false := (hb.frozen (p := ⟨w.heap.size, 2, none⟩) (by simp <;> omega)).trans (by simp [go_sem]); have zz0 : w.heap.size < w1.heap.size := World.block_lt_of_cell? (w := w1) (a := ⟨w.heap.size, 0, none⟩) r0; have zz1 : w.heap.size < w1.heap.size + 1 := (by omega); have zz2 : w.heap.size < w1.heap.size + 1 + 1 := (by omega); have zz3 : w.heap.size < w1.heap.size + 1 + 1 + 1 := (by omega); have zz4 : w.heap.size < w1.heap.size + 1 + 1 + 1 + 1 := (by omega); have zz5 : w.heap.size < w1.heap.size + 1 + 1 + 1 + 1 + 1 := (by omega); have xt0 : pt < w1.heap.size := (by omega); have xt1 : pt < w1.heap.size + 1 := (by omega); have xt2 : pt < w1.heap.size + 1 + 1 := (by omega); have xt3 : pt < w1.heap.size + 1 + 1 + 1 := (by omega); have xt4 : pt < w1.heap.size + 1 + 1 + 1 + 1 := (by omega); have xe0 : pe < w1.heap.size := (by omega); have xe1 : pe < w1.heap.size + 1 := (by omega); have xe2 : pe < w1.heap.size + 1 + 1 := (by omega); have xe3 : pe < w1.heap.size + 1 + 1 + 1 := (by omega); have xe4 : pe < w1.heap.size + 1 + 1 + 1 + 1 := (by omega); have HB : Hid (Below w.heap.size w w1) := bl_via (bl_alloc (bl_refl _)) hb; clear hb))
  go_region_held3 (fun w' => w'.cell? ⟨pt, 0, none⟩ = some (.int .i64 x) ∧ w'.cell? ⟨pt, 1, none⟩ = some (.int .i64 y) ∧ w'.cell? ⟨pt, 2, none⟩ = some (.int .i64 k))
    ((refine ⟨?_, ?_, ?_⟩ <;> (repeat' (first | (with_reducible assumption) | (with_reducible refine st_old ?_ ?_) | (dsimp only; omega) | (simp [go_sem]; done) | (with_reducible refine al_old ?_) | (with_reducible refine dr_old ?_)))))
    ((go_at_call 49; refine (turned_any _ _ _ (by omega) (by omega) (by omega) (by omega)).mono ?_; rintro r w2 ⟨rfl, rfl⟩))
  go_wp2
  refine bodyPost_ret (v := .tuple #[.agg #[.int .i64 x, .int .i64 y, .int .i64 ((k + 1) % 4)], .int .i64 0]) ?_ rfl ⟨rfl, ?_⟩
  · first | (simp [results, Tryd.results48, go_sem, *]; done) | (simp [results, Tryd.results48, go_sem, World.cell?_alloc_past, *]; done)
  · with_reducible repeat' (first | exact HB.out | refine bl_set ?_ ?_ | refine bl_alloc ?_ | refine bl_drew ?_)
    all_goals (first | (simp; done) | (simp; omega))

set_option maxRecDepth 100000 in
set_option maxHeartbeats 3200000 in
theorem across1_d (x y k p q r s : Int) (pt pe : Nat) (w : World) (h : triB x y k = true) (hs : Steps w) (ht : Tr w pt x y k) (hp : Qd w pe p q r s) (h0 : sameB p q r s (ue0 x y k) (ue1 x y k) (ue2 x y k) (ue3 x y k) = false) (h1 : sameB p q r s (ue4 x y k) (ue5 x y k) (ue6 x y k) (ue7 x y k) = false) (h2 : sameB p q r s (ue8 x y k) (ue9 x y k) (ue10 x y k) (ue11 x y k) = false) :
    Calls Tryd.prog 48 #[.pointer (some ⟨pt, 0, none⟩), .pointer (some ⟨pe, 0, none⟩)] w fun e w' => e = .returned (.tuple #[.agg #[.int .i64 0, .int .i64 0, .int .i64 0], .int .i64 5]) ∧ Below w.heap.size w w' := by
  have zt := ht.lt
  have ze := hp.lt
  obtain ⟨b0, b1, b2⟩ := ht
  obtain ⟨c0, c1, c2, c3⟩ := hp
  have he := eql27
  have hk : 0 ≤ k ∧ k ≤ 3 := by have := h; simp [triB] at this; omega
  obtain ⟨k0, k3⟩ := hk
  have HS : Hid (Steps w) := hs
  have HT : Hid (triB x y k = true) := h
  clear hs h
  go_enter Tryd.func48, Tryd.ntmps48
  go_wp2_with (first | (go_at_call 46; refine (edges_num _ _ _ _ HT.out (HS.out.kept (bl_alloc (bl_refl _)))).mono ?_; rintro e w1 ⟨rfl, hb⟩; have t0 : w1.cell? ⟨pt, 0, none⟩ = some (.int .i64 x) := cl_kept hb (by with_reducible exact al_old b0); have t1 : w1.cell? ⟨pt, 1, none⟩ = some (.int .i64 y) := cl_kept hb (by with_reducible exact al_old b1); have t2 : w1.cell? ⟨pt, 2, none⟩ = some (.int .i64 k) := cl_kept hb (by with_reducible exact al_old b2); have q0 : w1.cell? ⟨pe, 0, none⟩ = some (.int .i64 p) := cl_kept hb (by with_reducible exact al_old c0); have q1 : w1.cell? ⟨pe, 1, none⟩ = some (.int .i64 q) := cl_kept hb (by with_reducible exact al_old c1); have q2 : w1.cell? ⟨pe, 2, none⟩ = some (.int .i64 r) := cl_kept hb (by with_reducible exact al_old c2); have q3 : w1.cell? ⟨pe, 3, none⟩ = some (.int .i64 s) := cl_kept hb (by with_reducible exact al_old c3); have r0 : w1.cell? ⟨w.heap.size, 0, none⟩ = some (.int .i64 0) := cl_kept hb (by first | (simp [go_sem]; done) | (simp [go_sem, World.cell?_alloc_past]; done)); have f0' : w1.frozen? ⟨w.heap.size, 0, none⟩ = false := (hb.frozen (p := ⟨w.heap.size, 0, none⟩) (by simp <;> omega)).trans (by simp [go_sem]); have r1 : w1.cell? ⟨w.heap.size, 1, none⟩ = some (.int .i64 0) := cl_kept hb (by first | (simp [go_sem]; done) | (simp [go_sem, World.cell?_alloc_past]; done)); have f1' : w1.frozen? ⟨w.heap.size, 1, none⟩ = false := (hb.frozen (p := ⟨w.heap.size, 1, none⟩) (by simp <;> omega)).trans (by simp [go_sem]); have r2 : w1.cell? ⟨w.heap.size, 2, none⟩ = some (.int .i64 0) := cl_kept hb (by first | (simp [go_sem]; done) | (simp [go_sem, World.cell?_alloc_past]; done)); have f2' : w1.frozen? ⟨w.heap.size, 2, none⟩ = false := (hb.frozen (p := ⟨w.heap.size, 2, none⟩) (by simp <;> omega)).trans (by simp [go_sem]); have zz0 : w.heap.size < w1.heap.size := World.block_lt_of_cell? (w := w1) (a := ⟨w.heap.size, 0, none⟩) r0; have zz1 : w.heap.size < w1.heap.size + 1 := (by omega); have zz2 : w.heap.size < w1.heap.size + 1 + 1 := (by omega); have zz3 : w.heap.size < w1.heap.size + 1 + 1 + 1 := (by omega); have zz4 : w.heap.size < w1.heap.size + 1 + 1 + 1 + 1 := (by omega); have zz5 : w.heap.size < w1.heap.size + 1 + 1 + 1 + 1 + 1 := (by omega); have xt0 : pt < w1.heap.size := (by omega); have xt1 : pt < w1.heap.size + 1 := (by omega); have xt2 : pt < w1.heap.size + 1 + 1 := (by omega); have xt3 : pt < w1.heap.size + 1 + 1 + 1 := (by omega); have xt4 : pt < w1.heap.size + 1 + 1 + 1 + 1 := (by omega); have xe0 : pe < w1.heap.size := (by omega); have xe1 : pe < w1.heap.size + 1 := (by omega); have xe2 : pe < w1.heap.size + 1 + 1 := (by omega); have xe3 : pe < w1.heap.size + 1 + 1 + 1 := (by omega); have xe4 : pe < w1.heap.size + 1 + 1 + 1 + 1 := (by omega); have HB : Hid (Below w.heap.size w w1) := bl_via (bl_alloc (bl_refl _)) hb; clear hb))
  refine bodyPost_ret (v := .tuple #[.agg #[.int .i64 0, .int .i64 0, .int .i64 0], .int .i64 5]) ?_ rfl ⟨rfl, ?_⟩
  · first | (simp [results, Tryd.results48, go_sem, *]; done) | (simp [results, Tryd.results48, go_sem, World.cell?_alloc_past, *]; done)
  · with_reducible repeat' (first | exact HB.out | refine bl_set ?_ ?_ | refine bl_alloc ?_ | refine bl_drew ?_)
    all_goals (first | (simp; done) | (simp; omega))

theorem across1_any (x y k p q r s : Int) (pt pe : Nat) (w : World) (h : triB x y k = true) (hs : Steps w) (ht : Tr w pt x y k) (hp : Qd w pe p q r s) :
    Calls Tryd.prog 48 #[.pointer (some ⟨pt, 0, none⟩), .pointer (some ⟨pe, 0, none⟩)] w fun e w' => e = .returned (.tuple #[.agg #[.int .i64 (acX x y k p q r s), .int .i64 (acY x y k p q r s), .int .i64 (acK x y k p q r s)], .int .i64 (acC x y k p q r s)]) ∧ Below w.heap.size w w' := by
  have E0 : e0 x y k p q r s = sameB p q r s (ue0 x y k) (ue1 x y k) (ue2 x y k) (ue3 x y k) := sameB_sym _ _ _ _ _ _ _ _
  have E1 : e1 x y k p q r s = sameB p q r s (ue4 x y k) (ue5 x y k) (ue6 x y k) (ue7 x y k) := sameB_sym _ _ _ _ _ _ _ _
  have E2 : e2 x y k p q r s = sameB p q r s (ue8 x y k) (ue9 x y k) (ue10 x y k) (ue11 x y k) := sameB_sym _ _ _ _ _ _ _ _
  unfold acX acY acK acC
  rw [E0, E1, E2]
  cases h0 : sameB p q r s (ue0 x y k) (ue1 x y k) (ue2 x y k) (ue3 x y k)
  · cases h1 : sameB p q r s (ue4 x y k) (ue5 x y k) (ue6 x y k) (ue7 x y k)
    · cases h2 : sameB p q r s (ue8 x y k) (ue9 x y k) (ue10 x y k) (ue11 x y k)
      · exact across1_d x y k p q r s pt pe w h hs ht hp h0 h1 h2
      · exact across1_c x y k p q r s pt pe w h hs ht hp h0 h1 h2
    · exact across1_b x y k p q r s pt pe w h hs ht hp h0 h1
  · exact across1_a x y k p q r s pt pe w h hs ht hp h0

theorem answerTri_39 (x y k p q r s : Int) (pt pe : Nat) (w : World) (hcall : ∀ W : World, Below w.heap.size w W → Calls Tryd.prog 48 #[.pointer (some ⟨pt, 0, none⟩), .pointer (some ⟨pe, 0, none⟩)] W fun r' w' => r' = .returned (.tuple #[.agg #[.int .i64 (acX x y k p q r s), .int .i64 (acY x y k p q r s), .int .i64 (acK x y k p q r s)], .int .i64 (acC x y k p q r s)]) ∧ Below W.heap.size W w') :
    Calls Tryd.prog 47 #[.bool true, .func (.func 48) #[] #[.pointer (some ⟨pt, 0, none⟩), .pointer (some ⟨pe, 0, none⟩)]] w fun r' w' => r' = .returned (.tuple #[.agg #[.int .i64 (acX x y k p q r s), .int .i64 (acY x y k p q r s), .int .i64 (acK x y k p q r s)], .int .i64 (acC x y k p q r s)]) ∧ Below w.heap.size w w' := by
  unfold acX acY acK acC at *
  cases h0 : e0 x y k p q r s
  · cases h1 : e1 x y k p q r s
    · cases h2 : e2 x y k p q r s
      · simp only [h0, h1, h2, Bool.false_eq_true, if_false] at hcall ⊢
        exact answerTri_39_5 pt pe w hcall
      · simp only [h0, h1, h2, Bool.false_eq_true, if_false, if_true] at hcall ⊢
        exact answerTri_39_0 _ _ _ pt pe w hcall
    · simp only [h0, h1, Bool.false_eq_true, if_false, if_true] at hcall ⊢
      exact answerTri_39_0 _ _ _ pt pe w hcall
  · simp only [h0, if_true] at hcall ⊢
    exact answerTri_39_0 _ _ _ pt pe w hcall

set_option maxHeartbeats 1600000 in
theorem Across_yes (x y k p q r s : Int) (w : World) (h : triB x y k = true) (hs : Steps w) :
    Calls Tryd.prog 11 #[.agg #[.int .i64 x, .int .i64 y, .int .i64 k], .agg #[.int .i64 p, .int .i64 q, .int .i64 r, .int .i64 s]] w fun e w' => e = .returned (.tuple #[.agg #[.int .i64 (acX x y k p q r s), .int .i64 (acY x y k p q r s), .int .i64 (acK x y k p q r s)], .int .i64 (acC x y k p q r s)]) ∧ Below w.heap.size w w' := by
  have hmf := make_func
  have HC : Hid (∀ (pt pe : Nat) (W : World), Below w.heap.size w W → Tr W pt x y k → Qd W pe p q r s → Calls Tryd.prog 48 #[.pointer (some ⟨pt, 0, none⟩), .pointer (some ⟨pe, 0, none⟩)] W fun r' w' => r' = .returned (.tuple #[.agg #[.int .i64 (acX x y k p q r s), .int .i64 (acY x y k p q r s), .int .i64 (acK x y k p q r s)], .int .i64 (acC x y k p q r s)]) ∧ Below W.heap.size W w') := fun pt pe W hW ht hq => across1_any x y k p q r s pt pe W h (hs.kept hW) ht hq
  clear hs
  go_enter Tryd.func11, Tryd.ntmps11
  go_wp2_with (first | (go_at_call 41; refine (mayTri_any _ _ _ _).mono ?_; rintro e w3 ⟨rfl, o2, rfl⟩) | (go_at_call 47; refine (answerTri_39 _ _ _ _ _ _ _ _ _ _ (fun W hW => HC.out _ _ W (bl_via (bl_alloc (bl_alloc (bl_alloc (bl_alloc (bl_refl _))))) hW) (Tr.kept (by simp [Tr, go_sem]) hW) (Qd.kept (by simp [Qd, go_sem]) hW))).mono ?_; rintro e w2 ⟨rfl, hb⟩; have r0 : w2.cell? ⟨w.heap.size + 1 + 1, 0, none⟩ = some (.int .i64 0) := cl_kept hb (by first | (simp [go_sem]; done) | (simp [go_sem, World.cell?_alloc_past]; done)); have f0' : w2.frozen? ⟨w.heap.size + 1 + 1, 0, none⟩ = false := (hb.frozen (p := ⟨w.heap.size + 1 + 1, 0, none⟩) (by simp <;> omega)).trans (by simp [go_sem]); have r1 : w2.cell? ⟨w.heap.size + 1 + 1, 1, none⟩ = some (.int .i64 0) := cl_kept hb (by first | (simp [go_sem]; done) | (simp [go_sem, World.cell?_alloc_past]; done)); have f1' : w2.frozen? ⟨w.heap.size + 1 + 1, 1, none⟩ = false := (hb.frozen (p := ⟨w.heap.size + 1 + 1, 1, none⟩) (by simp <;> omega)).trans (by simp [go_sem]); have r2 : w2.cell? ⟨w.heap.size + 1 + 1, 2, none⟩ = some (.int .i64 0) := cl_kept hb (by first | (simp [go_sem]; done) | (simp [go_sem, World.cell?_alloc_past]; done)); have f2' : w2.frozen? ⟨w.heap.size + 1 + 1, 2, none⟩ = false := (hb.frozen (p := ⟨w.heap.size + 1 + 1, 2, none⟩) (by simp <;> omega)).trans (by simp [go_sem]); have zz0 : w.heap.size + 1 + 1 < w2.heap.size := World.block_lt_of_cell? (w := w2) (a := ⟨w.heap.size + 1 + 1, 0, none⟩) r0; have zz1 : w.heap.size + 1 + 1 < w2.heap.size + 1 := (by omega); have zz2 : w.heap.size + 1 + 1 < w2.heap.size + 1 + 1 := (by omega); have zz3 : w.heap.size + 1 + 1 < w2.heap.size + 1 + 1 + 1 := (by omega); have zz4 : w.heap.size + 1 + 1 < w2.heap.size + 1 + 1 + 1 + 1 := (by omega); have zz5 : w.heap.size + 1 + 1 < w2.heap.size + 1 + 1 + 1 + 1 + 1 := (by omega); have HB : Hid (Below w.heap.size w w2) := bl_via (bl_alloc (bl_alloc (bl_alloc (bl_alloc (bl_refl _))))) hb; clear hb))
  refine bodyPost_ret (v := .tuple #[.agg #[.int .i64 (acX x y k p q r s), .int .i64 (acY x y k p q r s), .int .i64 (acK x y k p q r s)], .int .i64 (acC x y k p q r s)]) ?_ rfl ⟨rfl, ?_⟩
  · first | (simp [results, Tryd.results11, go_sem, *]; done) | (simp [results, Tryd.results11, go_sem, World.cell?_alloc_past, *]; done)
  · with_reducible repeat' (first | exact HB.out | refine bl_set ?_ ?_ | refine bl_alloc ?_ | refine bl_drew ?_)
    all_goals (first | (simp; done) | (simp; omega))

theorem Across_out (x y k p q r s : Int) (w : World) (h : triB x y k = false) :
    Calls Tryd.prog 11 #[.agg #[.int .i64 x, .int .i64 y, .int .i64 k], .agg #[.int .i64 p, .int .i64 q, .int .i64 r, .int .i64 s]] w fun e w' => e = .returned (.tuple #[.agg #[.int .i64 0, .int .i64 0, .int .i64 0], .int .i64 3]) ∧ Below w.heap.size w w' := by
  have hmf := make_func
  go_enter Tryd.func11, Tryd.ntmps11
  go_wp2_with (first | (go_at_call 41; refine (mayTri_any _ _ _ _).mono ?_; rintro e w3 ⟨rfl, o2, rfl⟩) | (go_at_call 47; refine (answerTri_no _ _).mono ?_; rintro e w2 ⟨rfl, o3, o4, rfl⟩))
  refine bodyPost_ret (v := .tuple #[.agg #[.int .i64 0, .int .i64 0, .int .i64 0], .int .i64 3]) (by simp [results, Tryd.results11, go_sem]) rfl ⟨rfl, ?_⟩
  with_reducible repeat' (first | exact bl_refl _ | refine bl_set ?_ ?_ | refine bl_alloc ?_ | refine bl_drew ?_)
  all_goals (first | (simp; done) | (simp; omega))

end Go.Proofs.YtdkkchhlhglldaaDoor
