/- A part of the proof of flatPlaces_holds. -/
import Derived.Test.YtmjneoaciopioaaDoorQlak
import Derived.Test.YtmjneoaciopioaaDoorQlal
import Derived.Test.YtmjneoaciopioaaDoorQlac
import Derived.WideKeyEntry
import Derived.WideKeyRuns
namespace Go.Proofs.YtmjneoaciopioaaDoor
open Go.RowKit
attribute [local go_sem ↓] Go.wp_at_zero Go.wp_at_succ

/-- Twelve numbers in a row of memory. -/
def Twl (w : World) (g : Nat) (v0 v1 v2 v3 v4 v5 v6 v7 v8 v9 v10 v11 : Int) : Prop :=
  w.cell? ⟨g, 0, none⟩ = some (.int .i64 v0) ∧ w.cell? ⟨g, 1, none⟩ = some (.int .i64 v1) ∧ w.cell? ⟨g, 2, none⟩ = some (.int .i64 v2) ∧ w.cell? ⟨g, 3, none⟩ = some (.int .i64 v3) ∧ w.cell? ⟨g, 4, none⟩ = some (.int .i64 v4) ∧ w.cell? ⟨g, 5, none⟩ = some (.int .i64 v5) ∧ w.cell? ⟨g, 6, none⟩ = some (.int .i64 v6) ∧ w.cell? ⟨g, 7, none⟩ = some (.int .i64 v7) ∧ w.cell? ⟨g, 8, none⟩ = some (.int .i64 v8) ∧ w.cell? ⟨g, 9, none⟩ = some (.int .i64 v9) ∧ w.cell? ⟨g, 10, none⟩ = some (.int .i64 v10) ∧ w.cell? ⟨g, 11, none⟩ = some (.int .i64 v11)
theorem Twl.lt {w : World} {g : Nat} {v0 v1 v2 v3 v4 v5 v6 v7 v8 v9 v10 v11 : Int} (h : Twl w g v0 v1 v2 v3 v4 v5 v6 v7 v8 v9 v10 v11) : g < w.heap.size := World.block_lt_of_cell? _ _ h.1
theorem Twl.kept {w wx : World} {g : Nat} {v0 v1 v2 v3 v4 v5 v6 v7 v8 v9 v10 v11 : Int} (h : Twl w g v0 v1 v2 v3 v4 v5 v6 v7 v8 v9 v10 v11) (hb : Below w.heap.size w wx) : Twl wx g v0 v1 v2 v3 v4 v5 v6 v7 v8 v9 v10 v11 := by
  obtain ⟨h0, h1, h2, h3, h4, h5, h6, h7, h8, h9, h10, h11⟩ := h
  exact ⟨cl_kept hb h0, cl_kept hb h1, cl_kept hb h2, cl_kept hb h3, cl_kept hb h4, cl_kept hb h5, cl_kept hb h6, cl_kept hb h7, cl_kept hb h8, cl_kept hb h9, cl_kept hb h10, cl_kept hb h11⟩

theorem cornersOfW_any (x y k : Int) (w : World) (b1 : -4000000 ≤ x) (b2 : x ≤ 4000000) (b3 : -4000000 ≤ y) (b4 : y ≤ 4000000) (k0 : 0 ≤ k) (k3 : k ≤ 3) :
    Calls Tryd.prog 35 #[.agg #[.int .i64 x, .int .i64 y, .int .i64 k]] w fun e w' => ∃ g, e = .returned (.slice (some ⟨g, 0, none⟩) 3 3) ∧ w.heap.size ≤ g ∧ Mp w' g (2 * x + 1) (2 * y + 1) (c1x x k) (c1y y k) (c2x x k) (c2y y k) ∧ Below w.heap.size w w' := by
  have hk : k = 0 ∨ k = 1 ∨ k = 2 ∨ k = 3 := by omega
  rcases hk with rfl | rfl | rfl | rfl
  · have e1 : c1x x 0 = 2 * x := by simp [c1x, stX] <;> omega
    have e2 : c1y y 0 = 2 * y := by simp [c1y, stY] <;> omega
    have e3 : c2x x 0 = 2 * x + 2 := by simp [c2x, stX] <;> omega
    have e4 : c2y y 0 = 2 * y := by simp [c2y, stY] <;> omega
    rw [e1, e2, e3, e4]
    exact cornersOfW_0 x y w b1 b2 b3 b4
  · have e1 : c1x x 1 = 2 * x + 2 := by simp [c1x, stX] <;> omega
    have e2 : c1y y 1 = 2 * y := by simp [c1y, stY] <;> omega
    have e3 : c2x x 1 = 2 * x + 2 := by simp [c2x, stX] <;> omega
    have e4 : c2y y 1 = 2 * y + 2 := by simp [c2y, stY] <;> omega
    rw [e1, e2, e3, e4]
    exact cornersOfW_1 x y w b1 b2 b3 b4
  · have e1 : c1x x 2 = 2 * x + 2 := by simp [c1x, stX] <;> omega
    have e2 : c1y y 2 = 2 * y + 2 := by simp [c1y, stY] <;> omega
    have e3 : c2x x 2 = 2 * x := by simp [c2x, stX] <;> omega
    have e4 : c2y y 2 = 2 * y + 2 := by simp [c2y, stY] <;> omega
    rw [e1, e2, e3, e4]
    exact cornersOfW_2 x y w b1 b2 b3 b4
  · have e1 : c1x x 3 = 2 * x := by simp [c1x, stX] <;> omega
    have e2 : c1y y 3 = 2 * y + 2 := by simp [c1y, stY] <;> omega
    have e3 : c2x x 3 = 2 * x := by simp [c2x, stX] <;> omega
    have e4 : c2y y 3 = 2 * y := by simp [c2y, stY] <;> omega
    rw [e1, e2, e3, e4]
    exact cornersOfW_3 x y w b1 b2 b3 b4

set_option maxRecDepth 100000 in
set_option maxHeartbeats 3200000 in
theorem edgesOf_any (x y k : Int) (w : World) (b1 : -4000000 ≤ x) (b2 : x ≤ 4000000) (b3 : -4000000 ≤ y) (b4 : y ≤ 4000000) (k0 : 0 ≤ k) (k3 : k ≤ 3) :
    Calls Tryd.prog 32 #[.agg #[.int .i64 x, .int .i64 y, .int .i64 k]] w fun e w' => ∃ g, e = .returned (.slice (some ⟨g, 0, none⟩) 3 3) ∧ w.heap.size ≤ g ∧ Twl w' g (ue0 x y k) (ue1 x y k) (ue2 x y k) (ue3 x y k) (ue4 x y k) (ue5 x y k) (ue6 x y k) (ue7 x y k) (ue8 x y k) (ue9 x y k) (ue10 x y k) (ue11 x y k) ∧ Below w.heap.size w w' := by
  have C14 : Hid (∀ W : World, Calls Tryd.prog 35 #[.agg #[.int .i64 x, .int .i64 y, .int .i64 k]] W fun e w' => ∃ g, e = .returned (.slice (some ⟨g, 0, none⟩) 3 3) ∧ W.heap.size ≤ g ∧ Mp w' g (2 * x + 1) (2 * y + 1) (c1x x k) (c1y y k) (c2x x k) (c2y y k) ∧ Below W.heap.size W w') := fun W => cornersOfW_any x y k W b1 b2 b3 b4 k0 k3
  clear b1 b2 b3 b4 k0 k3
  go_enter Tryd.func32, Tryd.ntmps32
  go_wp2_with (go_at_call 35; refine (C14.out _).mono ?_; rintro r w1 ⟨g, rfl, hg, hM, hb⟩; have HB : Hid (w.heap.size ≤ w1.heap.size ∧ Below w.heap.size w w1) := ⟨(bl_via (bl_alloc (bl_refl _)) hb).size, bl_via (bl_alloc (bl_refl _)) hb⟩; clear hb hg; have zg := hM.lt; obtain ⟨m0, m1, m2, m3, m4, m5⟩ := hM)
  go_region_held3 (fun w' => w'.cell? ⟨g, 0, none⟩ = some (.int .i64 (2 * x + 1)) ∧ w'.cell? ⟨g, 1, none⟩ = some (.int .i64 (2 * y + 1)) ∧ w'.cell? ⟨g, 2, none⟩ = some (.int .i64 (c1x x k)) ∧ w'.cell? ⟨g, 3, none⟩ = some (.int .i64 (c1y y k)) ∧ w'.cell? ⟨g, 4, none⟩ = some (.int .i64 (c2x x k)) ∧ w'.cell? ⟨g, 5, none⟩ = some (.int .i64 (c2y y k)))
    ((refine ⟨?_, ?_, ?_, ?_, ?_, ?_⟩ <;> (with_reducible (repeat (first | assumption | refine al_old ?_ | refine dr_old ?_)))))
    (first | (go_at_call 37; refine (edgeOf_num _ _ _ _ _).mono ?_; rintro r w2 ⟨rfl, o3, o4, o5, o6, o7, rfl⟩))
  all_goals
    go_wp2
    go_ret
    refine ⟨_, rfl, ?_, ?_, ?_⟩
    · have := HB.out.1
      simp
      try omega
    · simp [Twl, go_sem, ue0, ue1, ue2, ue3, ue4, ue5, ue6, ue7, ue8, ue9, ue10, ue11]
    · with_reducible repeat' (first | exact HB.out.2 | refine bl_alloc ?_ | refine bl_drew ?_)

theorem eql27 (a b c d p q r s : Int) (w : World) :
    (binOp .eql 72 (.agg #[.int .i64 a, .int .i64 b, .int .i64 c, .int .i64 d]) (.agg #[.int .i64 p, .int .i64 q, .int .i64 r, .int .i64 s])).run Tryd.prog w = .ok (.bool (sameB a b c d p q r s)) w := by
  by_cases h1 : a = p
  · subst h1
    by_cases h2 : b = q
    · subst h2
      by_cases h3 : c = r
      · subst h3
        by_cases h4 : d = s
        · subst h4
          simp [go_sem, sameB]
        · have e : (d == s) = false := by simpa using h4
          simp [go_sem, sameB, e, h4]
      · have e : (c == r) = false := by simpa using h3
        simp [go_sem, sameB, e, h3]
    · have e : (b == q) = false := by simpa using h2
      simp [go_sem, sameB, e, h2]
  · have e : (a == p) = false := by simpa using h1
    simp [go_sem, sameB, e, h1]

/-- Are two triangles one? -/
def sameT (x y k X Y K : Int) : Bool := decide (x = X ∧ y = Y ∧ k = K)
theorem neq23 (x y k X Y K : Int) (w : World) :
    (binOp .neq 80 (.agg #[.int .i64 x, .int .i64 y, .int .i64 k]) (.agg #[.int .i64 X, .int .i64 Y, .int .i64 K])).run Tryd.prog w = .ok (.bool (!sameT x y k X Y K)) w := by
  by_cases h1 : x = X
  · subst h1
    by_cases h2 : y = Y
    · subst h2
      by_cases h3 : k = K
      · subst h3
        simp [go_sem, sameT]
      · have e : (k == K) = false := by simpa using h3
        simp [go_sem, sameT, e, h3]
    · have e : (y == Y) = false := by simpa using h2
      simp [go_sem, sameT, e, h2]
  · have e : (x == X) = false := by simpa using h1
    simp [go_sem, sameT, e, h1]
theorem eql23 (x y k X Y K : Int) (w : World) :
    (binOp .eql 80 (.agg #[.int .i64 x, .int .i64 y, .int .i64 k]) (.agg #[.int .i64 X, .int .i64 Y, .int .i64 K])).run Tryd.prog w = .ok (.bool (sameT x y k X Y K)) w := by
  by_cases h1 : x = X
  · subst h1
    by_cases h2 : y = Y
    · subst h2
      by_cases h3 : k = K
      · subst h3
        simp [go_sem, sameT]
      · have e : (k == K) = false := by simpa using h3
        simp [go_sem, sameT, e, h3]
    · have e : (y == Y) = false := by simpa using h2
      simp [go_sem, sameT, e, h2]
  · have e : (x == X) = false := by simpa using h1
    simp [go_sem, sameT, e, h1]
end Go.Proofs.YtmjneoaciopioaaDoor
namespace Go.Proofs.YtmjneoaciopioaaDoor
open Go.RowKit Go.ChangeMaps

/-- An edge as a key. -/
def ek (e : Int × Int × Int × Int) : Value := .agg #[.int .i64 e.1, .int .i64 e.2.1, .int .i64 e.2.2.1, .int .i64 e.2.2.2]
/-- An entry: its key, its value, its stamp. -/
def toE (x : (Int × Int × Int × Int) × Value × Nat) : MapEntry := ⟨ek x.1, x.2.1, x.2.2⟩

theorem equal27 (a b : Int × Int × Int × Int) (w : World) : (Op.equal 72 (ek a) (ek b)).run Tryd.prog w = .ok (decide (a = b)) w := by
  obtain ⟨a0, a1, a2, a3⟩ := a
  obtain ⟨b0, b1, b2, b3⟩ := b
  have h := eql27 a0 a1 a2 a3 b0 b1 b2 b3 w
  have e : sameB a0 a1 a2 a3 b0 b1 b2 b3 = decide ((a0, a1, a2, a3) = (b0, b1, b2, b3)) := by simp [sameB]
  rw [e] at h
  unfold ek
  simp only [binOp, Sem.run_bind, Sem.run_pure] at h
  cases hr : (Op.equal 72 (.agg #[.int .i64 a0, .int .i64 a1, .int .i64 a2, .int .i64 a3]) (.agg #[.int .i64 b0, .int .i64 b1, .int .i64 b2, .int .i64 b3])).run Tryd.prog w with
  | ok r w1 =>
    rw [hr] at h
    simpa [Result.andThen] using h
  | halt x w1 =>
    rw [hr] at h
    simp [Result.andThen] at h
theorem checkInt (em : Bool) (n : Nat) (a : Int) (w : World) : (Instr.checkKey em (n + 1) 3 (.int .i64 a)).run Tryd.prog w = .ok () w := by
  simp [Instr.checkKey, run_underlying Tryd.underlying3, Result.andThen]
theorem check25 (em : Bool) (n : Nat) (a b : Int) (w : World) : (Instr.checkKey em (n + 2) 43 (.agg #[.int .i64 a, .int .i64 b])).run Tryd.prog w = .ok () w := by
  rw [show n + 2 = (n + 1) + 1 by omega]
  unfold Instr.checkKey
  simp [run_underlying Tryd.underlying43, go_sem, checkInt]
theorem check27a (em : Bool) (n : Nat) (a b c d : Int) (w : World) : (Instr.checkKey em (n + 3) 72 (.agg #[.int .i64 a, .int .i64 b, .int .i64 c, .int .i64 d])).run Tryd.prog w = .ok () w := by
  rw [show n + 3 = (n + 2) + 1 by omega]
  unfold Instr.checkKey
  simp [run_underlying Tryd.underlying72, go_sem, check25]
theorem check27 (em : Bool) (a : Int × Int × Int × Int) (w : World) : (Instr.checkKey em 10000 72 (ek a)).run Tryd.prog w = .ok () w := check27a em 9997 _ _ _ _ w
theorem stays27 (a : Int × Int × Int × Int) (w : World) : (Instr.keyThatStays (ek a) (ek a)).run Tryd.prog w = .ok (ek a) w := by
  have : Instr.sameBits 10000 (ek a) (ek a) = true := by
    unfold ek
    show Instr.sameBits (9999 + 1) _ _ = true
    simp [Instr.sameBits]
  simp [Instr.keyThatStays, this]
theorem find27 (k : Int × Int × Int × Int) (w : World) : ∀ (ls : List ((Int × Int × Int × Int) × Value × Nat)) (i : Nat),
    ((Instr.findAsking 72 (ek k) (ls.map toE) i).run Tryd.prog w = .ok none w ∧ ∀ x ∈ ls, x.1 ≠ k) ∨
    ∃ j x, (Instr.findAsking 72 (ek k) (ls.map toE) i).run Tryd.prog w = .ok (some (i + j, x.2.1)) w ∧ ls[j]? = some x ∧ x.1 = k
  | [], i => Or.inl ⟨by simp [Instr.findAsking], by simp⟩
  | x :: r, i => by
    by_cases h : k = x.1
    · refine Or.inr ⟨0, x, ?_, rfl, h.symm⟩
      have hq := equal27 k x.1 w
      rw [decide_eq_true h] at hq
      rw [List.map_cons]
      simp only [Instr.findAsking, toE, Sem.run_bind, hq, Result.andThen]
      rfl
    · have hq := equal27 k x.1 w
      rw [decide_eq_false h] at hq
      rcases find27 k w r (i + 1) with ⟨h1, h2⟩ | ⟨j, y, h1, h2, h3⟩
      · refine Or.inl ⟨?_, ?_⟩
        · rw [List.map_cons]
          simp only [Instr.findAsking, toE, Sem.run_bind, hq, Result.andThen]
          exact h1
        · intro y hy
          rcases List.mem_cons.1 hy with rfl | hy
          · exact fun e => h e.symm
          · exact h2 y hy
      · refine Or.inr ⟨j + 1, y, ?_, by simpa using h2, h3⟩
        rw [List.map_cons]
        simp only [Instr.findAsking, toE, Sem.run_bind, hq, Result.andThen]
        rw [show i + (j + 1) = i + 1 + j by omega]
        exact h1
end Go.Proofs.YtmjneoaciopioaaDoor
