/- A part of the proof of sheetReads_holds. -/
import Derived.Test.YtehmoacggikfmaaGreatDoorQlab
import Derived.Deep.LoopGhost
import Derived.Deep.DeepCutAuto
import Derived.Deep.CutBlock
import Derived.Deep.QuietTactic
import Derived.BigQuiet
namespace Go.Proofs.YtehmoacggikfmaaGreatDoor
open Go.RowKit

/-- Numbers in a row of memory, as a slice has them. -/
def Row (w : World) (a : Option Addr) (zs : List Int) : Prop :=
  ∀ i (h : i < zs.length), ∃ b off, a = some ⟨b, off, none⟩ ∧ w.cell? ⟨b, off + i, none⟩ = some (.int .i64 zs[i])
theorem Row.kept {w wx : World} {a : Option Addr} {zs : List Int} (h : Row w a zs) (hb : Below w.heap.size w wx) : Row wx a zs := fun i hi => by
  obtain ⟨b, off, e, hc⟩ := h i hi
  exact ⟨b, off, e, cl_kept hb hc⟩

/-- May a mask's numbers be? -/
def maskB (zs : List Int) : Bool := zs.all fun z => decide (0 ≤ z ∧ z ≤ 15)
/-- May a side's length be? -/
def sideB (n : Int) : Bool := decide (1 ≤ n ∧ n ≤ 8)

theorem maySide_any (n : Int) (w : World) :
    Calls Tryz.prog 25 #[.int .i64 n] w fun e w' => e = .returned (.bool (sideB n)) ∧ w' = w := by
  go_enter Tryz.func25, Tryz.ntmps25
  go_wp2
  all_goals
    go_ret
    exact ⟨ret_bool (by rw [Bool.eq_iff_iff]; simp_all [sideB] <;> omega), rfl⟩

theorem mask_at {zs : List Int} (h : maskB zs = false) (hp : ∀ i (hi : i < zs.length), 0 ≤ zs[i] ∧ zs[i] ≤ 15) : False := by
  have : maskB zs = true := by
    simp only [maskB, List.all_eq_true, decide_eq_true_eq]
    intro z hz
    obtain ⟨i, hi, rfl⟩ := List.getElem_of_mem hz
    exact hp i hi
  rw [this] at h
  exact Bool.noConfusion h


/-- The worlds that have all of W as it was. -/
structure Kin (W : World) where
  w : World
  h : Below W.heap.size W w
theorem Kin.cells (W : World) : ∀ (n : Kin W) (b o : Nat), b < W.heap.size → n.w.cell? ⟨b, o, none⟩ = W.cell? ⟨b, o, none⟩ := fun n b o hb => n.h.cell (p := ⟨b, o, none⟩) hb
theorem wp_region_kin {P : Program} {id : Nat} {Q : Exit → Act → World → Prop} {a : Act} {W : World} {l : List Oper} (hm : P.follows .mixedOrders = true) (hB : Region.lexB .any l.toArray = true)
    (h : wpQuiet P l.toArray (fun w' => ∃ n : Kin W, w' = n.w) (fun a' => ∀ w', (∃ n : Kin W, w' = n.w) → Q .normal a' w') l a) : (Code.region id l.toArray true).wp P Q a W :=
  wp_region_quiet (C := fun w' => ∃ n : Kin W, w' = n.w) hm hB ⟨⟨W.drew, bl_drew (bl_refl _)⟩, rfl⟩ (by simpa using h)
theorem kin_of {P : Program} {f : FuncId} {args : Array Value} {W : World} {n : Kin W} {v : Value}
    (h : Calls P f args n.w fun e w' => e = .returned v ∧ Below n.w.heap.size n.w w') : Calls P f args n.w fun e w'' => e = .returned v ∧ ∃ m : Kin W, w'' = m.w :=
  h.mono fun _ w' ⟨he, hb⟩ => ⟨he, ⟨w', bl_via n.h hb⟩, rfl⟩
/-- The world of a walk gets a name. -/
theorem wp_named {P : Program} {c : Code} {Q : Exit → Act → World → Prop} {a : Act} {w : World} (h : ∀ W, W = w → c.wp P Q a W) : c.wp P Q a w := h w rfl

/-- By X, then Y. -/
def lessB (a b c d : Int) : Bool := decide (a < c ∨ (a = c ∧ b < d))

set_option maxHeartbeats 800000 in
theorem lessPoint_any (a b c d : Int) (w : World) :
    Calls Tryz.prog 79 #[.agg #[.int .i64 a, .int .i64 b], .agg #[.int .i64 c, .int .i64 d]] w fun r w' => r = .returned (.bool (lessB a b c d)) ∧ ∃ o1 o2, w' = (w.alloc o1).alloc o2 := by
  go_enter Tryz.func79, Tryz.ntmps79
  go_wp2
  all_goals
    go_ret
    exact ⟨ret_bool (by rw [Bool.eq_iff_iff]; simp_all [lessB] <;> omega), _, _, rfl⟩

set_option maxHeartbeats 800000 in
theorem edgeOf_turn (a b c d : Int) (w : World) (h : lessB c d a b = true) :
    Calls Tryz.prog 57 #[.agg #[.int .i64 a, .int .i64 b], .agg #[.int .i64 c, .int .i64 d]] w fun r w' => r = .returned (.agg #[.int .i64 c, .int .i64 d, .int .i64 a, .int .i64 b]) ∧ ∃ o1 o2 o3 o4 o5, w' = ((((w.alloc o1).alloc o2).alloc o3).alloc o4).alloc o5 := by
  go_enter Tryz.func57, Tryz.ntmps57
  go_wp2_with (go_at_call 79; refine (lessPoint_any _ _ _ _ _).mono ?_; rintro r w' ⟨rfl, o1, o2, rfl⟩)
  exact bodyPost_ret (v := .agg #[.int .i64 c, .int .i64 d, .int .i64 a, .int .i64 b]) (by simp [results, Tryz.results57, go_sem]) rfl ⟨rfl, _, _, _, _, _, rfl⟩

set_option maxHeartbeats 800000 in
theorem edgeOf_keep (a b c d : Int) (w : World) (h : lessB c d a b = false) :
    Calls Tryz.prog 57 #[.agg #[.int .i64 a, .int .i64 b], .agg #[.int .i64 c, .int .i64 d]] w fun r w' => r = .returned (.agg #[.int .i64 a, .int .i64 b, .int .i64 c, .int .i64 d]) ∧ ∃ o1 o2 o3 o4 o5, w' = ((((w.alloc o1).alloc o2).alloc o3).alloc o4).alloc o5 := by
  go_enter Tryz.func57, Tryz.ntmps57
  go_wp2_with (go_at_call 79; refine (lessPoint_any _ _ _ _ _).mono ?_; rintro r w' ⟨rfl, o1, o2, rfl⟩)
  exact bodyPost_ret (v := .agg #[.int .i64 a, .int .i64 b, .int .i64 c, .int .i64 d]) (by simp [results, Tryz.results57, go_sem]) rfl ⟨rfl, _, _, _, _, _, rfl⟩

set_option maxHeartbeats 1600000 in
theorem edge_any (a b c d : Int) (w : World) :
    Calls Tryz.prog 117 #[.agg #[.int .i64 a, .int .i64 b], .agg #[.int .i64 c, .int .i64 d]] w fun r w' => r = .returned (if lessB c d a b = true then .agg #[.int .i64 c, .int .i64 d, .int .i64 a, .int .i64 b] else .agg #[.int .i64 a, .int .i64 b, .int .i64 c, .int .i64 d]) ∧ ∃ o1 o2 o3, w' = ((w.alloc o1).alloc o2).alloc o3 := by
  by_cases h1 : c < a
  · have e : lessB c d a b = true := by simp [lessB, h1]
    rw [if_pos e]
    clear e
    go_enter Tryz.func117, Tryz.ntmps117
    go_wp2
    exact bodyPost_ret (v := .agg #[.int .i64 c, .int .i64 d, .int .i64 a, .int .i64 b]) (by simp [results, Tryz.results117, go_sem]) rfl ⟨rfl, _, _, _, rfl⟩
  by_cases h2 : c = a
  · subst h2
    by_cases h3 : d < b
    · have e : lessB c d c b = true := by simp [lessB, h3]
      rw [if_pos e]
      clear e
      go_enter Tryz.func117, Tryz.ntmps117
      go_wp2
      exact bodyPost_ret (v := .agg #[.int .i64 c, .int .i64 d, .int .i64 c, .int .i64 b]) (by simp [results, Tryz.results117, go_sem]) rfl ⟨rfl, _, _, _, rfl⟩
    · have e : ¬ lessB c d c b = true := by simp [lessB, h3]
      rw [if_neg e]
      clear e
      go_enter Tryz.func117, Tryz.ntmps117
      go_wp2
      exact bodyPost_ret (v := .agg #[.int .i64 c, .int .i64 b, .int .i64 c, .int .i64 d]) (by simp [results, Tryz.results117, go_sem]) rfl ⟨rfl, _, _, _, rfl⟩
  · have e : ¬ lessB c d a b = true := by simp [lessB, h1, h2]
    rw [if_neg e]
    clear e
    go_enter Tryz.func117, Tryz.ntmps117
    go_wp2
    exact bodyPost_ret (v := .agg #[.int .i64 a, .int .i64 b, .int .i64 c, .int .i64 d]) (by simp [results, Tryz.results117, go_sem]) rfl ⟨rfl, _, _, _, rfl⟩

/-- The four numbers of the edge between two points. -/
def eA (a b c d : Int) : Int := if lessB c d a b = true then c else a
def eB (a b c d : Int) : Int := if lessB c d a b = true then d else b
def eC (a b c d : Int) : Int := if lessB c d a b = true then a else c
def eD (a b c d : Int) : Int := if lessB c d a b = true then b else d

theorem edge_num (a b c d : Int) (w : World) :
    Calls Tryz.prog 117 #[.agg #[.int .i64 a, .int .i64 b], .agg #[.int .i64 c, .int .i64 d]] w fun r w' => r = .returned (.agg #[.int .i64 (eA a b c d), .int .i64 (eB a b c d), .int .i64 (eC a b c d), .int .i64 (eD a b c d)]) ∧ ∃ o1 o2 o3, w' = ((w.alloc o1).alloc o2).alloc o3 := by
  refine (edge_any a b c d w).mono ?_
  rintro r w' ⟨rfl, h⟩
  refine ⟨?_, h⟩
  cases e : lessB c d a b <;> simp [eA, eB, eC, eD, e]

theorem edgeOf_num (a b c d : Int) (w : World) :
    Calls Tryz.prog 57 #[.agg #[.int .i64 a, .int .i64 b], .agg #[.int .i64 c, .int .i64 d]] w fun r w' => r = .returned (.agg #[.int .i64 (eA a b c d), .int .i64 (eB a b c d), .int .i64 (eC a b c d), .int .i64 (eD a b c d)]) ∧ ∃ o1 o2 o3 o4 o5, w' = ((((w.alloc o1).alloc o2).alloc o3).alloc o4).alloc o5 := by
  cases e : lessB c d a b
  · refine (edgeOf_keep a b c d w e).mono ?_
    rintro r w' ⟨rfl, h⟩
    exact ⟨by simp [eA, eB, eC, eD, e], h⟩
  · refine (edgeOf_turn a b c d w e).mono ?_
    rintro r w' ⟨rfl, h⟩
    exact ⟨by simp [eA, eB, eC, eD, e], h⟩


theorem line_bd {v c : Int} (h : lineB v c = true) : 0 ≤ v ∧ v ≤ 3 ∧ -1000000 ≤ c ∧ c ≤ 1000000 ∧ c % 2 = 0 := by simpa [lineB] using h

/-- The six numbers of the mirror at a line. -/
def mA (v : Int) : Int := if v = 0 then -1 else if v = 1 then 1 else 0
def mB (v : Int) : Int := if v = 0 ∨ v = 1 then 0 else if v = 2 then -1 else 1
def mD (v : Int) : Int := if v = 0 then 1 else if v = 1 then -1 else 0
def mE (v c : Int) : Int := if v = 0 then 2 * c else if v = 1 then 0 else c
def mF (v c : Int) : Int := if v = 0 then 0 else if v = 1 then 2 * c else if v = 2 then c else -c

theorem ret_agg6 {a b c d e f a' b' c' d' e' f' : Int} (h1 : a = a') (h2 : b = b') (h3 : c = c') (h4 : d = d') (h5 : e = e') (h6 : f = f') :
    Ending.returned (.agg #[.int .i64 a, .int .i64 b, .int .i64 c, .int .i64 d, .int .i64 e, .int .i64 f]) = .returned (.agg #[.int .i64 a', .int .i64 b', .int .i64 c', .int .i64 d', .int .i64 e', .int .i64 f']) := by subst h1 h2 h3 h4 h5 h6; rfl

end Go.Proofs.YtehmoacggikfmaaGreatDoor
