/- A part of the proof of flatPlaces_holds. -/
import Derived.Test.YtmjneoaciopioaaDoorQlac
import Derived.Deep.QuietTactic
import Derived.BigQuiet
namespace Go.Proofs.YtmjneoaciopioaaDoor
open Go.RowKit

theorem line_bd {v c : Int} (h : lineB v c = true) : 0 ≤ v ∧ v ≤ 3 ∧ -1000000 ≤ c ∧ c ≤ 1000000 ∧ c % 2 = 0 := by simpa [lineB] using h

/-- The six numbers of the mirror at a line. -/
def mA (v : Int) : Int := if v = 0 then -1 else if v = 1 then 1 else 0
def mB (v : Int) : Int := if v = 0 ∨ v = 1 then 0 else if v = 2 then -1 else 1
def mD (v : Int) : Int := if v = 0 then 1 else if v = 1 then -1 else 0
def mE (v c : Int) : Int := if v = 0 then 2 * c else if v = 1 then 0 else c
def mF (v c : Int) : Int := if v = 0 then 0 else if v = 1 then 2 * c else if v = 2 then c else -c

theorem ret_agg6 {a b c d e f a' b' c' d' e' f' : Int} (h1 : a = a') (h2 : b = b') (h3 : c = c') (h4 : d = d') (h5 : e = e') (h6 : f = f') :
    Ending.returned (.agg #[.int .i64 a, .int .i64 b, .int .i64 c, .int .i64 d, .int .i64 e, .int .i64 f]) = .returned (.agg #[.int .i64 a', .int .i64 b', .int .i64 c', .int .i64 d', .int .i64 e', .int .i64 f']) := by subst h1 h2 h3 h4 h5 h6; rfl

set_option maxHeartbeats 1600000 in
theorem mirror_any (v c : Int) (w : World) (h : lineB v c = true) :
    Calls Tryd.prog 115 #[.agg #[.int .i64 v, .int .i64 c]] w fun r w' => r = .returned (.agg #[.int .i64 (mA v), .int .i64 (mB v), .int .i64 (mB v), .int .i64 (mD v), .int .i64 (mE v c), .int .i64 (mF v c)]) ∧ ∃ o1 o2, w' = (w.alloc o1).alloc o2 := by
  obtain ⟨h0, h3, b1, b2, _⟩ := line_bd h
  have hv : v = 0 ∨ v = 1 ∨ v = 2 ∨ v = 3 := by omega
  clear h
  rcases hv with rfl | rfl | rfl | rfl
  all_goals
    go_enter Tryd.func115, Tryd.ntmps115
    go_wp2
    refine bodyPost_ret (v := .agg #[_, _, _, _, _, _]) (by simp [results, Tryd.results115, go_sem]; exact ⟨rfl, rfl, rfl, rfl, rfl, rfl⟩) rfl ⟨?_, _, _, rfl⟩
    exact ret_agg6 (by simp [mA]) (by simp [mB]) (by simp [mB]) (by simp [mD]) (by simp [mE]) (by simp [mF])

set_option maxHeartbeats 1600000 in
theorem mirrorOf_any (v c : Int) (w : World) (h : lineB v c = true) :
    Calls Tryd.prog 46 #[.agg #[.int .i64 v, .int .i64 c]] w fun r w' => r = .returned (.agg #[.int .i64 (mA v), .int .i64 (mB v), .int .i64 (mB v), .int .i64 (mD v), .int .i64 (mE v c), .int .i64 (mF v c)]) ∧ ∃ o1 o2, w' = (w.alloc o1).alloc o2 := by
  obtain ⟨h0, h3, b1, b2, _⟩ := line_bd h
  have hv : v = 0 ∨ v = 1 ∨ v = 2 ∨ v = 3 := by omega
  clear h
  rcases hv with rfl | rfl | rfl | rfl
  all_goals
    go_enter Tryd.func46, Tryd.ntmps46
    go_wp2
    refine bodyPost_ret (v := .agg #[_, _, _, _, _, _]) (by simp [results, Tryd.results46, go_sem]; exact ⟨rfl, rfl, rfl, rfl, rfl, rfl⟩) rfl ⟨?_, _, _, rfl⟩
    exact ret_agg6 (by simp [mA]) (by simp [mB]) (by simp [mB]) (by simp [mD]) (by simp [mE]) (by simp [mF])

theorem sized_yes (a b c d e f : Int) (w : World) (h : mapB a b c d e f = true) :
    Calls Tryd.prog 114 #[.agg #[.int .i64 a, .int .i64 b, .int .i64 c, .int .i64 d, .int .i64 e, .int .i64 f]] w fun r w' => r = .returned (.tuple #[.agg #[.int .i64 a, .int .i64 b, .int .i64 c, .int .i64 d, .int .i64 e, .int .i64 f], .int .i64 0]) ∧ ∃ o1 o2 o3, w' = ((w.alloc o1).alloc o2).alloc o3 := by
  go_enter Tryd.func114, Tryd.ntmps114
  go_wp2_with (go_at_call 116; refine (mayMap_any _ _ _ _ _ _ _).mono ?_; rintro e w' ⟨rfl, o1, rfl⟩)
  exact bodyPost_ret (v := .tuple #[.agg #[.int .i64 a, .int .i64 b, .int .i64 c, .int .i64 d, .int .i64 e, .int .i64 f], .int .i64 0]) (by simp [results, Tryd.results114, go_sem]) rfl ⟨rfl, _, _, _, rfl⟩

theorem sized_no (a b c d e f : Int) (w : World) (h : mapB a b c d e f = false) :
    Calls Tryd.prog 114 #[.agg #[.int .i64 a, .int .i64 b, .int .i64 c, .int .i64 d, .int .i64 e, .int .i64 f]] w fun r w' => r = .returned (.tuple #[.agg #[.int .i64 0, .int .i64 0, .int .i64 0, .int .i64 0, .int .i64 0, .int .i64 0], .int .i64 2]) ∧ ∃ o1 o2 o3, w' = ((w.alloc o1).alloc o2).alloc o3 := by
  go_enter Tryd.func114, Tryd.ntmps114
  go_wp2_with (go_at_call 116; refine (mayMap_any _ _ _ _ _ _ _).mono ?_; rintro e w' ⟨rfl, o1, rfl⟩)
  exact bodyPost_ret (v := .tuple #[.agg #[.int .i64 0, .int .i64 0, .int .i64 0, .int .i64 0, .int .i64 0, .int .i64 0], .int .i64 2]) (by simp [results, Tryd.results114, go_sem]) rfl ⟨rfl, _, _, _, rfl⟩


/-- The worlds that have all of W as it was. -/
structure Kin (W : World) where
  w : World
  h : Below W.heap.size W w
theorem Kin.cells (W : World) : ∀ (n : Kin W) (b o : Nat), b < W.heap.size → n.w.cell? ⟨b, o, none⟩ = W.cell? ⟨b, o, none⟩ := fun n b o hb => n.h.cell (p := ⟨b, o, none⟩) hb
theorem wp_region_kin {P : Program} {id : Nat} {Q : Exit → Act → World → Prop} {a : Act} {W : World} {l : List Oper} (hm : P.follows .mixedOrders = true) (hB : Region.lexB .any l.toArray = true)
    (h : wpQuiet P l.toArray (fun w' => ∃ n : Kin W, w' = n.w) (fun a' => ∀ w', (∃ n : Kin W, w' = n.w) → Q .normal a' w') l a) : (Code.region id l.toArray true).wp P Q a W :=
  wp_region_quiet (C := fun w' => ∃ n : Kin W, w' = n.w) hm hB ⟨⟨W.drew, bl_drew (bl_refl _)⟩, rfl⟩ (by simpa using h)
theorem kin_of {P : Program} {f : FuncId} {args : Array Value} {W : World} {n : Kin W} {v : Value}
    (h : Calls P f args n.w fun e w' => e = .returned v ∧ Below n.w.heap.size n.w w') : Calls P f args n.w fun e w'' => e = .returned v ∧ ∃ m : Kin W, w'' = m.w :=
  h.mono fun _ w' ⟨he, hb⟩ => ⟨he, ⟨w', bl_via n.h hb⟩, rfl⟩
/-- The world of a walk gets a name. -/
theorem wp_named {P : Program} {c : Code} {Q : Exit → Act → World → Prop} {a : Act} {w : World} (h : ∀ W, W = w → c.wp P Q a W) : c.wp P Q a w := h w rfl
end Go.Proofs.YtmjneoaciopioaaDoor
