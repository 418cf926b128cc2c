/- A part of the proof of sheetTells_holds. -/
import Derived.Test.YtehmoacggikfmaaDoorQlac
import Derived.Deep.LoopGhost
import Derived.Deep.DeepCutAuto
import Derived.Deep.CutBlock
import Derived.Deep.QuietTactic
import Derived.BigQuiet
namespace Go.Proofs.YtehmoacggikfmaaDoor
open Go.RowKit

/-- Numbers in a row of memory, as a slice has them. -/
def Row (w : World) (a : Option Addr) (zs : List Int) : Prop :=
  ∀ i (h : i < zs.length), ∃ b off, a = some ⟨b, off, none⟩ ∧ w.cell? ⟨b, off + i, none⟩ = some (.int .i64 zs[i])
theorem Row.kept {w wx : World} {a : Option Addr} {zs : List Int} (h : Row w a zs) (hb : Below w.heap.size w wx) : Row wx a zs := fun i hi => by
  obtain ⟨b, off, e, hc⟩ := h i hi
  exact ⟨b, off, e, cl_kept hb hc⟩

/-- May a mask's numbers be? -/
def maskB (zs : List Int) : Bool := zs.all fun z => decide (0 ≤ z ∧ z ≤ 15)
/-- May a side's length be? -/
def sideB (n : Int) : Bool := decide (1 ≤ n ∧ n ≤ 8)

theorem maySide_any (n : Int) (w : World) :
    Calls Tryd.prog 20 #[.int .i64 n] w fun e w' => e = .returned (.bool (sideB n)) ∧ w' = w := by
  go_enter Tryd.func20, Tryd.ntmps20
  go_wp2
  all_goals
    go_ret
    exact ⟨ret_bool (by rw [Bool.eq_iff_iff]; simp_all [sideB] <;> omega), rfl⟩

theorem mask_at {zs : List Int} (h : maskB zs = false) (hp : ∀ i (hi : i < zs.length), 0 ≤ zs[i] ∧ zs[i] ≤ 15) : False := by
  have : maskB zs = true := by
    simp only [maskB, List.all_eq_true, decide_eq_true_eq]
    intro z hz
    obtain ⟨i, hi, rfl⟩ := List.getElem_of_mem hz
    exact hp i hi
  rw [this] at h
  exact Bool.noConfusion h

set_option maxHeartbeats 1600000 in
theorem mayMask_len (W H : Int) (a : Option Addr) (cap : Nat) (zs : List Int) (c : Value) (w : World) (hW : sideB W = true) (hH : sideB H = true) (hl : ¬ (zs.length : Int) = W * H) :
    Calls Tryd.prog 21 #[.agg #[.int .i64 W, .int .i64 H, .slice a zs.length cap, c]] w fun e w' => e = .returned (.bool false) ∧ ∃ o, w' = w.alloc o := by
  have b1 : 1 ≤ W ∧ W ≤ 8 := by simpa [sideB] using hW
  have b2 : 1 ≤ H ∧ H ≤ 8 := by simpa [sideB] using hH
  have hm : 0 ≤ W * H ∧ W * H ≤ 64 := by
    have h1 : W = 1 ∨ W = 2 ∨ W = 3 ∨ W = 4 ∨ W = 5 ∨ W = 6 ∨ W = 7 ∨ W = 8 := by omega
    rcases h1 with rfl | rfl | rfl | rfl | rfl | rfl | rfl | rfl <;> omega
  go_enter Tryd.func21, Tryd.ntmps21
  go_wp2
  go_ret
  exact ⟨rfl, _, rfl⟩

set_option maxHeartbeats 1600000 in
theorem mayMask_any (W H : Int) (a : Option Addr) (cap : Nat) (zs : List Int) (c : Value) (w : World) (hW : sideB W = true) (hH : sideB H = true) (hr : Row w a zs) (hl : (zs.length : Int) = W * H) :
    Calls Tryd.prog 21 #[.agg #[.int .i64 W, .int .i64 H, .slice a zs.length cap, c]] w fun e w' => e = .returned (.bool (maskB zs)) ∧ ∃ o, w' = w.alloc o := by
  have b1 : 1 ≤ W ∧ W ≤ 8 := by simpa [sideB] using hW
  have b2 : 1 ≤ H ∧ H ≤ 8 := by simpa [sideB] using hH
  have hm : 0 ≤ W * H ∧ W * H ≤ 64 := by
    have h1 : W = 1 ∨ W = 2 ∨ W = 3 ∨ W = 4 ∨ W = 5 ∨ W = 6 ∨ W = 7 ∨ W = 8 := by omega
    rcases h1 with rfl | rfl | rfl | rfl | rfl | rfl | rfl | rfl <;> omega
  have HR : Hid (Row w a zs) := hr
  clear hr
  go_enter Tryd.func21, Tryd.ntmps21
  go_wp2
  go_loopg [17] zs.length (fun g s17 wx => ∃ n : Nat, n ≤ zs.length ∧ g = zs.length - n ∧ s17 = .int .i64 n ∧ (∀ i (hi : i < zs.length), i < n → 0 ≤ zs[i] ∧ zs[i] ≤ 15) ∧ wx = w.alloc (.cells #[.int .i64 W, .int .i64 H, .slice a zs.length cap, c] 25))
  case atStart => exact ⟨0, by omega, rfl, rfl, fun i _ h => by omega, rfl⟩
  case round =>
    obtain ⟨n, hn, rfl, rfl, hp, rfl⟩ := hrel
    have HP : Hid (∀ i (hi : i < zs.length), i < n → 0 ≤ zs[i] ∧ zs[i] ≤ 15) := hp
    clear hp
    by_cases h1 : n < zs.length
    · obtain ⟨b, off, rfl, hc⟩ := HR.out n h1
      have i1 : (n : Int) < (zs.length : Int) := by omega
      have i0 : (0 : Int) ≤ (n : Int) := by omega
      have u1 : (w.alloc (.cells #[.int .i64 W, .int .i64 H, .slice (some ⟨b, off, none⟩) zs.length cap, c] 25)).cell? ⟨b, off + n, none⟩ = some (.int .i64 zs[n]) := al_old hc
      obtain ⟨z, hz⟩ : ∃ z, z = zs[n] := ⟨_, rfl⟩
      rw [← hz] at u1
      clear hc
      by_cases g1 : z < 0
      · have HM : Hid (maskB zs = false) := by
          show maskB zs = false
          simp only [maskB, List.all_eq_false, decide_eq_true_eq]
          exact ⟨zs[n], List.getElem_mem h1, by omega⟩
        go_wp2
        go_ret
        exact ⟨by rw [HM.out]; rfl, _, rfl⟩
      · by_cases g2 : 15 < z
        · have HM : Hid (maskB zs = false) := by
            show maskB zs = false
            simp only [maskB, List.all_eq_false, decide_eq_true_eq]
            exact ⟨zs[n], List.getElem_mem h1, by omega⟩
          go_wp2
          go_ret
          exact ⟨by rw [HM.out]; rfl, _, rfl⟩
        · go_wp2
          go_roundg (zs.length - (n + 1))
          case measure => omega
          case rel =>
            refine ⟨n + 1, by omega, rfl, by go_num, fun i hi h => ?_, rfl⟩
            by_cases e : i = n
            · subst e; omega
            · exact HP.out i hi (by omega)
    · have i1 : ¬ (n : Int) < (zs.length : Int) := by omega
      have HM : Hid (maskB zs = true) := by
        show maskB zs = true
        by_cases h : maskB zs = true
        · exact h
        · exact (mask_at (by simpa using h) (fun i hi => HP.out i hi (by omega))).elim
      go_wp2
      go_ret
      exact ⟨by rw [HM.out]; rfl, _, rfl⟩

theorem line_bd {v c : Int} (h : lineB v c = true) : 0 ≤ v ∧ v ≤ 3 ∧ -1000000 ≤ c ∧ c ≤ 1000000 ∧ c % 2 = 0 := by simpa [lineB] using h

/-- The six numbers of the mirror at a line. -/
def mA (v : Int) : Int := if v = 0 then -1 else if v = 1 then 1 else 0
def mB (v : Int) : Int := if v = 0 ∨ v = 1 then 0 else if v = 2 then -1 else 1
def mD (v : Int) : Int := if v = 0 then 1 else if v = 1 then -1 else 0
def mE (v c : Int) : Int := if v = 0 then 2 * c else if v = 1 then 0 else c
def mF (v c : Int) : Int := if v = 0 then 0 else if v = 1 then 2 * c else if v = 2 then c else -c

theorem ret_agg6 {a b c d e f a' b' c' d' e' f' : Int} (h1 : a = a') (h2 : b = b') (h3 : c = c') (h4 : d = d') (h5 : e = e') (h6 : f = f') :
    Ending.returned (.agg #[.int .i64 a, .int .i64 b, .int .i64 c, .int .i64 d, .int .i64 e, .int .i64 f]) = .returned (.agg #[.int .i64 a', .int .i64 b', .int .i64 c', .int .i64 d', .int .i64 e', .int .i64 f']) := by subst h1 h2 h3 h4 h5 h6; rfl


/-- The worlds that have all of W as it was. -/
structure Kin (W : World) where
  w : World
  h : Below W.heap.size W w
theorem Kin.cells (W : World) : ∀ (n : Kin W) (b o : Nat), b < W.heap.size → n.w.cell? ⟨b, o, none⟩ = W.cell? ⟨b, o, none⟩ := fun n b o hb => n.h.cell (p := ⟨b, o, none⟩) hb
theorem wp_region_kin {P : Program} {id : Nat} {Q : Exit → Act → World → Prop} {a : Act} {W : World} {l : List Oper} (hm : P.follows .mixedOrders = true) (hB : Region.lexB .any l.toArray = true)
    (h : wpQuiet P l.toArray (fun w' => ∃ n : Kin W, w' = n.w) (fun a' => ∀ w', (∃ n : Kin W, w' = n.w) → Q .normal a' w') l a) : (Code.region id l.toArray true).wp P Q a W :=
  wp_region_quiet (C := fun w' => ∃ n : Kin W, w' = n.w) hm hB ⟨⟨W.drew, bl_drew (bl_refl _)⟩, rfl⟩ (by simpa using h)
theorem kin_of {P : Program} {f : FuncId} {args : Array Value} {W : World} {n : Kin W} {v : Value}
    (h : Calls P f args n.w fun e w' => e = .returned v ∧ Below n.w.heap.size n.w w') : Calls P f args n.w fun e w'' => e = .returned v ∧ ∃ m : Kin W, w'' = m.w :=
  h.mono fun _ w' ⟨he, hb⟩ => ⟨he, ⟨w', bl_via n.h hb⟩, rfl⟩
/-- The world of a walk gets a name. -/
theorem wp_named {P : Program} {c : Code} {Q : Exit → Act → World → Prop} {a : Act} {w : World} (h : ∀ W, W = w → c.wp P Q a W) : c.wp P Q a w := h w rfl
end Go.Proofs.YtehmoacggikfmaaDoor
