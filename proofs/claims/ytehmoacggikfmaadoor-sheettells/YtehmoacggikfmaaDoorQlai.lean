/- Is a triangle of a sheet there? The reference's way. -/
import Derived.Test.YtehmoacggikfmaaDoorQlah
import Derived.Deep.QuietTactic
import Derived.BigQuiet
import Derived.Deep.RegionHeld3
namespace Go.Proofs.YtehmoacggikfmaaDoor
open Go.RowKit

/-- A number without its last binary digits; its last one. -/
def shB (z k : Int) : Int := if k = 0 then z else if k = 1 then z / 2 else if k = 2 then z / 4 else z / 8
/-- Is the binary digit k of a number 1? -/
def bitB (z k : Int) : Bool := decide (shB z k % 2 = 1)

theorem bit_eq (z k : Int) (h0 : 0 ≤ z) (h1 : z ≤ 15) (k0 : 0 ≤ k) (k3 : k ≤ 3) : (bits BinOp.and IntKind.i64 (z / 2 ^ k.toNat) 1 == 1) = bitB z k := by
  have hz : z = 0 ∨ z = 1 ∨ z = 2 ∨ z = 3 ∨ z = 4 ∨ z = 5 ∨ z = 6 ∨ z = 7 ∨ z = 8 ∨ z = 9 ∨ z = 10 ∨ z = 11 ∨ z = 12 ∨ z = 13 ∨ z = 14 ∨ z = 15 := by omega
  have hk : k = 0 ∨ k = 1 ∨ k = 2 ∨ k = 3 := by omega
  rcases hz with rfl | rfl | rfl | rfl | rfl | rfl | rfl | rfl | rfl | rfl | rfl | rfl | rfl | rfl | rfl | rfl <;> rcases hk with rfl | rfl | rfl | rfl <;> rfl

set_option maxHeartbeats 1600000 in
theorem hasTri_in (W H x y k z : Int) (b off m cap : Nat) (zs : List Int) (c : Value) (w : World) (hW : 1 ≤ W ∧ W ≤ 8) (hH : 1 ≤ H ∧ H ≤ 8) (hx : 0 ≤ x ∧ x < W) (hy : 0 ≤ y ∧ y < H) (hk : 0 ≤ k ∧ k ≤ 3)
    (hm : y * W + x = (m : Int)) (hl : m < zs.length) (hl2 : zs.length ≤ 64) (hyw : 0 ≤ y * W ∧ y * W ≤ 64) (hc : w.cell? ⟨b, off + m, none⟩ = some (.int .i64 z)) (hz : 0 ≤ z ∧ z ≤ 15) :
    Calls Tryd.prog 18 #[.agg #[.int .i64 W, .int .i64 H, .slice (some ⟨b, off, none⟩) zs.length cap, c], .agg #[.int .i64 x, .int .i64 y, .int .i64 k]] w fun e w' => e = .returned (.bool (bitB z k)) ∧ Below w.heap.size w w' := by
  have e1 : inB x 0 (W - 1) = true := by simp [inB]; omega
  have e2 : inB y 0 (H - 1) = true := by simp [inB]; omega
  have e3 : inB k 0 3 = true := by simp [inB]; omega
  have HZ : Hid ((bits BinOp.and IntKind.i64 (z / 2 ^ k.toNat) 1 == 1) = bitB z k) := bit_eq z k hz.1 hz.2 hk.1 hk.2
  have i1 : (m : Int) < (zs.length : Int) := by omega
  have i0 : (0 : Int) ≤ (m : Int) := by omega
  have wW : IntKind.i64.wrap (W - 1) = W - 1 := by rw [IntKind.wrap_i64]; omega
  have wH : IntKind.i64.wrap (H - 1) = H - 1 := by rw [IntKind.wrap_i64]; omega
  have zb := World.block_lt_of_cell? _ _ hc
  have wYW : IntKind.i64.wrap (y * W) = y * W := by rw [IntKind.wrap_i64]; omega
  have wYX : IntKind.i64.wrap (y * W + x) = m := by rw [hm, IntKind.wrap_i64]; omega
  have wm : IntKind.i64.wrap (m : Int) = m := by rw [IntKind.wrap_i64]; omega
  go_enter Tryd.func18, Tryd.ntmps18
  go_wp2
  go_quiet (first | (go_at_call 30; refine Calls.quiet_of_same (inBounds_any _ _ _ _)))
  go_wp2
  go_ret
  refine ⟨ret_bool ?_, ?_⟩
  · exact HZ.out
  · with_reducible repeat' (first | exact bl_refl _ | refine bl_alloc ?_ | refine bl_drewN ?_ | refine bl_drew ?_)
end Go.Proofs.YtehmoacggikfmaaDoor
