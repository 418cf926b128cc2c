/- A part of the proof of sheetReads_holds. -/
import Derived.Test.YtehmoacggikfmaaGreatDoorQlae
import Derived.Deep.QuietTactic
import Derived.BigQuiet
import Derived.Deep.RegionHeld3
namespace Go.Proofs.YtehmoacggikfmaaGreatDoor
open Go.RowKit

/-- A number without its last binary digits; its last one. -/
def shB (z k : Int) : Int := if k = 0 then z else if k = 1 then z / 2 else if k = 2 then z / 4 else z / 8
/-- Is the binary digit k of a number 1? -/
def bitB (z k : Int) : Bool := decide (shB z k % 2 = 1)

theorem bit_eq (z k : Int) (h0 : 0 ≤ z) (h1 : z ≤ 15) (k0 : 0 ≤ k) (k3 : k ≤ 3) : (bits BinOp.and IntKind.i64 (z / 2 ^ k.toNat) 1 == 1) = bitB z k := by
  have hz : z = 0 ∨ z = 1 ∨ z = 2 ∨ z = 3 ∨ z = 4 ∨ z = 5 ∨ z = 6 ∨ z = 7 ∨ z = 8 ∨ z = 9 ∨ z = 10 ∨ z = 11 ∨ z = 12 ∨ z = 13 ∨ z = 14 ∨ z = 15 := by omega
  have hk : k = 0 ∨ k = 1 ∨ k = 2 ∨ k = 3 := by omega
  rcases hz with rfl | rfl | rfl | rfl | rfl | rfl | rfl | rfl | rfl | rfl | rfl | rfl | rfl | rfl | rfl | rfl <;> rcases hk with rfl | rfl | rfl | rfl <;> rfl

set_option maxHeartbeats 1600000 in
theorem hasTri_in (W H x y k z : Int) (b off m cap : Nat) (zs : List Int) (c : Value) (w : World) (hW : 1 ≤ W ∧ W ≤ 8) (hH : 1 ≤ H ∧ H ≤ 8) (hx : 0 ≤ x ∧ x < W) (hy : 0 ≤ y ∧ y < H) (hk : 0 ≤ k ∧ k ≤ 3)
    (hm : y * W + x = (m : Int)) (hl : m < zs.length) (hl2 : zs.length ≤ 64) (hyw : 0 ≤ y * W ∧ y * W ≤ 64) (hc : w.cell? ⟨b, off + m, none⟩ = some (.int .i64 z)) (hz : 0 ≤ z ∧ z ≤ 15) :
    Calls Tryz.prog 80 #[.agg #[.int .i64 W, .int .i64 H, .slice (some ⟨b, off, none⟩) zs.length cap, c], .agg #[.int .i64 x, .int .i64 y, .int .i64 k]] w fun e w' => e = .returned (.bool (bitB z k)) ∧ Below w.heap.size w w' := by
  have e1 : inB x 0 (W - 1) = true := by simp [inB]; omega
  have e2 : inB y 0 (H - 1) = true := by simp [inB]; omega
  have e3 : inB k 0 3 = true := by simp [inB]; omega
  have HZ : Hid ((bits BinOp.and IntKind.i64 (z / 2 ^ k.toNat) 1 == 1) = bitB z k) := bit_eq z k hz.1 hz.2 hk.1 hk.2
  have i1 : (m : Int) < (zs.length : Int) := by omega
  have i0 : (0 : Int) ≤ (m : Int) := by omega
  have wW : IntKind.i64.wrap (W - 1) = W - 1 := by rw [IntKind.wrap_i64]; omega
  have wH : IntKind.i64.wrap (H - 1) = H - 1 := by rw [IntKind.wrap_i64]; omega
  have zb := World.block_lt_of_cell? _ _ hc
  have wYW : IntKind.i64.wrap (y * W) = y * W := by rw [IntKind.wrap_i64]; omega
  have wYX : IntKind.i64.wrap (y * W + x) = m := by rw [hm, IntKind.wrap_i64]; omega
  have wm : IntKind.i64.wrap (m : Int) = m := by rw [IntKind.wrap_i64]; omega
  go_enter Tryz.func80, Tryz.ntmps80
  go_wp2
  go_quiet (first | (go_at_call 17; refine Calls.quiet_of_same (inBounds_any _ _ _ _)))
  go_wp2
  go_ret
  refine ⟨ret_bool ?_, ?_⟩
  · exact HZ.out
  · with_reducible repeat' (first | exact bl_refl _ | refine bl_alloc ?_ | refine bl_drewN ?_ | refine bl_drew ?_)

theorem inf3 : (Tryz.prog.info? 3).map (fun i => (i.zero, i.size, i.bytes)) = some (some (.int .i64 0), 1, 8) := by kernel_rfl
theorem inf109 : (Tryz.prog.info? 55).map (fun i => (i.zero, i.size, i.bytes)) = some (some (.agg #[.int .i64 0, .int .i64 0, .int .i64 0, .int .i64 0, .int .i64 0]), 5, 40) := by kernel_rfl

/-- The four cells of a sheet. -/
def Sh (w : World) (g : Nat) (v0 v1 v2 v3 : Value) : Prop :=
  w.cell? ⟨g, 0, none⟩ = some v0 ∧ w.cell? ⟨g, 1, none⟩ = some v1 ∧ w.cell? ⟨g, 2, none⟩ = some v2 ∧ w.cell? ⟨g, 3, none⟩ = some v3
theorem Sh.kept {w wx : World} {g : Nat} {v0 v1 v2 v3 : Value} (h : Sh w g v0 v1 v2 v3) (hb : Below w.heap.size w wx) : Sh wx g v0 v1 v2 v3 :=
  ⟨cl_kept hb h.1, cl_kept hb h.2.1, cl_kept hb h.2.2.1, cl_kept hb h.2.2.2⟩
theorem Sh.lt {w : World} {g : Nat} {v0 v1 v2 v3 : Value} (h : Sh w g v0 v1 v2 v3) : g < w.heap.size := World.block_lt_of_cell? _ _ h.1

theorem row_at {w : World} {a : Option Addr} {zs : List Int} (h : Row w a zs) (hne : 0 < zs.length) : ∃ b off, a = some ⟨b, off, none⟩ ∧ ∀ j u, (zs.map (fun z => Value.int .i64 z))[j]? = some u → w.cell? ((⟨b, off, none⟩ : Addr).add j) = some u := by
  obtain ⟨b, off, rfl, _⟩ := h 0 hne
  refine ⟨b, off, rfl, fun j u hu => ?_⟩
  have hj : j < zs.length := by
    have := List.getElem?_eq_some_iff.1 hu
    simpa using this.1
  obtain ⟨b', off', e, hc⟩ := h j hj
  simp at e
  obtain ⟨rfl, rfl⟩ := e
  have hadd : (⟨b, off, none⟩ : Addr).add j = ⟨b, off + j, none⟩ := by unfold Addr.add; split <;> simp_all
  rw [hadd, hc]
  simp [hj] at hu
  rw [hu]

/-- Numbers in a row of memory that lies at a block or above. -/
def RowF (w : World) (base : Nat) (a : Option Addr) (zs : List Int) : Prop :=
  ∀ i (h : i < zs.length), ∃ b off, a = some ⟨b, off, none⟩ ∧ base ≤ b ∧ w.cell? ⟨b, off + i, none⟩ = some (.int .i64 zs[i])
theorem RowF.row {w : World} {base : Nat} {a : Option Addr} {zs : List Int} (h : RowF w base a zs) : Row w a zs := fun i hi => by
  obtain ⟨b, off, e, _, hc⟩ := h i hi
  exact ⟨b, off, e, hc⟩
theorem RowF.kept {w wx : World} {base : Nat} {a : Option Addr} {zs : List Int} (h : RowF w base a zs) (hb : Below w.heap.size w wx) : RowF wx base a zs := fun i hi => by
  obtain ⟨b, off, e, hl, hc⟩ := h i hi
  exact ⟨b, off, e, hl, cl_kept hb hc⟩
theorem set_farS {w : World} {p a : Addr} {u v : Value} (h : w.cell? a = some v) (hne : a.block ≠ p.block) : (w.setCell p u).cell? a = some v := by
  have := World.cell?_of_block (w := w) (w' := w.setCell p u) (a := a) (Below.heap_setCell w p u a.block hne)
  exact this.trans h
theorem RowF.set {w : World} {base : Nat} {a : Option Addr} {zs : List Int} (h : RowF w base a zs) {p : Addr} {u : Value} (hp : p.block < base) : RowF (w.setCell p u) base a zs := fun i hi => by
  obtain ⟨b, off, e, hl, hc⟩ := h i hi
  exact ⟨b, off, e, hl, set_farS hc (by dsimp only; omega)⟩
theorem RowF.low {w : World} {base base' : Nat} {a : Option Addr} {zs : List Int} (h : RowF w base a zs) (hl : base' ≤ base) : RowF w base' a zs := fun i hi => by
  obtain ⟨b, off, e, hb, hc⟩ := h i hi
  exact ⟨b, off, e, by omega, hc⟩

theorem own_row {w : World} {base : Nat} {e : TypeId} {size : Nat} {v : Value} {n : Nat} {zs : List Int} (h : w.ownsRow base e size v n (zs.map (fun z => Value.int .i64 z))) (hn : 0 < n) :
    ∃ g cap, v = .slice (some ⟨g, 0, none⟩) n cap ∧ base ≤ g ∧ RowF w base (some ⟨g, 0, none⟩) zs := by
  have hlen := h.1
  rcases h.2 with ⟨_, h0⟩ | ⟨g, cap, cur, hv, hb, _⟩
  · omega
  · subst hv
    refine ⟨g, cap, rfl, hb, fun i hi => ⟨g, 0, rfl, hb, ?_⟩⟩
    have := h.cellAt i (by simp at hlen; omega)
    simp [hi] at this
    simpa using this

theorem row_nil (w : World) (base : Nat) (a : Option Addr) : RowF w base a [] := fun i hi => by simp at hi

end Go.Proofs.YtehmoacggikfmaaGreatDoor
