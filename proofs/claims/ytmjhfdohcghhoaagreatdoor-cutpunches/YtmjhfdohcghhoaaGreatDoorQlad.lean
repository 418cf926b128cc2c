/- A part of the proof of cutPunches_holds. -/
import Derived.Test.YtmjhfdohcghhoaaGreatDoorQlac
import Derived.Deep.QuietTactic
import Derived.BigQuiet
import Derived.Deep.RegionHeld3
import Derived.ArgAppend
import Derived.Laws.AppendOwnNone
import Derived.Laws.AppendOwn
import Derived.Laws.CopyOwn
namespace Go.Proofs.YtmjhfdohcghhoaaGreatDoor
open Go.RowKit

/-- A number without its last binary digits; its last one. -/
def shB (z k : Int) : Int := if k = 0 then z else if k = 1 then z / 2 else if k = 2 then z / 4 else z / 8
/-- Is the binary digit k of a number 1? -/
def bitB (z k : Int) : Bool := decide (shB z k % 2 = 1)

theorem bit_eq (z k : Int) (h0 : 0 ≤ z) (h1 : z ≤ 15) (k0 : 0 ≤ k) (k3 : k ≤ 3) : (bits BinOp.and IntKind.i64 (z / 2 ^ k.toNat) 1 == 1) = bitB z k := by
  have hz : z = 0 ∨ z = 1 ∨ z = 2 ∨ z = 3 ∨ z = 4 ∨ z = 5 ∨ z = 6 ∨ z = 7 ∨ z = 8 ∨ z = 9 ∨ z = 10 ∨ z = 11 ∨ z = 12 ∨ z = 13 ∨ z = 14 ∨ z = 15 := by omega
  have hk : k = 0 ∨ k = 1 ∨ k = 2 ∨ k = 3 := by omega
  rcases hz with rfl | rfl | rfl | rfl | rfl | rfl | rfl | rfl | rfl | rfl | rfl | rfl | rfl | rfl | rfl | rfl <;> rcases hk with rfl | rfl | rfl | rfl <;> rfl

set_option maxHeartbeats 1600000 in
theorem hasTri_in (W H x y k z : Int) (b off m cap : Nat) (zs : List Int) (c : Value) (w : World) (hW : 1 ≤ W ∧ W ≤ 8) (hH : 1 ≤ H ∧ H ≤ 8) (hx : 0 ≤ x ∧ x < W) (hy : 0 ≤ y ∧ y < H) (hk : 0 ≤ k ∧ k ≤ 3)
    (hm : y * W + x = (m : Int)) (hl : m < zs.length) (hl2 : zs.length ≤ 64) (hyw : 0 ≤ y * W ∧ y * W ≤ 64) (hc : w.cell? ⟨b, off + m, none⟩ = some (.int .i64 z)) (hz : 0 ≤ z ∧ z ≤ 15) :
    Calls Tryz.prog 63 #[.agg #[.int .i64 W, .int .i64 H, .slice (some ⟨b, off, none⟩) zs.length cap, c], .agg #[.int .i64 x, .int .i64 y, .int .i64 k]] w fun e w' => e = .returned (.bool (bitB z k)) ∧ Below w.heap.size w w' := by
  have e1 : inB x 0 (W - 1) = true := by simp [inB]; omega
  have e2 : inB y 0 (H - 1) = true := by simp [inB]; omega
  have e3 : inB k 0 3 = true := by simp [inB]; omega
  have HZ : Hid ((bits BinOp.and IntKind.i64 (z / 2 ^ k.toNat) 1 == 1) = bitB z k) := bit_eq z k hz.1 hz.2 hk.1 hk.2
  have i1 : (m : Int) < (zs.length : Int) := by omega
  have i0 : (0 : Int) ≤ (m : Int) := by omega
  have wW : IntKind.i64.wrap (W - 1) = W - 1 := by rw [IntKind.wrap_i64]; omega
  have wH : IntKind.i64.wrap (H - 1) = H - 1 := by rw [IntKind.wrap_i64]; omega
  have zb := World.block_lt_of_cell? _ _ hc
  have wYW : IntKind.i64.wrap (y * W) = y * W := by rw [IntKind.wrap_i64]; omega
  have wYX : IntKind.i64.wrap (y * W + x) = m := by rw [hm, IntKind.wrap_i64]; omega
  have wm : IntKind.i64.wrap (m : Int) = m := by rw [IntKind.wrap_i64]; omega
  go_enter Tryz.func63, Tryz.ntmps63
  go_wp2
  go_quiet (first | (go_at_call 34; refine Calls.quiet_of_same (inBounds_any _ _ _ _)))
  go_wp2
  go_ret
  refine ⟨ret_bool ?_, ?_⟩
  · exact HZ.out
  · with_reducible repeat' (first | exact bl_refl _ | refine bl_alloc ?_ | refine bl_drewN ?_ | refine bl_drew ?_)

theorem run_append_nothing {P : Program} (w : World) (t ty e : TypeId) (i : TypeInfo) (ht : P.underlying t = some (.slice e)) (hi : P.info? e = some i) (ao : Option Addr) (c : Nat) :
    (Builtin.append_ #[t, t] ty #[.slice none 0 0, .slice ao 0 c]).run P w = .ok (.slice none 0 0) w := by
  cases ao <;> simp [Builtin.append_, run_underlying ht, run_sizeOf w hi, Builtin.lenOf, Builtin.firstCells, loadCells, loadCellsFrom]

theorem wpList_append_nothing {P : Program} (w : World) {ops : Array Oper} {rest : List Oper} {o : Oper} {a : Act} {Q : Exit → Act → World → Prop} (hgd : o.guard = none) (s x : Operand) (t : TypeId)
    (ho : o.op = .call { callee := .builtin .append, args := #[s, x], argTypes := #[t, t] })
    (e : TypeId) (i : TypeInfo) (ht : P.underlying t = some (.slice e)) (hi : P.info? e = some i) (ao : Option Addr) (c : Nat)
    (hs : a.eval s = .slice none 0 0) (hx : a.eval x = .slice ao 0 c)
    (h : wpList P ops Q rest (a.put o.dst (.slice none 0 0)) w) : wpList P ops Q (o :: rest) a w := by
  refine wpList_plain hgd fun K hK => ?_
  have hrun := run_append_nothing (P := P) w t o.type e i ht hi ao c
  unfold Oper.wp
  simp [execOp, ho, resolve, invoke, builtin, hs, hx, hrun, Result.andThen]
  exact hK _ _ h

theorem inf3 : (Tryz.prog.info? 3).map (fun i => (i.zero, i.size, i.bytes)) = some (some (.int .i64 0), 1, 8) := by kernel_rfl
theorem inf109 : (Tryz.prog.info? 124).map (fun i => (i.zero, i.size, i.bytes)) = some (some (.agg #[.int .i64 0, .int .i64 0, .int .i64 0, .int .i64 0, .int .i64 0]), 5, 40) := by kernel_rfl

/-- The four cells of a sheet. -/
def Sh (w : World) (g : Nat) (v0 v1 v2 v3 : Value) : Prop :=
  w.cell? ⟨g, 0, none⟩ = some v0 ∧ w.cell? ⟨g, 1, none⟩ = some v1 ∧ w.cell? ⟨g, 2, none⟩ = some v2 ∧ w.cell? ⟨g, 3, none⟩ = some v3
theorem Sh.kept {w wx : World} {g : Nat} {v0 v1 v2 v3 : Value} (h : Sh w g v0 v1 v2 v3) (hb : Below w.heap.size w wx) : Sh wx g v0 v1 v2 v3 :=
  ⟨cl_kept hb h.1, cl_kept hb h.2.1, cl_kept hb h.2.2.1, cl_kept hb h.2.2.2⟩
theorem row_at {w : World} {a : Option Addr} {zs : List Int} (h : Row w a zs) (hne : 0 < zs.length) : ∃ b off, a = some ⟨b, off, none⟩ ∧ ∀ j u, (zs.map (fun z => Value.int .i64 z))[j]? = some u → w.cell? ((⟨b, off, none⟩ : Addr).add j) = some u := by
  obtain ⟨b, off, rfl, _⟩ := h 0 hne
  refine ⟨b, off, rfl, fun j u hu => ?_⟩
  have hj : j < zs.length := by
    have := List.getElem?_eq_some_iff.1 hu
    simpa using this.1
  obtain ⟨b', off', e, hc⟩ := h j hj
  simp at e
  obtain ⟨rfl, rfl⟩ := e
  have hadd : (⟨b, off, none⟩ : Addr).add j = ⟨b, off + j, none⟩ := by unfold Addr.add; split <;> simp_all
  rw [hadd, hc]
  simp [hj] at hu
  rw [hu]

/-- Numbers in a row of memory that lies at a block or above. -/
def RowF (w : World) (base : Nat) (a : Option Addr) (zs : List Int) : Prop :=
  ∀ i (h : i < zs.length), ∃ b off, a = some ⟨b, off, none⟩ ∧ base ≤ b ∧ w.cell? ⟨b, off + i, none⟩ = some (.int .i64 zs[i])
theorem RowF.kept {w wx : World} {base : Nat} {a : Option Addr} {zs : List Int} (h : RowF w base a zs) (hb : Below w.heap.size w wx) : RowF wx base a zs := fun i hi => by
  obtain ⟨b, off, e, hl, hc⟩ := h i hi
  exact ⟨b, off, e, hl, cl_kept hb hc⟩
theorem set_far {w : World} {p a : Addr} {u v : Value} (h : w.cell? a = some v) (hne : a.block ≠ p.block) : (w.setCell p u).cell? a = some v := by
  have := World.cell?_of_block (w := w) (w' := w.setCell p u) (a := a) (Below.heap_setCell w p u a.block hne)
  exact this.trans h
theorem RowF.set {w : World} {base : Nat} {a : Option Addr} {zs : List Int} (h : RowF w base a zs) {p : Addr} {u : Value} (hp : p.block < base) : RowF (w.setCell p u) base a zs := fun i hi => by
  obtain ⟨b, off, e, hl, hc⟩ := h i hi
  exact ⟨b, off, e, hl, set_far hc (by dsimp only; omega)⟩
theorem RowF.low {w : World} {base base' : Nat} {a : Option Addr} {zs : List Int} (h : RowF w base a zs) (hl : base' ≤ base) : RowF w base' a zs := fun i hi => by
  obtain ⟨b, off, e, hb, hc⟩ := h i hi
  exact ⟨b, off, e, by omega, hc⟩

theorem own_row {w : World} {base : Nat} {e : TypeId} {size : Nat} {v : Value} {n : Nat} {zs : List Int} (h : w.ownsRow base e size v n (zs.map (fun z => Value.int .i64 z))) (hn : 0 < n) :
    ∃ g cap, v = .slice (some ⟨g, 0, none⟩) n cap ∧ base ≤ g ∧ RowF w base (some ⟨g, 0, none⟩) zs := by
  have hlen := h.1
  rcases h.2 with ⟨_, h0⟩ | ⟨g, cap, cur, hv, hb, _⟩
  · omega
  · subst hv
    refine ⟨g, cap, rfl, hb, fun i hi => ⟨g, 0, rfl, hb, ?_⟩⟩
    have := h.cellAt i (by simp at hlen; omega)
    simp [hi] at this
    simpa using this

theorem row_nil (w : World) (base : Nat) (a : Option Addr) : RowF w base a [] := fun i hi => by simp at hi

set_option maxHeartbeats 3200000 in
theorem sheetOf_form (W H : Int) (a b : Option Addr) (ca cb n : Nat) (zs ks : List Int) (w : World) (hz : Row w a zs) (hk : Row w b ks) (hn : ks.length = n * 5) (h1 : zs.length ≤ 17592186044416) (h2 : n ≤ 3518437208883) :
    Calls Tryz.prog 27 #[.agg #[.int .i64 W, .int .i64 H, .slice a zs.length ca, .slice b n cb]] w fun e w' => ∃ a' ca' b' cb', e = .returned (.agg #[.int .i64 W, .int .i64 H, .slice a' zs.length ca', .slice b' n cb']) ∧ RowF w' w.heap.size a' zs ∧ RowF w' w.heap.size b' ks ∧ Below w.heap.size w w' ∧ (b' = none ∨ ∃ p o, b' = some ⟨p, o, none⟩) := by
  have HZ : Hid (Row w a zs) := hz
  have HK : Hid (Row w b ks) := hk
  have HN : Hid (ks.length = n * 5) := hn
  obtain ⟨i3, hi3, hz0, hz1, hz2⟩ := info_parts inf3
  obtain ⟨i9, hi9, hy0, hy1, hy2⟩ := info_parts inf109
  have HI3 : Hid (Tryz.prog.info? 3 = some i3 ∧ i3.zero = some (.int .i64 0) ∧ i3.size = 1 ∧ i3.bytes = 8) := ⟨hi3, hz0, hz1, hz2⟩
  have HI9 : Hid (Tryz.prog.info? 124 = some i9 ∧ i9.zero = some (.agg #[.int .i64 0, .int .i64 0, .int .i64 0, .int .i64 0, .int .i64 0]) ∧ i9.size = 5 ∧ i9.bytes = 40) := ⟨hi9, hy0, hy1, hy2⟩
  clear hz hk hi3 hz0 hz1 hz2 hi9 hy0 hy1 hy2 hn
  have b0 : Below w.heap.size w ((w.alloc (.cells #[.int .i64 W, .int .i64 H, .slice a zs.length ca, .slice b n cb] 25)).alloc (.cells #[.int .i64 0, .int .i64 0, .slice none 0 0, .slice none 0 0] 25)) := bl_alloc (bl_alloc (bl_refl _))
  have HB0 : Hid (Below w.heap.size w ((w.alloc (.cells #[.int .i64 W, .int .i64 H, .slice a zs.length ca, .slice b n cb] 25)).alloc (.cells #[.int .i64 0, .int .i64 0, .slice none 0 0, .slice none 0 0] 25))) := b0
  clear b0
  go_enter Tryz.func27, Tryz.ntmps27
  go_upto_region 1 with fail
  go_cut [] (fun wx => ∃ a' ca', Sh wx w.heap.size (.int .i64 W) (.int .i64 H) (.slice a' zs.length ca') (.slice b n cb) ∧ Fr wx w.heap.size ∧ Sh wx (w.heap.size + 1) (.int .i64 0) (.int .i64 0) (.slice none 0 0) (.slice none 0 0) ∧ Fr wx (w.heap.size + 1) ∧ RowF wx (w.heap.size + 1 + 1) a' zs ∧ Below w.heap.size w wx)
  case first =>
    by_cases he : zs.length = 0
    · have hzz : zs = [] := List.eq_nil_of_length_eq_zero he
      subst hzz
      go_wp2_with (at_builtin; refine wpList_append_nothing _ rfl (.const (.slice none 0 0)) (.tmp 4) 22 rfl 3 i3 Tryz.underlying22 HI3.out.1 a ca rfl rfl ?_)
      go_meet
      case rel =>
        refine ⟨none, 0, ⟨?_, ?_, ?_, ?_⟩, ?_, ⟨?_, ?_, ?_, ?_⟩, ?_, row_nil _ _ _, ?_⟩
        · simp [go_sem]
        · simp [go_sem]
        · simp [go_sem]
        · simp [go_sem]
        · simp [Fr, go_sem]
        · simp [go_sem]
        · simp [go_sem]
        · simp [go_sem]
        · simp [go_sem]
        · simp [Fr, go_sem]
        · with_reducible repeat' (first | exact bl_refl _ | refine bl_set ?_ ?_ | refine bl_alloc ?_)
          all_goals (first | omega | (dsimp only; omega))
    · obtain ⟨ba, off, rfl, hc⟩ := row_at (HZ.out.kept HB0.out) (by omega)
      have HC : Hid (∀ j u, (zs.map (fun z => Value.int .i64 z))[j]? = some u → ((w.alloc (.cells #[.int .i64 W, .int .i64 H, .slice (some ⟨ba, off, none⟩) zs.length ca, .slice b n cb] 25)).alloc (.cells #[.int .i64 0, .int .i64 0, .slice none 0 0, .slice none 0 0] 25)).cell? ((⟨ba, off, none⟩ : Addr).add j) = some u) := hc
      clear hc
      go_wp2_with (at_builtin; refine wpList_append_grows _ rfl (.const (.slice none 0 0)) (.tmp 4) 22 rfl 3 i3 (.int .i64 0) 1 8 Tryz.underlying22 HI3.out.1 HI3.out.2.1 HI3.out.2.2.1 HI3.out.2.2.2 rfl (by decide) none 0 0 [] rfl (fun _ => ⟨rfl, rfl⟩) rfl (by intro _ h; simp at h) ⟨ba, off, none⟩ zs.length ca (zs.map (fun z => Value.int .i64 z)) rfl (by simp) (by intro j u hu; exact HC.out j u hu) (by intro u hu; obtain ⟨z, _, rfl⟩ := List.mem_map.1 hu; rfl) (by omega) (by unfold maxLen; omega) (by omega) ?grow)
      case grow =>
        intro v' w' hown hgrow
        have hbel : Below ((w.alloc (.cells #[.int .i64 W, .int .i64 H, .slice (some ⟨ba, off, none⟩) zs.length ca, .slice b n cb] 25)).alloc (.cells #[.int .i64 0, .int .i64 0, .slice none 0 0, .slice none 0 0] 25)).heap.size ((w.alloc (.cells #[.int .i64 W, .int .i64 H, .slice (some ⟨ba, off, none⟩) zs.length ca, .slice b n cb] 25)).alloc (.cells #[.int .i64 0, .int .i64 0, .slice none 0 0, .slice none 0 0] 25)) w' := (Below.refl _ _).grown hgrow (Nat.le_refl _) (fun k h => by cases h)
        obtain ⟨g, cap', rfl, hg, hrow⟩ := own_row (by simpa using hown) (by omega)
        have HR : Hid (RowF w' (w.heap.size + 1 + 1) (some ⟨g, 0, none⟩) zs) := hrow.low (by simp)
        have HB : Hid (Below w.heap.size w w') := bl_via HB0.out hbel
        have s0 : w'.cell? ⟨w.heap.size, 0, none⟩ = some (.int .i64 W) := cl_kept hbel (by simp [go_sem])
        have s1 : w'.cell? ⟨w.heap.size, 1, none⟩ = some (.int .i64 H) := cl_kept hbel (by simp [go_sem])
        have s2 : w'.cell? ⟨w.heap.size, 2, none⟩ = some (.slice (some ⟨ba, off, none⟩) zs.length ca) := cl_kept hbel (by simp [go_sem])
        have s3 : w'.cell? ⟨w.heap.size, 3, none⟩ = some (.slice b n cb) := cl_kept hbel (by simp [go_sem])
        have sf0 : w'.frozen? ⟨w.heap.size, 0, none⟩ = false := (hbel.frozen (p := ⟨w.heap.size, 0, none⟩) (by simp <;> omega)).trans (by simp [go_sem])
        have sf1 : w'.frozen? ⟨w.heap.size, 1, none⟩ = false := (hbel.frozen (p := ⟨w.heap.size, 1, none⟩) (by simp <;> omega)).trans (by simp [go_sem])
        have sf2 : w'.frozen? ⟨w.heap.size, 2, none⟩ = false := (hbel.frozen (p := ⟨w.heap.size, 2, none⟩) (by simp <;> omega)).trans (by simp [go_sem])
        have sf3 : w'.frozen? ⟨w.heap.size, 3, none⟩ = false := (hbel.frozen (p := ⟨w.heap.size, 3, none⟩) (by simp <;> omega)).trans (by simp [go_sem])
        have sf4 : w'.frozen? ⟨w.heap.size, 4, none⟩ = false := (hbel.frozen (p := ⟨w.heap.size, 4, none⟩) (by simp <;> omega)).trans (by simp [go_sem])
        have sf5 : w'.frozen? ⟨w.heap.size, 5, none⟩ = false := (hbel.frozen (p := ⟨w.heap.size, 5, none⟩) (by simp <;> omega)).trans (by simp [go_sem])
        have r0 : w'.cell? ⟨w.heap.size + 1, 0, none⟩ = some (.int .i64 0) := cl_kept hbel (by simp [go_sem])
        have r1 : w'.cell? ⟨w.heap.size + 1, 1, none⟩ = some (.int .i64 0) := cl_kept hbel (by simp [go_sem])
        have r2 : w'.cell? ⟨w.heap.size + 1, 2, none⟩ = some (.slice none 0 0) := cl_kept hbel (by simp [go_sem])
        have r3 : w'.cell? ⟨w.heap.size + 1, 3, none⟩ = some (.slice none 0 0) := cl_kept hbel (by simp [go_sem])
        have rf0 : w'.frozen? ⟨w.heap.size + 1, 0, none⟩ = false := (hbel.frozen (p := ⟨w.heap.size + 1, 0, none⟩) (by simp <;> omega)).trans (by simp [go_sem])
        have rf1 : w'.frozen? ⟨w.heap.size + 1, 1, none⟩ = false := (hbel.frozen (p := ⟨w.heap.size + 1, 1, none⟩) (by simp <;> omega)).trans (by simp [go_sem])
        have rf2 : w'.frozen? ⟨w.heap.size + 1, 2, none⟩ = false := (hbel.frozen (p := ⟨w.heap.size + 1, 2, none⟩) (by simp <;> omega)).trans (by simp [go_sem])
        have rf3 : w'.frozen? ⟨w.heap.size + 1, 3, none⟩ = false := (hbel.frozen (p := ⟨w.heap.size + 1, 3, none⟩) (by simp <;> omega)).trans (by simp [go_sem])
        have rf4 : w'.frozen? ⟨w.heap.size + 1, 4, none⟩ = false := (hbel.frozen (p := ⟨w.heap.size + 1, 4, none⟩) (by simp <;> omega)).trans (by simp [go_sem])
        have rf5 : w'.frozen? ⟨w.heap.size + 1, 5, none⟩ = false := (hbel.frozen (p := ⟨w.heap.size + 1, 5, none⟩) (by simp <;> omega)).trans (by simp [go_sem])
        have zs0 : w.heap.size < w'.heap.size := World.block_lt_of_cell? _ _ s0
        have zr0 : w.heap.size + 1 < w'.heap.size := World.block_lt_of_cell? _ _ r0
        have zg0 : w.heap.size + 1 < g := by first | omega | (simp at hg; omega)
        clear hbel hrow hown hgrow hg HC
        go_wp2
        go_meet
        case rel =>
          refine ⟨some ⟨g, 0, none⟩, cap', ⟨?_, ?_, ?_, ?_⟩, ?_, ⟨?_, ?_, ?_, ?_⟩, ?_, ?_, ?_⟩
          · simp [go_sem, s0]
          · simp [go_sem, s1]
          · simp [go_sem, s2]
          · simp [go_sem, s3]
          · simp [Fr, go_sem, sf0, sf1, sf2, sf3, sf4, sf5]
          · simp [go_sem, r0]
          · simp [go_sem, r1]
          · simp [go_sem, r2]
          · simp [go_sem, r3]
          · simp [Fr, go_sem, rf0, rf1, rf2, rf3, rf4, rf5]
          · exact HR.out.set (by dsimp only; omega)
          · exact bl_set HB.out (by dsimp only; omega)
  case rest =>
    obtain ⟨a', ca', ⟨s0, s1, s2, s3⟩, ⟨sf0, sf1, sf2, sf3, sf4, sf5⟩, ⟨r0, r1, r2, r3⟩, ⟨rf0, rf1, rf2, rf3, rf4, rf5⟩, hRow, hB⟩ := hcut
    have HR : Hid (RowF wc (w.heap.size + 1 + 1) a' zs) := hRow
    have HB : Hid (Below w.heap.size w wc) := hB
    have zs0 : w.heap.size < wc.heap.size := World.block_lt_of_cell? _ _ s0
    have zr0 : w.heap.size + 1 < wc.heap.size := World.block_lt_of_cell? _ _ r0
    have HKc : Hid (Row wc b ks) := HK.out.kept hB
    clear hRow hB HB0
    by_cases he : n = 0
    · have hkk : ks = [] := List.eq_nil_of_length_eq_zero (by rw [HN.out, he])
      subst hkk he
      go_wp2_with (at_builtin; refine wpList_append_nothing _ rfl (.const (.slice none 0 0)) (.tmp 8) 23 rfl 124 i9 Tryz.underlying23 HI9.out.1 b cb rfl rfl ?_)
      refine bodyPost_ret (v := .agg #[.int .i64 W, .int .i64 H, .slice a' zs.length ca', .slice none 0 0]) ?_ rfl ⟨a', ca', none, 0, rfl, ?_, row_nil _ _ _, ?_, Or.inl rfl⟩
      · simp [results, Tryz.results27, go_sem, *]
      · have h5 := HR.out.low (base' := w.heap.size + 1 + 1) (Nat.le_refl _)
        refine RowF.low (base := w.heap.size + 1 + 1) ?_ (by omega)
        with_reducible repeat' (first | exact h5 | refine RowF.set ?_ ?_ | omega | (dsimp only; omega))
      · with_reducible repeat' (first | exact HB.out | refine bl_set ?_ ?_)
        all_goals (first | omega | (dsimp only; omega))
    · obtain ⟨bb, off, rfl, hc⟩ := row_at HKc.out (by rw [HN.out]; omega)
      have HC : Hid (∀ j u, (ks.map (fun z => Value.int .i64 z))[j]? = some u → wc.cell? ((⟨bb, off, none⟩ : Addr).add j) = some u) := hc
      clear hc
      go_wp2_with (at_builtin; refine wpList_append_grows _ rfl (.const (.slice none 0 0)) (.tmp 8) 23 rfl 124 i9 (.agg #[.int .i64 0, .int .i64 0, .int .i64 0, .int .i64 0, .int .i64 0]) 5 40 Tryz.underlying23 HI9.out.1 HI9.out.2.1 HI9.out.2.2.1 HI9.out.2.2.2 rfl (by decide) none 0 0 [] rfl (fun _ => ⟨rfl, rfl⟩) rfl (by intro _ h; simp at h) ⟨bb, off, none⟩ n cb (ks.map (fun z => Value.int .i64 z)) rfl (by rw [List.length_map]; exact HN.out) (by intro j u hu; exact HC.out j u hu) (by intro u hu; obtain ⟨z, _, rfl⟩ := List.mem_map.1 hu; rfl) (by omega) (by unfold maxLen; omega) (by omega) ?grow)
      case grow =>
        intro v' w' hown hgrow
        have hbel : Below wc.heap.size wc w' := (Below.refl _ _).grown hgrow (Nat.le_refl _) (fun k h => by cases h)
        obtain ⟨g, cap', rfl, hg, hrow⟩ := own_row (n := n) (by simpa using hown) (by omega)
        have HR2 : Hid (RowF w' (w.heap.size + 1 + 1) (some ⟨g, 0, none⟩) ks) := hrow.low (by omega)
        have HR1 : Hid (RowF w' (w.heap.size + 1 + 1) a' zs) := HR.out.kept hbel
        have HB2 : Hid (Below w.heap.size w w') := bl_via HB.out hbel
        have s0' : w'.cell? ⟨w.heap.size, 0, none⟩ = some (.int .i64 W) := cl_kept hbel s0
        have s1' : w'.cell? ⟨w.heap.size, 1, none⟩ = some (.int .i64 H) := cl_kept hbel s1
        have s2' : w'.cell? ⟨w.heap.size, 2, none⟩ = some (.slice a' zs.length ca') := cl_kept hbel s2
        have s3' : w'.cell? ⟨w.heap.size, 3, none⟩ = some (.slice (some ⟨bb, off, none⟩) n cb) := cl_kept hbel s3
        have sf0' : w'.frozen? ⟨w.heap.size, 0, none⟩ = false := (hbel.frozen (p := ⟨w.heap.size, 0, none⟩) (by dsimp only; omega)).trans sf0
        have sf1' : w'.frozen? ⟨w.heap.size, 1, none⟩ = false := (hbel.frozen (p := ⟨w.heap.size, 1, none⟩) (by dsimp only; omega)).trans sf1
        have sf2' : w'.frozen? ⟨w.heap.size, 2, none⟩ = false := (hbel.frozen (p := ⟨w.heap.size, 2, none⟩) (by dsimp only; omega)).trans sf2
        have sf3' : w'.frozen? ⟨w.heap.size, 3, none⟩ = false := (hbel.frozen (p := ⟨w.heap.size, 3, none⟩) (by dsimp only; omega)).trans sf3
        have r0' : w'.cell? ⟨w.heap.size + 1, 0, none⟩ = some (.int .i64 0) := cl_kept hbel r0
        have r1' : w'.cell? ⟨w.heap.size + 1, 1, none⟩ = some (.int .i64 0) := cl_kept hbel r1
        have r2' : w'.cell? ⟨w.heap.size + 1, 2, none⟩ = some (.slice none 0 0) := cl_kept hbel r2
        have r3' : w'.cell? ⟨w.heap.size + 1, 3, none⟩ = some (.slice none 0 0) := cl_kept hbel r3
        have rf0' : w'.frozen? ⟨w.heap.size + 1, 0, none⟩ = false := (hbel.frozen (p := ⟨w.heap.size + 1, 0, none⟩) (by dsimp only; omega)).trans rf0
        have rf1' : w'.frozen? ⟨w.heap.size + 1, 1, none⟩ = false := (hbel.frozen (p := ⟨w.heap.size + 1, 1, none⟩) (by dsimp only; omega)).trans rf1
        have rf2' : w'.frozen? ⟨w.heap.size + 1, 2, none⟩ = false := (hbel.frozen (p := ⟨w.heap.size + 1, 2, none⟩) (by dsimp only; omega)).trans rf2
        have rf3' : w'.frozen? ⟨w.heap.size + 1, 3, none⟩ = false := (hbel.frozen (p := ⟨w.heap.size + 1, 3, none⟩) (by dsimp only; omega)).trans rf3
        have zs1 : w.heap.size < w'.heap.size := World.block_lt_of_cell? _ _ s0'
        have zr1 : w.heap.size + 1 < w'.heap.size := World.block_lt_of_cell? _ _ r0'
        clear hbel hrow hown hgrow hg HC HR HB HKc
        go_wp2
        refine bodyPost_ret (v := .agg #[.int .i64 W, .int .i64 H, .slice a' zs.length ca', .slice (some ⟨g, 0, none⟩) n cap']) ?_ rfl ⟨a', ca', some ⟨g, 0, none⟩, cap', rfl, ?_, ?_, ?_, Or.inr ⟨_, _, rfl⟩⟩
        · simp [results, Tryz.results27, go_sem, *]
        · have h5 := HR1.out.low (base' := w.heap.size + 1 + 1) (Nat.le_refl _)
          refine RowF.low (base := w.heap.size + 1 + 1) ?_ (by omega)
          with_reducible repeat' (first | exact h5 | refine RowF.set ?_ ?_ | omega | (dsimp only; omega))
        · have h5 := HR2.out.low (base' := w.heap.size + 1 + 1) (Nat.le_refl _)
          refine RowF.low (base := w.heap.size + 1 + 1) ?_ (by omega)
          with_reducible repeat' (first | exact h5 | refine RowF.set ?_ ?_ | omega | (dsimp only; omega))
        · with_reducible repeat' (first | exact HB2.out | refine bl_set ?_ ?_)
          all_goals (first | omega | (dsimp only; omega))
theorem sheetOf_any (W H : Int) (a b : Option Addr) (ca cb n : Nat) (zs ks : List Int) (w : World) (hz : Row w a zs) (hk : Row w b ks) (hn : ks.length = n * 5) (h1 : zs.length ≤ 17592186044416) (h2 : n ≤ 3518437208883) :
    Calls Tryz.prog 27 #[.agg #[.int .i64 W, .int .i64 H, .slice a zs.length ca, .slice b n cb]] w fun e w' => ∃ a' ca' b' cb', e = .returned (.agg #[.int .i64 W, .int .i64 H, .slice a' zs.length ca', .slice b' n cb']) ∧ RowF w' w.heap.size a' zs ∧ RowF w' w.heap.size b' ks ∧ Below w.heap.size w w' :=
  (sheetOf_form W H a b ca cb n zs ks w hz hk hn h1 h2).mono fun _ _ ⟨a', ca', b', cb', he, r1, r2, hb, _⟩ => ⟨a', ca', b', cb', he, r1, r2, hb⟩

/-- Is a triangle there, by a sheet's numbers? -/
def bitAt (zs : List Int) (W x y k : Nat) : Bool := bitB (zs.getD (y * W + x) 0) k
/-- The triangles of a cell, of a row, of some rows. -/
def tk (zs : List Int) (W x y n : Nat) : List (Int × Int × Int) := ((List.range n).filter (fun k => bitAt zs W x y k)).map (fun (k : Nat) => ((x : Int), (y : Int), (k : Int)))
def tx (zs : List Int) (W y n : Nat) : List (Int × Int × Int) := (List.range n).flatMap (fun x => tk zs W x y 4)
def ty (zs : List Int) (W n : Nat) : List (Int × Int × Int) := (List.range n).flatMap (fun y => tx zs W y W)
theorem tk_zero (zs : List Int) (W x y : Nat) : tk zs W x y 0 = [] := by simp [tk]
theorem tx_zero (zs : List Int) (W y : Nat) : tx zs W y 0 = [] := by simp [tx]
theorem tk_yes {zs : List Int} {W x y n : Nat} (h : bitAt zs W x y n = true) : tk zs W x y (n + 1) = tk zs W x y n ++ [((x : Int), (y : Int), (n : Int))] := by
  simp [tk, List.range_succ, List.filter_append, h]
theorem tk_no {zs : List Int} {W x y n : Nat} (h : bitAt zs W x y n = false) : tk zs W x y (n + 1) = tk zs W x y n := by
  simp [tk, List.range_succ, List.filter_append, h]
theorem tx_succ (zs : List Int) (W y n : Nat) : tx zs W y (n + 1) = tx zs W y n ++ tk zs W n y 4 := by
  simp [tx, List.range_succ, List.flatMap_append]
theorem ty_succ (zs : List Int) (W n : Nat) : ty zs W (n + 1) = ty zs W n ++ tx zs W n W := by
  simp [ty, List.range_succ, List.flatMap_append]
theorem tk_len (zs : List Int) (W x y n : Nat) : (tk zs W x y n).length ≤ n := by
  unfold tk
  rw [List.length_map]
  exact Nat.le_trans (List.length_filter_le _ _) (by simp)
theorem tx_len (zs : List Int) (W y n : Nat) : (tx zs W y n).length ≤ 4 * n := by
  induction n with
  | zero => simp [tx]
  | succ n ih =>
    rw [tx_succ, List.length_append]
    have := tk_len zs W n y 4
    omega
theorem ty_len (zs : List Int) (W n : Nat) (hW : W ≤ 8) : (ty zs W n).length ≤ 32 * n := by
  induction n with
  | zero => simp [ty]
  | succ n ih =>
    rw [ty_succ, List.length_append]
    have := tx_len zs W n W
    omega

/-- Triangles, number by number. -/
def flatV (l : List (Int × Int × Int)) : List Value := l.flatMap fun t => [.int .i64 t.1, .int .i64 t.2.1, .int .i64 t.2.2]
theorem flatV_add (l m : List (Int × Int × Int)) : flatV (l ++ m) = flatV l ++ flatV m := by simp [flatV, List.flatMap_append]

theorem cell_three_new (w : World) (a b c : Int) : ∀ j u, ([Value.int .i64 a, .int .i64 b, .int .i64 c])[j]? = some u → (w.alloc (.cells #[.int .i64 a, .int .i64 b, .int .i64 c] 43)).cell? ((⟨w.heap.size, 0, none⟩ : Addr).add j) = some u := by
  intro j u hu
  match j, hu with
  | 0, hu => simp at hu; subst hu; simp [go_sem, Addr.add]
  | 1, hu => simp at hu; subst hu; simp [go_sem, Addr.add]
  | 2, hu => simp at hu; subst hu; simp [go_sem, Addr.add]

theorem own_below {w w' : World} {base : Nat} {e : TypeId} {size : Nat} {v : Value} {n : Nat} {xs : List Value} (h : w.ownsRow base e size v n xs) (hb : Below w.heap.size w w') : w'.ownsRow base e size v n xs := by
  refine ⟨h.1, ?_⟩
  rcases h.2 with ⟨h1, h2⟩ | ⟨g, cap, cur, h1, h2, h3, h4⟩
  · exact .inl ⟨h1, h2⟩
  · refine .inr ⟨g, cap, cur, h1, h2, ?_, h4⟩
    have hg : g < w.heap.size := by
      rcases Nat.lt_or_ge g w.heap.size with h | h
      · exact h
      · rw [Array.getElem?_eq_none h] at h3; cases h3
    rw [hb.block g hg]
    exact h3
theorem own_base {w : World} {base : Nat} {e : TypeId} {size : Nat} {v : Value} {n : Nat} {xs : List Value} (h : w.ownsRow base e size v n xs) : ∀ k, v.ownBlock = some k → base ≤ k := by
  intro k hk
  rcases h.2 with ⟨rfl, _⟩ | ⟨g, cap, cur, rfl, h2, _⟩
  · simp [Value.ownBlock] at hk
  · simp [Value.ownBlock] at hk
    omega

/-- What TrisOf keeps in memory: the sheet, the triangles so far. -/
def TI (w wx : World) (W H b off cap : Nat) (zs : List Int) (c v : Value) (L : List (Int × Int × Int)) : Prop :=
  wx.ownsRow (w.heap.size + 1) 43 3 v L.length (flatV L) ∧ Sh wx w.heap.size (.int .i64 (W : Int)) (.int .i64 (H : Int)) (.slice (some ⟨b, off, none⟩) zs.length cap) c ∧ Below w.heap.size w wx ∧ w.heap.size + 1 ≤ wx.heap.size
theorem inf23 : (Tryz.prog.info? 43).map (fun i => (i.zero, i.size, i.bytes)) = some (some (.agg #[.int .i64 0, .int .i64 0, .int .i64 0]), 3, 24) := by kernel_rfl
theorem TI.kept {w wr wx : World} {W H b off cap : Nat} {zs : List Int} {c v : Value} {L : List (Int × Int × Int)} (h : TI w wr W H b off cap zs c v L) (hb : Below wr.heap.size wr wx) : TI w wx W H b off cap zs c v L :=
  ⟨own_below h.1 hb, h.2.1.kept hb, bl_via h.2.2.1 hb, Nat.le_trans h.2.2.2 hb.size⟩

set_option maxRecDepth 100000 in
set_option maxHeartbeats 3200000 in
theorem trisOf_any (W H b off cap : Nat) (zs : List Int) (c : Value) (w : World) (hr : Row w (some ⟨b, off, none⟩) zs) (hW : 1 ≤ W ∧ W ≤ 8) (hH : 1 ≤ H ∧ H ≤ 8) (hl : zs.length = W * H) (hm : maskB zs = true) :
    Calls Tryz.prog 30 #[.agg #[.int .i64 (W : Int), .int .i64 (H : Int), .slice (some ⟨b, off, none⟩) zs.length cap, c]] w fun e w' => ∃ v, e = .returned v ∧ w'.ownsRow (w.heap.size + 1) 43 3 v (ty zs W H).length (flatV (ty zs W H)) ∧ Below w.heap.size w w' := by
  have HR : Hid (Row w (some ⟨b, off, none⟩) zs) := hr
  have h64 : zs.length ≤ 64 := by rw [hl]; exact Nat.le_trans (Nat.mul_le_mul hW.2 hH.2) (by decide)
  have HM : Hid (∀ z ∈ zs, 0 ≤ z ∧ z ≤ 15) := by
    show ∀ z ∈ zs, 0 ≤ z ∧ z ≤ 15
    simpa [maskB] using hm
  have HL : Hid (zs.length = W * H) := hl
  obtain ⟨i0, hi, hz0, hz1, hz2⟩ := info_parts inf23
  have HI : Hid (Tryz.prog.info? 43 = some i0 ∧ i0.zero = some (.agg #[.int .i64 0, .int .i64 0, .int .i64 0]) ∧ i0.size = 3 ∧ i0.bytes = 24) := ⟨hi, hz0, hz1, hz2⟩
  clear hr hm hl hi hz0 hz1 hz2
  obtain ⟨w1, w8⟩ := hW
  obtain ⟨h1, h8⟩ := hH
  go_enter Tryz.func30, Tryz.ntmps30
  go_wp2
  go_loopg [3, 4] H (fun g s3 s4 wx => ∃ y : Nat, y ≤ H ∧ g = H - y ∧ s4 = .int .i64 (y : Int) ∧ TI w wx W H b off cap zs c (s3) (ty zs W y))
  case atStart => exact ⟨0, by omega, rfl, rfl, by simpa [ty, flatV] using World.ownsRow_nil _ _ _ _, by simp [Sh, go_sem], bl_alloc (bl_refl _), by simp⟩
  case round =>
    obtain ⟨y, hy, rfl, rfl, hT⟩ := hrel
    obtain ⟨va, hva⟩ : ∃ u, u = u3 := ⟨_, rfl⟩
    subst hva
    have HT : Hid (TI w wr W H b off cap zs c (va) (ty zs W y)) := hT
    clear hT
    obtain ⟨p0, p1, p2, p3⟩ := HT.out.2.1
    by_cases hy1 : y < H
    · have iy : (y : Int) < (H : Int) := by omega
      go_wp2
      go_loopg [3, 5] W (fun g s3 s5 wx => ∃ x : Nat, x ≤ W ∧ g = W - x ∧ s5 = .int .i64 (x : Int) ∧ TI w wx W H b off cap zs c (s3) (ty zs W y ++ tx zs W y x))
      case atStart => exact ⟨0, by omega, rfl, rfl, by rw [tx_zero, List.append_nil]; exact HT.out⟩
      case round =>
        clear HT p0 p1 p2 p3
        obtain ⟨x, hx, rfl, rfl, hT⟩ := hrel
        obtain ⟨vb, hvb⟩ : ∃ u, u = u3 := ⟨_, rfl⟩
        subst hvb
        have HT : Hid (TI w wr W H b off cap zs c (vb) (ty zs W y ++ tx zs W y x)) := hT
        clear hT
        obtain ⟨p0, p1, p2, p3⟩ := HT.out.2.1
        by_cases hx1 : x < W
        · have ix : (x : Int) < (W : Int) := by omega
          go_wp2
          go_loopg [3, 6] 4 (fun g s3 s6 wx => ∃ k : Nat, k ≤ 4 ∧ g = 4 - k ∧ s6 = .int .i64 (k : Int) ∧ TI w wx W H b off cap zs c (s3) (ty zs W y ++ tx zs W y x ++ tk zs W x y k))
          case atStart => exact ⟨0, by omega, rfl, rfl, by rw [tk_zero, List.append_nil]; exact HT.out⟩
          case round =>
            clear HT p0 p1 p2 p3
            obtain ⟨k, hk, rfl, rfl, hT⟩ := hrel
            obtain ⟨vc, hvc⟩ : ∃ u, u = u3 := ⟨_, rfl⟩
            subst hvc
            have HT : Hid (TI w wr W H b off cap zs c (vc) (ty zs W y ++ tx zs W y x ++ tk zs W x y k)) := hT
            clear hT
            obtain ⟨p0, p1, p2, p3⟩ := HT.out.2.1
            by_cases hk1 : k < 4
            · have ik : (k : Int) < 4 := by omega
              have hyw : y * W + W ≤ W * H := by
                have := Nat.mul_le_mul_right W (show y + 1 ≤ H by omega)
                rw [Nat.succ_mul, Nat.mul_comm H W] at this
                exact this
              have hm : y * W + x < zs.length := by rw [HL.out]; omega
              have hyw2 : y * W ≤ 64 := by have := HL.out; omega
              obtain ⟨b', off', e', hc⟩ := (HR.out.kept HT.out.2.2.1) (y * W + x) hm
              simp at e'
              obtain ⟨rfl, rfl⟩ := e'
              have hzb := HM.out _ (List.getElem_mem hm)
              have hbt : bitAt zs W x y k = bitB (zs[y * W + x]) k := by simp [bitAt, hm]
              obtain ⟨z, hz⟩ : ∃ z, z = zs[y * W + x] := ⟨_, rfl⟩
              rw [← hz] at hc hzb hbt
              have zz0 : w.heap.size < wr.heap.size := World.block_lt_of_cell? _ _ p0
              have zz1 : w.heap.size < wr.heap.size + 1 := by omega
              have HC : Hid (∀ W' : World, Below wr.heap.size wr W' → Calls Tryz.prog 63 #[.agg #[.int .i64 (W : Int), .int .i64 (H : Int), .slice (some ⟨b, off, none⟩) zs.length cap, c], .agg #[.int .i64 (x : Int), .int .i64 (y : Int), .int .i64 (k : Int)]] W' fun e w' => e = .returned (.bool (bitB z k)) ∧ Below W'.heap.size W' w') := fun W' hW' =>
                hasTri_in W H x y k z b off (y * W + x) cap zs c W' (by omega) (by omega) (by omega) (by omega) (by omega) (by simp) hm h64 (by constructor <;> (rw [← Int.natCast_mul]; omega)) (cl_kept hW' hc) hzb
              have HBT : Hid (bitAt zs W x y k = bitB z k) := hbt
              clear hc hzb hbt hz hm hyw hyw2
              cases hbit : bitB z k
              · go_wp2_with (go_at_call 63; refine (HC.out _ (by with_reducible exact bl_alloc (bl_refl _))).mono ?_; rintro e w2 ⟨rfl, hb⟩; have HT2 : Hid (TI w w2 W H b off cap zs c (vc) (ty zs W y ++ tx zs W y x ++ tk zs W x y k)) := HT.out.kept (bl_via (bl_alloc (bl_refl _)) hb); clear hb)
                go_roundg (4 - (k + 1))
                case measure => omega
                case rel => exact ⟨k + 1, by omega, rfl, by go_num, by rw [tk_no (HBT.out.trans hbit)]; exact HT2.out⟩
              · have hlen : (ty zs W y ++ tx zs W y x ++ tk zs W x y k).length + 1 ≤ 1000 := by
                  have q1 := ty_len zs W y w8
                  have q2 := tx_len zs W y x
                  have q3 := tk_len zs W x y k
                  simp only [List.length_append]
                  omega
                go_wp2_with (first
                  | (go_at_call 63; refine (HC.out _ (by with_reducible exact bl_alloc (bl_refl _))).mono ?_; rintro e w2 ⟨rfl, hb⟩; have HT2 : Hid (TI w w2 W H b off cap zs c (vc) (ty zs W y ++ tx zs W y x ++ tk zs W x y k)) := HT.out.kept (bl_via (bl_alloc (bl_refl _)) hb); have n0 : w2.cell? ⟨wr.heap.size, 0, none⟩ = some (.int .i64 (x : Int)) := cl_kept hb (by simp [go_sem]); have n1 : w2.cell? ⟨wr.heap.size, 1, none⟩ = some (.int .i64 (y : Int)) := cl_kept hb (by simp [go_sem]); have n2 : w2.cell? ⟨wr.heap.size, 2, none⟩ = some (.int .i64 (k : Int)) := cl_kept hb (by simp [go_sem]); have zn : wr.heap.size < w2.heap.size := World.block_lt_of_cell? _ _ n0; clear hb)
                  | (at_builtin; refine wpList_append_own _ rfl (.tmp 31) (.tmp 33) 44 rfl (w.heap.size + 1) 43 i0 (.agg #[.int .i64 0, .int .i64 0, .int .i64 0]) 3 24 Tryz.underlying44 HI.out.1 HI.out.2.1 HI.out.2.2.1 HI.out.2.2.2 rfl (by decide) vc (ty zs W y ++ tx zs W y x ++ tk zs W x y k).length (flatV (ty zs W y ++ tx zs W y x ++ tk zs W x y k)) rfl ?own ⟨w2.heap.size, 0, none⟩ 1 1 [.int .i64 (x : Int), .int .i64 (y : Int), .int .i64 (k : Int)] rfl rfl ?c1 ?c2 ?b1 ?b2 ?b3 ?grow))
                case own => exact own_below HT2.out.1 (bl_alloc (bl_refl _))
                case c1 => exact cell_three_new _ _ _ _
                case c2 =>
                  intro u hu
                  simp at hu
                  rcases hu with rfl | rfl | rfl <;> rfl
                case b1 =>
                  unfold maxLen
                  omega
                case b2 => omega
                case b3 =>
                  have := HT2.out.2.2.2
                  simp
                  omega
                case grow =>
                 intro v' w3 hown hgrow hnil
                 have hgb := Below.grown (Below.refl (w.heap.size + 1) _) hgrow (by have := HT2.out.2.2.2; simp; omega) (own_base HT2.out.1)
                 have ho : w3.ownsRow (w.heap.size + 1) 43 3 v' ((ty zs W y ++ tx zs W y x ++ tk zs W x y k).length + 1) (flatV (ty zs W y ++ tx zs W y x ++ tk zs W x y k) ++ [.int .i64 (x : Int), .int .i64 (y : Int), .int .i64 (k : Int)]) := by simpa [List.length_append, List.append_assoc, Nat.add_assoc] using hown
                 have HO : Hid (w3.ownsRow (w.heap.size + 1) 43 3 v' ((ty zs W y ++ tx zs W y x ++ tk zs W x y k).length + 1) (flatV (ty zs W y ++ tx zs W y x ++ tk zs W x y k) ++ [.int .i64 (x : Int), .int .i64 (y : Int), .int .i64 (k : Int)])) := ho
                 clear ho
                 have HG : Hid (Below (w.heap.size + 1) (w2.alloc (.cells #[.int .i64 (x : Int), .int .i64 (y : Int), .int .i64 (k : Int)] 43)) w3) := hgb
                 clear hown hgrow hnil hgb
                 go_wp2
                 go_roundg (4 - (k + 1))
                 case measure => omega
                 case rel =>
                   have hS : Sh (w2.alloc (.cells #[.int .i64 (x : Int), .int .i64 (y : Int), .int .i64 (k : Int)] 43)) w.heap.size (.int .i64 (W : Int)) (.int .i64 (H : Int)) (.slice (some ⟨b, off, none⟩) zs.length cap) c := HT2.out.2.1.kept (bl_alloc (bl_refl _))
                   have hB : Below w.heap.size w (w2.alloc (.cells #[.int .i64 (x : Int), .int .i64 (y : Int), .int .i64 (k : Int)] 43)) := bl_alloc HT2.out.2.2.1
                   have hE : ty zs W y ++ tx zs W y x ++ tk zs W x y (k + 1) = (ty zs W y ++ tx zs W y x ++ tk zs W x y k) ++ [((x : Int), (y : Int), (k : Int))] := by rw [tk_yes (HBT.out.trans hbit), ← List.append_assoc]
                   refine ⟨k + 1, by omega, rfl, by go_num, ?_, ⟨?_, ?_, ?_, ?_⟩, hB.trans (HG.out.mono (by omega)), ?_⟩
                   · rw [hE, flatV_add, List.length_append]
                     exact HO.out
                   · exact (HG.out.cell (p := ⟨w.heap.size, 0, none⟩) (by dsimp only; omega)).trans hS.1
                   · exact (HG.out.cell (p := ⟨w.heap.size, 1, none⟩) (by dsimp only; omega)).trans hS.2.1
                   · exact (HG.out.cell (p := ⟨w.heap.size, 2, none⟩) (by dsimp only; omega)).trans hS.2.2.1
                   · exact (HG.out.cell (p := ⟨w.heap.size, 3, none⟩) (by dsimp only; omega)).trans hS.2.2.2
                   · have q := HG.out.size
                     have q2 := HT2.out.2.2.2
                     simp at q
                     omega
            · go_wp2
              go_roundg (W - (x + 1))
              case measure => omega
              case rel =>
                obtain rfl : k = 4 := by omega
                exact ⟨x + 1, by omega, rfl, by go_num, by rw [tx_succ, ← List.append_assoc]; exact HT.out⟩
        · have ix : ¬ (x : Int) < (W : Int) := by omega
          go_wp2
          go_roundg (H - (y + 1))
          case measure => omega
          case rel =>
            obtain rfl : x = W := by omega
            exact ⟨y + 1, by omega, rfl, by go_num, by rw [ty_succ]; exact HT.out⟩
    · have iy : ¬ (y : Int) < (H : Int) := by omega
      obtain rfl : y = H := by omega
      go_wp2
      go_ret
      exact ⟨va, rfl, HT.out.1, HT.out.2.2.1⟩

theorem mul_one_any (n : Nat) (h : n ≤ 1000000) (w : World) : Calls Tryz.prog 97 #[.int .u64 1, .int .u64 (n : Int)] w fun e w' => e = .returned (.tuple #[.int .u64 0, .int .u64 (n : Int)]) ∧ w' = w := by
  have := Tryz.bits_Mul 1 n (by omega) (by omega) w
  have e1 : 1 * n / 18446744073709551616 = 0 := by omega
  have e2 : 1 * n % 18446744073709551616 = n := by omega
  rw [e1, e2] at this
  exact this

/-- A row whose first m cells hold a number, the others nought. -/
def rp (z : Int) (m n : Nat) : List Value := List.replicate m (.int .i64 z) ++ List.replicate (n - m) (.int .i64 0)
theorem rp_len (z : Int) {m n : Nat} (h : m ≤ n) : (rp z m n).length = n := by simp [rp]; omega
theorem rp_splice (z : Int) {m c n : Nat} (_h : m + c ≤ n) : splice (rp z m n) m (List.replicate c (.int .i64 z)) = rp z (m + c) n := by
  unfold splice rp
  have e1 : List.take m (List.replicate m (Value.int .i64 z) ++ List.replicate (n - m) (Value.int .i64 0)) = List.replicate m (Value.int .i64 z) := by
    rw [List.take_append_of_le_length (by simp)]
    simp
  have e2 : List.drop (m + (List.replicate c (Value.int .i64 z)).length) (List.replicate m (Value.int .i64 z) ++ List.replicate (n - m) (Value.int .i64 0)) = List.replicate (n - (m + c)) (Value.int .i64 0) := by
    rw [List.drop_append, List.drop_eq_nil_of_le (by simp), List.nil_append, List.drop_replicate]
    congr 1
    simp
    omega
  rw [e1, e2, ← List.append_assoc, List.replicate_append_replicate]
theorem rp_cell {w : World} {g n : Nat} {z : Int} {m : Nat} (h : w.heap[g]? = some (.cells (rp z m n).toArray 3 (0, 0))) {c : Nat} (hc : c ≤ m) : ∀ j v, (List.replicate c (Value.int .i64 z))[j]? = some v → w.cell? ((⟨g, 0, none⟩ : Addr).add j) = some v := by
  intro j v hv
  have hj : j < c := by
    rcases Nat.lt_or_ge j c with hj | hj
    · exact hj
    · rw [List.getElem?_eq_none (by simpa using hj)] at hv
      cases hv
  have hv' : v = .int .i64 z := by
    rw [List.getElem?_eq_getElem (by simpa using hj)] at hv
    simpa using hv.symm
  subst hv'
  have ha : (⟨g, 0, none⟩ : Addr).add j = ⟨g, j, none⟩ := by unfold Addr.add; split <;> simp_all
  rw [ha]
  simp [World.cell?, h, rp]
  rw [List.getElem?_append_left (by simp; omega)]
  rw [List.getElem?_replicate, if_pos (by omega)]
theorem rep_one (c : Nat) (z : Int) : ∀ v ∈ List.replicate c (Value.int .i64 z), v.oneCell' = true := by
  intro v hv
  rw [List.eq_of_mem_replicate hv]
  rfl

theorem made_row {w : World} {base g n : Nat} (ho : w.ownsRow base 3 1 (.slice (some ⟨g, 0, none⟩) n n) n (madeCells #[Value.int .i64 0] n).toList) : w.heap[g]? = some (.cells (List.replicate n (Value.int .i64 0)).toArray 3 (0, 0)) := by
  rcases ho.2 with ⟨e, _⟩ | ⟨g', cap, cur, e, h2, h3, h4, h5, h6, h7⟩
  · cases e
  · simp only [Value.slice.injEq, Option.some.injEq, Addr.mk.injEq, and_true, true_and] at e
    obtain ⟨rfl, rfl⟩ := e
    have h8 : cur.toList = List.replicate n (Value.int .i64 0) := by
      rw [Nat.mul_one, List.take_of_length_le (by rw [Array.length_toList]; omega)] at h7
      rw [h7]
      apply List.ext_getElem
      · simp [madeCells]
      · intro i h1 h2
        simp [madeCells, Nat.mod_one]
    rw [h3, ← h8]

set_option maxRecDepth 100000 in
set_option maxHeartbeats 3200000 in
theorem repeat_any (z : Int) (sb n : Nat) (w : World) (hn : n ≤ 1000000) (hc : w.cell? ⟨sb, 0, none⟩ = some (.int .i64 z)) :
    Calls Tryz.prog 50 #[.slice (some ⟨sb, 0, none⟩) 1 1, .int .i64 (n : Int)] w fun e w' => e = .returned (.slice (some ⟨w.heap.size, 0, none⟩) n n) ∧ w'.heap[w.heap.size]? = some (.cells (rp z n n).toArray 3 (0, 0)) ∧ Below w.heap.size w w' := by
  obtain ⟨i3, hi3, hz0, hz1, hz2⟩ := info_parts inf3
  have HI3 : Hid (Tryz.prog.info? 3 = some i3 ∧ i3.zero = some (.int .i64 0) ∧ i3.size = 1 ∧ i3.bytes = 8) := ⟨hi3, hz0, hz1, hz2⟩
  have hsz : (Tryz.prog.info? 3).map (fun i => i.size) = some 1 := by rw [hi3]; simp [hz1]
  have HSZ : Hid ((Tryz.prog.info? 3).map (fun i => i.size) = some 1) := hsz
  clear hi3 hz0 hz1 hz2 hsz
  have n0 : (0 : Int) ≤ (n : Int) := by omega
  have n1 : (n : Int) ≤ 1000000 := by omega
  go_enter Tryz.func50, Tryz.ntmps50
  go_wp2_with (first
    | (go_at_call 97; refine (mul_one_any n hn _).mono ?_; rintro e w' ⟨rfl, hw⟩; have hw2 := hw.symm; clear hw; subst hw2)
    | (at_make; refine wpList_make_full _ rfl (.tmp 29) (.tmp 29) 22 rfl w.heap.size 3 i3 (.int .i64 0) 1 Tryz.underlying22 HI3.out.1 HI3.out.2.1 HI3.out.2.2.1 .i64 .i64 _ _ n rfl rfl rfl rfl ?b2 ?b3 ?b4 ?mk))
  case b2 =>
    rw [HI3.out.2.2.2]
    omega
  case b3 =>
    unfold maxLen
    omega
  case b4 => exact Nat.le_refl _
  case mk =>
    intro w2 ho hg
    have hbel : Below w.heap.size w w2 := (Below.refl _ _).grown hg (Nat.le_refl _) (fun k h => by cases h)
    have hrow : w2.heap[w.heap.size]? = some (.cells (rp z 0 n).toArray 3 (0, 0)) := by simpa [rp] using made_row ho
    clear ho hg
    have HB : Hid (Below w.heap.size w w2 ∧ w2.heap[w.heap.size]? = some (.cells (rp z 0 n).toArray 3 (0, 0))) := ⟨hbel, hrow⟩
    have hc2 : w2.cell? ⟨sb, 0, none⟩ = some (.int .i64 z) := cl_kept hbel hc
    have HC2 : Hid (w2.cell? ⟨sb, 0, none⟩ = some (.int .i64 z)) := hc2
    clear hbel hrow hc hc2
    obtain ⟨c, hcc⟩ : ∃ c, c = Nat.min 1 n := ⟨_, rfl⟩
    have hc1 : c ≤ 1 := by rw [hcc]; exact Nat.min_le_left _ _
    have hcn : c ≤ n := by rw [hcc]; exact Nat.min_le_right _ _
    have hcp : n = 0 ∨ c = 1 := by
      rcases Nat.eq_zero_or_pos n with h | h
      · exact Or.inl h
      · exact Or.inr (by rw [hcc]; exact Nat.min_eq_left h)
    have HPO : Hid (0 < (List.replicate c (Value.int .i64 z)).length → (some (⟨w.heap.size, 0, none⟩ : Addr)) = some ⟨w.heap.size, 0, none⟩ ∧ ∃ ad, (some (⟨sb, 0, none⟩ : Addr)) = some ad ∧ ∀ j v, (List.replicate c (Value.int .i64 z))[j]? = some v → w2.cell? (ad.add j) = some v) := fun _ => ⟨rfl, _, rfl, fun j v hv => by
      have hj : j < c := by
        rcases Nat.lt_or_ge j c with hj | hj
        · exact hj
        · rw [List.getElem?_eq_none (by simpa using hj)] at hv
          cases hv
      obtain rfl : j = 0 := by omega
      rw [List.getElem?_replicate, if_pos hj] at hv
      rw [← hv]
      simpa [Addr.add] using HC2.out⟩
    go_wp2_with (refine wpList_copy_splice (by rfl) (.tmp 31) (.tmp 32) 22 22 (by rfl) 3 Tryz.underlying22 HSZ.out (some ⟨w.heap.size, 0, none⟩) (some ⟨sb, 0, none⟩) n n 1 1 (by rfl) (by rfl) w.heap.size 0 (rp z 0 n) 3 HB.out.2 (List.replicate c (.int .i64 z)) (by rw [List.length_replicate]; exact hcc) HPO.out (by rw [List.length_replicate, rp_len z (Nat.zero_le n)]; omega) (rep_one c z) w.heap.size w HB.out.1 (Nat.le_refl _) ?_; intro w3 HG3 hb3)
    have HG : Hid (w3.heap[w.heap.size]? = some (.cells (rp z c n).toArray 3 (0, 0)) ∧ Below w.heap.size w w3) := by
      have := HG3.out
      rw [rp_splice z (by omega), Nat.zero_add] at this
      exact ⟨this, hb3⟩
    have HCC : Hid (c = Nat.min 1 n) := hcc
    clear HG3 hb3 HB HC2 hcc
    go_loopg [8] n (fun gk s8 wx => ∃ m : Nat, m ≤ n ∧ n - m ≤ gk ∧ s8 = .int .i64 (m : Int) ∧ (n = 0 ∨ 1 ≤ m) ∧ wx.heap[w.heap.size]? = some (.cells (rp z m n).toArray 3 (0, 0)) ∧ Below w.heap.size w wx)
    case atStart => exact ⟨c, hcn, by omega, by rw [HCC.out], hcp.imp id (fun h => by omega), HG.out⟩
    case round =>
      clear hcn hcp hc1 HG
      obtain ⟨m, hm, hgk, rfl, hm1, hr, hB⟩ := hrel
      have HR : Hid (wr.heap[w.heap.size]? = some (.cells (rp z m n).toArray 3 (0, 0)) ∧ Below w.heap.size w wr) := ⟨hr, hB⟩
      clear hr hB
      by_cases h1 : m < n
      · have i1 : (m : Int) < (n : Int) := by omega
        have i0 : (0 : Int) ≤ (m : Int) := by omega
        have i2 : (m : Int) ≤ (n : Int) := by omega
        obtain ⟨k, hk⟩ : ∃ k, k = Nat.min m (n - m) := ⟨_, rfl⟩
        have hk1 : k ≤ m := by rw [hk]; exact Nat.min_le_left _ _
        have hk2 : k ≤ n - m := by rw [hk]; exact Nat.min_le_right _ _
        have hk3 : 1 ≤ k := by rw [hk]; exact Nat.le_min.2 ⟨by omega, by omega⟩
        have hnm : ¬ n = m := by omega
        have HK : Hid (k = Nat.min m (n - m)) := hk
        clear hk
        go_wp2
        go_region_held3 (fun _ => True) (trivial) (((refine step_copy_splice (by rfl) (.tmp 41) (.tmp 44) 22 22 (by rfl) 3 Tryz.underlying22 HSZ.out (some ⟨w.heap.size, m, none⟩) (some ⟨w.heap.size, 0, none⟩) (n - m) (n - m) m n (by rfl) (by rfl) w.heap.size m (rp z m n) 3 HR.out.1 (List.replicate k (.int .i64 z)) (by rw [List.length_replicate]; exact HK.out) (fun _ => ⟨rfl, _, rfl, rp_cell HR.out.1 hk1⟩) (by rw [List.length_replicate, rp_len z hm]; omega) (rep_one k z) w.heap.size w (bl_drew HR.out.2) (Nat.le_refl _) ?_; intro w3 HG3 hb3)))
        all_goals
          go_wp2
          go_roundg (n - (m + k))
          case measure => omega
          case rel =>
            refine ⟨m + k, by omega, by omega, (congrArg _ (by first | omega | (rw [IntKind.wrap_i64]; omega))), Or.inr (by omega), ?_, hb3⟩
            have := HG3.out
            rw [rp_splice z (by omega)] at this
            exact this
      · have i1 : ¬ (m : Int) < (n : Int) := by omega
        obtain rfl : m = n := by omega
        go_wp2
        go_ret
        exact ⟨rfl, HR.out⟩
end Go.Proofs.YtmjhfdohcghhoaaGreatDoor
