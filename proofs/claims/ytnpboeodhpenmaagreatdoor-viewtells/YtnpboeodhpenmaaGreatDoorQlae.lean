/- A part of the proof of viewTells_holds. -/
import Derived.Test.YtnpboeodhpenmaaGreatDoorQlad
import Derived.Laws.AppendOwn
import Derived.Shelf.Bits.Mul64
import Derived.Test.YtnpboeodhpenmaaGreatDoorProg
import Derived.Shelf.Slices.Turned
import Derived.Test.YtnpboeodhpenmaaGreatDoorRows
import Derived.ProofKit
import Derived.MakeChecks
import Derived.ChangeArms
import Derived.FnData
import Derived.OpenShut
import Derived.Shelf.Strings.OnBuilder
namespace Go.Proofs.YtnpboeodhpenmaaGreatDoor
open Go.RowKit

theorem inf3 : (Tryz.prog.info? 3).map (fun i => (i.zero, i.size, i.bytes)) = some (some (.int .i64 0), 1, 8) := by kernel_rfl
theorem inf109 : (Tryz.prog.info? 80).map (fun i => (i.zero, i.size, i.bytes)) = some (some (.agg #[.int .i64 0, .int .i64 0, .int .i64 0, .int .i64 0, .int .i64 0]), 5, 40) := by kernel_rfl

/-- The four cells of a sheet. -/
def Sh (w : World) (g : Nat) (v0 v1 v2 v3 : Value) : Prop :=
  w.cell? ⟨g, 0, none⟩ = some v0 ∧ w.cell? ⟨g, 1, none⟩ = some v1 ∧ w.cell? ⟨g, 2, none⟩ = some v2 ∧ w.cell? ⟨g, 3, none⟩ = some v3
theorem Sh.kept {w wx : World} {g : Nat} {v0 v1 v2 v3 : Value} (h : Sh w g v0 v1 v2 v3) (hb : Below w.heap.size w wx) : Sh wx g v0 v1 v2 v3 :=
  ⟨cl_kept hb h.1, cl_kept hb h.2.1, cl_kept hb h.2.2.1, cl_kept hb h.2.2.2⟩
theorem row_at {w : World} {a : Option Addr} {zs : List Int} (h : Row w a zs) (hne : 0 < zs.length) : ∃ b off, a = some ⟨b, off, none⟩ ∧ ∀ j u, (zs.map (fun z => Value.int .i64 z))[j]? = some u → w.cell? ((⟨b, off, none⟩ : Addr).add j) = some u := by
  obtain ⟨b, off, rfl, _⟩ := h 0 hne
  refine ⟨b, off, rfl, fun j u hu => ?_⟩
  have hj : j < zs.length := by
    have := List.getElem?_eq_some_iff.1 hu
    simpa using this.1
  obtain ⟨b', off', e, hc⟩ := h j hj
  simp at e
  obtain ⟨rfl, rfl⟩ := e
  have hadd : (⟨b, off, none⟩ : Addr).add j = ⟨b, off + j, none⟩ := by unfold Addr.add; split <;> simp_all
  rw [hadd, hc]
  simp [hj] at hu
  rw [hu]

/-- Numbers in a row of memory that lies at a block or above. -/
def RowF (w : World) (base : Nat) (a : Option Addr) (zs : List Int) : Prop :=
  ∀ i (h : i < zs.length), ∃ b off, a = some ⟨b, off, none⟩ ∧ base ≤ b ∧ w.cell? ⟨b, off + i, none⟩ = some (.int .i64 zs[i])
theorem RowF.kept {w wx : World} {base : Nat} {a : Option Addr} {zs : List Int} (h : RowF w base a zs) (hb : Below w.heap.size w wx) : RowF wx base a zs := fun i hi => by
  obtain ⟨b, off, e, hl, hc⟩ := h i hi
  exact ⟨b, off, e, hl, cl_kept hb hc⟩
theorem set_far {w : World} {p a : Addr} {u v : Value} (h : w.cell? a = some v) (hne : a.block ≠ p.block) : (w.setCell p u).cell? a = some v := by
  have := World.cell?_of_block (w := w) (w' := w.setCell p u) (a := a) (Below.heap_setCell w p u a.block hne)
  exact this.trans h
theorem RowF.set {w : World} {base : Nat} {a : Option Addr} {zs : List Int} (h : RowF w base a zs) {p : Addr} {u : Value} (hp : p.block < base) : RowF (w.setCell p u) base a zs := fun i hi => by
  obtain ⟨b, off, e, hl, hc⟩ := h i hi
  exact ⟨b, off, e, hl, set_far hc (by dsimp only; omega)⟩
theorem RowF.low {w : World} {base base' : Nat} {a : Option Addr} {zs : List Int} (h : RowF w base a zs) (hl : base' ≤ base) : RowF w base' a zs := fun i hi => by
  obtain ⟨b, off, e, hb, hc⟩ := h i hi
  exact ⟨b, off, e, by omega, hc⟩

theorem own_row {w : World} {base : Nat} {e : TypeId} {size : Nat} {v : Value} {n : Nat} {zs : List Int} (h : w.ownsRow base e size v n (zs.map (fun z => Value.int .i64 z))) (hn : 0 < n) :
    ∃ g cap, v = .slice (some ⟨g, 0, none⟩) n cap ∧ base ≤ g ∧ RowF w base (some ⟨g, 0, none⟩) zs := by
  have hlen := h.1
  rcases h.2 with ⟨_, h0⟩ | ⟨g, cap, cur, hv, hb, _⟩
  · omega
  · subst hv
    refine ⟨g, cap, rfl, hb, fun i hi => ⟨g, 0, rfl, hb, ?_⟩⟩
    have := h.cellAt i (by simp at hlen; omega)
    simp [hi] at this
    simpa using this

theorem row_nil (w : World) (base : Nat) (a : Option Addr) : RowF w base a [] := fun i hi => by simp at hi

set_option maxHeartbeats 3200000 in
theorem sheetOf_form (W H : Int) (a b : Option Addr) (ca cb n : Nat) (zs ks : List Int) (w : World) (hz : Row w a zs) (hk : Row w b ks) (hn : ks.length = n * 5) (h1 : zs.length ≤ 17592186044416) (h2 : n ≤ 3518437208883) :
    Calls Tryz.prog 37 #[.agg #[.int .i64 W, .int .i64 H, .slice a zs.length ca, .slice b n cb]] w fun e w' => ∃ a' ca' b' cb', e = .returned (.agg #[.int .i64 W, .int .i64 H, .slice a' zs.length ca', .slice b' n cb']) ∧ RowF w' w.heap.size a' zs ∧ RowF w' w.heap.size b' ks ∧ Below w.heap.size w w' ∧ (b' = none ∨ ∃ p o, b' = some ⟨p, o, none⟩) := by
  have HZ : Hid (Row w a zs) := hz
  have HK : Hid (Row w b ks) := hk
  have HN : Hid (ks.length = n * 5) := hn
  obtain ⟨i3, hi3, hz0, hz1, hz2⟩ := info_parts inf3
  obtain ⟨i9, hi9, hy0, hy1, hy2⟩ := info_parts inf109
  have HI3 : Hid (Tryz.prog.info? 3 = some i3 ∧ i3.zero = some (.int .i64 0) ∧ i3.size = 1 ∧ i3.bytes = 8) := ⟨hi3, hz0, hz1, hz2⟩
  have HI9 : Hid (Tryz.prog.info? 80 = some i9 ∧ i9.zero = some (.agg #[.int .i64 0, .int .i64 0, .int .i64 0, .int .i64 0, .int .i64 0]) ∧ i9.size = 5 ∧ i9.bytes = 40) := ⟨hi9, hy0, hy1, hy2⟩
  clear hz hk hi3 hz0 hz1 hz2 hi9 hy0 hy1 hy2 hn
  have b0 : Below w.heap.size w ((w.alloc (.cells #[.int .i64 W, .int .i64 H, .slice a zs.length ca, .slice b n cb] 25)).alloc (.cells #[.int .i64 0, .int .i64 0, .slice none 0 0, .slice none 0 0] 25)) := bl_alloc (bl_alloc (bl_refl _))
  have HB0 : Hid (Below w.heap.size w ((w.alloc (.cells #[.int .i64 W, .int .i64 H, .slice a zs.length ca, .slice b n cb] 25)).alloc (.cells #[.int .i64 0, .int .i64 0, .slice none 0 0, .slice none 0 0] 25))) := b0
  clear b0
  go_enter Tryz.func37, Tryz.ntmps37
  go_upto_region 1 with fail
  go_cut [] (fun wx => ∃ a' ca', Sh wx w.heap.size (.int .i64 W) (.int .i64 H) (.slice a' zs.length ca') (.slice b n cb) ∧ Fr wx w.heap.size ∧ Sh wx (w.heap.size + 1) (.int .i64 0) (.int .i64 0) (.slice none 0 0) (.slice none 0 0) ∧ Fr wx (w.heap.size + 1) ∧ RowF wx (w.heap.size + 1 + 1) a' zs ∧ Below w.heap.size w wx)
  case first =>
    by_cases he : zs.length = 0
    · have hzz : zs = [] := List.eq_nil_of_length_eq_zero he
      subst hzz
      go_wp2_with (at_builtin; refine wpList_append_nothing _ rfl (.const (.slice none 0 0)) (.tmp 4) 22 rfl 3 i3 Tryz.underlying22 HI3.out.1 a ca rfl rfl ?_)
      go_meet
      case rel =>
        refine ⟨none, 0, ⟨?_, ?_, ?_, ?_⟩, ?_, ⟨?_, ?_, ?_, ?_⟩, ?_, row_nil _ _ _, ?_⟩
        · simp [go_sem]
        · simp [go_sem]
        · simp [go_sem]
        · simp [go_sem]
        · simp [Fr, go_sem]
        · simp [go_sem]
        · simp [go_sem]
        · simp [go_sem]
        · simp [go_sem]
        · simp [Fr, go_sem]
        · with_reducible repeat' (first | exact bl_refl _ | refine bl_set ?_ ?_ | refine bl_alloc ?_)
          all_goals (first | omega | (dsimp only; omega))
    · obtain ⟨ba, off, rfl, hc⟩ := row_at (HZ.out.kept HB0.out) (by omega)
      have HC : Hid (∀ j u, (zs.map (fun z => Value.int .i64 z))[j]? = some u → ((w.alloc (.cells #[.int .i64 W, .int .i64 H, .slice (some ⟨ba, off, none⟩) zs.length ca, .slice b n cb] 25)).alloc (.cells #[.int .i64 0, .int .i64 0, .slice none 0 0, .slice none 0 0] 25)).cell? ((⟨ba, off, none⟩ : Addr).add j) = some u) := hc
      clear hc
      go_wp2_with (at_builtin; refine wpList_append_grows _ rfl (.const (.slice none 0 0)) (.tmp 4) 22 rfl 3 i3 (.int .i64 0) 1 8 Tryz.underlying22 HI3.out.1 HI3.out.2.1 HI3.out.2.2.1 HI3.out.2.2.2 rfl (by decide) none 0 0 [] rfl (fun _ => ⟨rfl, rfl⟩) rfl (by intro _ h; simp at h) ⟨ba, off, none⟩ zs.length ca (zs.map (fun z => Value.int .i64 z)) rfl (by simp) (by intro j u hu; exact HC.out j u hu) (by intro u hu; obtain ⟨z, _, rfl⟩ := List.mem_map.1 hu; rfl) (by omega) (by unfold maxLen; omega) (by omega) ?grow)
      case grow =>
        intro v' w' hown hgrow
        have hbel : Below ((w.alloc (.cells #[.int .i64 W, .int .i64 H, .slice (some ⟨ba, off, none⟩) zs.length ca, .slice b n cb] 25)).alloc (.cells #[.int .i64 0, .int .i64 0, .slice none 0 0, .slice none 0 0] 25)).heap.size ((w.alloc (.cells #[.int .i64 W, .int .i64 H, .slice (some ⟨ba, off, none⟩) zs.length ca, .slice b n cb] 25)).alloc (.cells #[.int .i64 0, .int .i64 0, .slice none 0 0, .slice none 0 0] 25)) w' := (Below.refl _ _).grown hgrow (Nat.le_refl _) (fun k h => by cases h)
        obtain ⟨g, cap', rfl, hg, hrow⟩ := own_row (by simpa using hown) (by omega)
        have HR : Hid (RowF w' (w.heap.size + 1 + 1) (some ⟨g, 0, none⟩) zs) := hrow.low (by simp)
        have HB : Hid (Below w.heap.size w w') := bl_via HB0.out hbel
        have s0 : w'.cell? ⟨w.heap.size, 0, none⟩ = some (.int .i64 W) := cl_kept hbel (by simp [go_sem])
        have s1 : w'.cell? ⟨w.heap.size, 1, none⟩ = some (.int .i64 H) := cl_kept hbel (by simp [go_sem])
        have s2 : w'.cell? ⟨w.heap.size, 2, none⟩ = some (.slice (some ⟨ba, off, none⟩) zs.length ca) := cl_kept hbel (by simp [go_sem])
        have s3 : w'.cell? ⟨w.heap.size, 3, none⟩ = some (.slice b n cb) := cl_kept hbel (by simp [go_sem])
        have sf0 : w'.frozen? ⟨w.heap.size, 0, none⟩ = false := (hbel.frozen (p := ⟨w.heap.size, 0, none⟩) (by simp <;> omega)).trans (by simp [go_sem])
        have sf1 : w'.frozen? ⟨w.heap.size, 1, none⟩ = false := (hbel.frozen (p := ⟨w.heap.size, 1, none⟩) (by simp <;> omega)).trans (by simp [go_sem])
        have sf2 : w'.frozen? ⟨w.heap.size, 2, none⟩ = false := (hbel.frozen (p := ⟨w.heap.size, 2, none⟩) (by simp <;> omega)).trans (by simp [go_sem])
        have sf3 : w'.frozen? ⟨w.heap.size, 3, none⟩ = false := (hbel.frozen (p := ⟨w.heap.size, 3, none⟩) (by simp <;> omega)).trans (by simp [go_sem])
        have sf4 : w'.frozen? ⟨w.heap.size, 4, none⟩ = false := (hbel.frozen (p := ⟨w.heap.size, 4, none⟩) (by simp <;> omega)).trans (by simp [go_sem])
        have sf5 : w'.frozen? ⟨w.heap.size, 5, none⟩ = false := (hbel.frozen (p := ⟨w.heap.size, 5, none⟩) (by simp <;> omega)).trans (by simp [go_sem])
        have r0 : w'.cell? ⟨w.heap.size + 1, 0, none⟩ = some (.int .i64 0) := cl_kept hbel (by simp [go_sem])
        have r1 : w'.cell? ⟨w.heap.size + 1, 1, none⟩ = some (.int .i64 0) := cl_kept hbel (by simp [go_sem])
        have r2 : w'.cell? ⟨w.heap.size + 1, 2, none⟩ = some (.slice none 0 0) := cl_kept hbel (by simp [go_sem])
        have r3 : w'.cell? ⟨w.heap.size + 1, 3, none⟩ = some (.slice none 0 0) := cl_kept hbel (by simp [go_sem])
        have rf0 : w'.frozen? ⟨w.heap.size + 1, 0, none⟩ = false := (hbel.frozen (p := ⟨w.heap.size + 1, 0, none⟩) (by simp <;> omega)).trans (by simp [go_sem])
        have rf1 : w'.frozen? ⟨w.heap.size + 1, 1, none⟩ = false := (hbel.frozen (p := ⟨w.heap.size + 1, 1, none⟩) (by simp <;> omega)).trans (by simp [go_sem])
        have rf2 : w'.frozen? ⟨w.heap.size + 1, 2, none⟩ = false := (hbel.frozen (p := ⟨w.heap.size + 1, 2, none⟩) (by simp <;> omega)).trans (by simp [go_sem])
        have rf3 : w'.frozen? ⟨w.heap.size + 1, 3, none⟩ = false := (hbel.frozen (p := ⟨w.heap.size + 1, 3, none⟩) (by simp <;> omega)).trans (by simp [go_sem])
        have rf4 : w'.frozen? ⟨w.heap.size + 1, 4, none⟩ = false := (hbel.frozen (p := ⟨w.heap.size + 1, 4, none⟩) (by simp <;> omega)).trans (by simp [go_sem])
        have rf5 : w'.frozen? ⟨w.heap.size + 1, 5, none⟩ = false := (hbel.frozen (p := ⟨w.heap.size + 1, 5, none⟩) (by simp <;> omega)).trans (by simp [go_sem])
        have zs0 : w.heap.size < w'.heap.size := World.block_lt_of_cell? _ _ s0
        have zr0 : w.heap.size + 1 < w'.heap.size := World.block_lt_of_cell? _ _ r0
        have zg0 : w.heap.size + 1 < g := by first | omega | (simp at hg; omega)
        clear hbel hrow hown hgrow hg HC
        go_wp2
        go_meet
        case rel =>
          refine ⟨some ⟨g, 0, none⟩, cap', ⟨?_, ?_, ?_, ?_⟩, ?_, ⟨?_, ?_, ?_, ?_⟩, ?_, ?_, ?_⟩
          · simp [go_sem, s0]
          · simp [go_sem, s1]
          · simp [go_sem, s2]
          · simp [go_sem, s3]
          · simp [Fr, go_sem, sf0, sf1, sf2, sf3, sf4, sf5]
          · simp [go_sem, r0]
          · simp [go_sem, r1]
          · simp [go_sem, r2]
          · simp [go_sem, r3]
          · simp [Fr, go_sem, rf0, rf1, rf2, rf3, rf4, rf5]
          · exact HR.out.set (by dsimp only; omega)
          · exact bl_set HB.out (by dsimp only; omega)
  case rest =>
    obtain ⟨a', ca', ⟨s0, s1, s2, s3⟩, ⟨sf0, sf1, sf2, sf3, sf4, sf5⟩, ⟨r0, r1, r2, r3⟩, ⟨rf0, rf1, rf2, rf3, rf4, rf5⟩, hRow, hB⟩ := hcut
    have HR : Hid (RowF wc (w.heap.size + 1 + 1) a' zs) := hRow
    have HB : Hid (Below w.heap.size w wc) := hB
    have zs0 : w.heap.size < wc.heap.size := World.block_lt_of_cell? _ _ s0
    have zr0 : w.heap.size + 1 < wc.heap.size := World.block_lt_of_cell? _ _ r0
    have HKc : Hid (Row wc b ks) := HK.out.kept hB
    clear hRow hB HB0
    by_cases he : n = 0
    · have hkk : ks = [] := List.eq_nil_of_length_eq_zero (by rw [HN.out, he])
      subst hkk he
      go_wp2_with (at_builtin; refine wpList_append_nothing _ rfl (.const (.slice none 0 0)) (.tmp 8) 23 rfl 80 i9 Tryz.underlying23 HI9.out.1 b cb rfl rfl ?_)
      refine bodyPost_ret (v := .agg #[.int .i64 W, .int .i64 H, .slice a' zs.length ca', .slice none 0 0]) ?_ rfl ⟨a', ca', none, 0, rfl, ?_, row_nil _ _ _, ?_, Or.inl rfl⟩
      · simp [results, Tryz.results37, go_sem, *]
      · have h5 := HR.out.low (base' := w.heap.size + 1 + 1) (Nat.le_refl _)
        refine RowF.low (base := w.heap.size + 1 + 1) ?_ (by omega)
        with_reducible repeat' (first | exact h5 | refine RowF.set ?_ ?_ | omega | (dsimp only; omega))
      · with_reducible repeat' (first | exact HB.out | refine bl_set ?_ ?_)
        all_goals (first | omega | (dsimp only; omega))
    · obtain ⟨bb, off, rfl, hc⟩ := row_at HKc.out (by rw [HN.out]; omega)
      have HC : Hid (∀ j u, (ks.map (fun z => Value.int .i64 z))[j]? = some u → wc.cell? ((⟨bb, off, none⟩ : Addr).add j) = some u) := hc
      clear hc
      go_wp2_with (at_builtin; refine wpList_append_grows _ rfl (.const (.slice none 0 0)) (.tmp 8) 23 rfl 80 i9 (.agg #[.int .i64 0, .int .i64 0, .int .i64 0, .int .i64 0, .int .i64 0]) 5 40 Tryz.underlying23 HI9.out.1 HI9.out.2.1 HI9.out.2.2.1 HI9.out.2.2.2 rfl (by decide) none 0 0 [] rfl (fun _ => ⟨rfl, rfl⟩) rfl (by intro _ h; simp at h) ⟨bb, off, none⟩ n cb (ks.map (fun z => Value.int .i64 z)) rfl (by rw [List.length_map]; exact HN.out) (by intro j u hu; exact HC.out j u hu) (by intro u hu; obtain ⟨z, _, rfl⟩ := List.mem_map.1 hu; rfl) (by omega) (by unfold maxLen; omega) (by omega) ?grow)
      case grow =>
        intro v' w' hown hgrow
        have hbel : Below wc.heap.size wc w' := (Below.refl _ _).grown hgrow (Nat.le_refl _) (fun k h => by cases h)
        obtain ⟨g, cap', rfl, hg, hrow⟩ := own_row (n := n) (by simpa using hown) (by omega)
        have HR2 : Hid (RowF w' (w.heap.size + 1 + 1) (some ⟨g, 0, none⟩) ks) := hrow.low (by omega)
        have HR1 : Hid (RowF w' (w.heap.size + 1 + 1) a' zs) := HR.out.kept hbel
        have HB2 : Hid (Below w.heap.size w w') := bl_via HB.out hbel
        have s0' : w'.cell? ⟨w.heap.size, 0, none⟩ = some (.int .i64 W) := cl_kept hbel s0
        have s1' : w'.cell? ⟨w.heap.size, 1, none⟩ = some (.int .i64 H) := cl_kept hbel s1
        have s2' : w'.cell? ⟨w.heap.size, 2, none⟩ = some (.slice a' zs.length ca') := cl_kept hbel s2
        have s3' : w'.cell? ⟨w.heap.size, 3, none⟩ = some (.slice (some ⟨bb, off, none⟩) n cb) := cl_kept hbel s3
        have sf0' : w'.frozen? ⟨w.heap.size, 0, none⟩ = false := (hbel.frozen (p := ⟨w.heap.size, 0, none⟩) (by dsimp only; omega)).trans sf0
        have sf1' : w'.frozen? ⟨w.heap.size, 1, none⟩ = false := (hbel.frozen (p := ⟨w.heap.size, 1, none⟩) (by dsimp only; omega)).trans sf1
        have sf2' : w'.frozen? ⟨w.heap.size, 2, none⟩ = false := (hbel.frozen (p := ⟨w.heap.size, 2, none⟩) (by dsimp only; omega)).trans sf2
        have sf3' : w'.frozen? ⟨w.heap.size, 3, none⟩ = false := (hbel.frozen (p := ⟨w.heap.size, 3, none⟩) (by dsimp only; omega)).trans sf3
        have r0' : w'.cell? ⟨w.heap.size + 1, 0, none⟩ = some (.int .i64 0) := cl_kept hbel r0
        have r1' : w'.cell? ⟨w.heap.size + 1, 1, none⟩ = some (.int .i64 0) := cl_kept hbel r1
        have r2' : w'.cell? ⟨w.heap.size + 1, 2, none⟩ = some (.slice none 0 0) := cl_kept hbel r2
        have r3' : w'.cell? ⟨w.heap.size + 1, 3, none⟩ = some (.slice none 0 0) := cl_kept hbel r3
        have rf0' : w'.frozen? ⟨w.heap.size + 1, 0, none⟩ = false := (hbel.frozen (p := ⟨w.heap.size + 1, 0, none⟩) (by dsimp only; omega)).trans rf0
        have rf1' : w'.frozen? ⟨w.heap.size + 1, 1, none⟩ = false := (hbel.frozen (p := ⟨w.heap.size + 1, 1, none⟩) (by dsimp only; omega)).trans rf1
        have rf2' : w'.frozen? ⟨w.heap.size + 1, 2, none⟩ = false := (hbel.frozen (p := ⟨w.heap.size + 1, 2, none⟩) (by dsimp only; omega)).trans rf2
        have rf3' : w'.frozen? ⟨w.heap.size + 1, 3, none⟩ = false := (hbel.frozen (p := ⟨w.heap.size + 1, 3, none⟩) (by dsimp only; omega)).trans rf3
        have zs1 : w.heap.size < w'.heap.size := World.block_lt_of_cell? _ _ s0'
        have zr1 : w.heap.size + 1 < w'.heap.size := World.block_lt_of_cell? _ _ r0'
        clear hbel hrow hown hgrow hg HC HR HB HKc
        go_wp2
        refine bodyPost_ret (v := .agg #[.int .i64 W, .int .i64 H, .slice a' zs.length ca', .slice (some ⟨g, 0, none⟩) n cap']) ?_ rfl ⟨a', ca', some ⟨g, 0, none⟩, cap', rfl, ?_, ?_, ?_, Or.inr ⟨_, _, rfl⟩⟩
        · simp [results, Tryz.results37, go_sem, *]
        · have h5 := HR1.out.low (base' := w.heap.size + 1 + 1) (Nat.le_refl _)
          refine RowF.low (base := w.heap.size + 1 + 1) ?_ (by omega)
          with_reducible repeat' (first | exact h5 | refine RowF.set ?_ ?_ | omega | (dsimp only; omega))
        · have h5 := HR2.out.low (base' := w.heap.size + 1 + 1) (Nat.le_refl _)
          refine RowF.low (base := w.heap.size + 1 + 1) ?_ (by omega)
          with_reducible repeat' (first | exact h5 | refine RowF.set ?_ ?_ | omega | (dsimp only; omega))
        · with_reducible repeat' (first | exact HB2.out | refine bl_set ?_ ?_)
          all_goals (first | omega | (dsimp only; omega))
theorem sheetOf_any (W H : Int) (a b : Option Addr) (ca cb n : Nat) (zs ks : List Int) (w : World) (hz : Row w a zs) (hk : Row w b ks) (hn : ks.length = n * 5) (h1 : zs.length ≤ 17592186044416) (h2 : n ≤ 3518437208883) :
    Calls Tryz.prog 37 #[.agg #[.int .i64 W, .int .i64 H, .slice a zs.length ca, .slice b n cb]] w fun e w' => ∃ a' ca' b' cb', e = .returned (.agg #[.int .i64 W, .int .i64 H, .slice a' zs.length ca', .slice b' n cb']) ∧ RowF w' w.heap.size a' zs ∧ RowF w' w.heap.size b' ks ∧ Below w.heap.size w w' :=
  (sheetOf_form W H a b ca cb n zs ks w hz hk hn h1 h2).mono fun _ _ ⟨a', ca', b', cb', he, r1, r2, hb, _⟩ => ⟨a', ca', b', cb', he, r1, r2, hb⟩

/-- Is a triangle there, by a sheet's numbers? -/
def bitAt (zs : List Int) (W x y k : Nat) : Bool := bitB (zs.getD (y * W + x) 0) k
/-- The triangles of a cell, of a row, of some rows. -/
def tk (zs : List Int) (W x y n : Nat) : List (Int × Int × Int) := ((List.range n).filter (fun k => bitAt zs W x y k)).map (fun (k : Nat) => ((x : Int), (y : Int), (k : Int)))
def tx (zs : List Int) (W y n : Nat) : List (Int × Int × Int) := (List.range n).flatMap (fun x => tk zs W x y 4)
def ty (zs : List Int) (W n : Nat) : List (Int × Int × Int) := (List.range n).flatMap (fun y => tx zs W y W)
theorem tk_zero (zs : List Int) (W x y : Nat) : tk zs W x y 0 = [] := by simp [tk]
theorem tx_zero (zs : List Int) (W y : Nat) : tx zs W y 0 = [] := by simp [tx]
theorem tk_yes {zs : List Int} {W x y n : Nat} (h : bitAt zs W x y n = true) : tk zs W x y (n + 1) = tk zs W x y n ++ [((x : Int), (y : Int), (n : Int))] := by
  simp [tk, List.range_succ, List.filter_append, h]
theorem tk_no {zs : List Int} {W x y n : Nat} (h : bitAt zs W x y n = false) : tk zs W x y (n + 1) = tk zs W x y n := by
  simp [tk, List.range_succ, List.filter_append, h]
theorem tx_succ (zs : List Int) (W y n : Nat) : tx zs W y (n + 1) = tx zs W y n ++ tk zs W n y 4 := by
  simp [tx, List.range_succ, List.flatMap_append]
theorem ty_succ (zs : List Int) (W n : Nat) : ty zs W (n + 1) = ty zs W n ++ tx zs W n W := by
  simp [ty, List.range_succ, List.flatMap_append]
theorem tk_len (zs : List Int) (W x y n : Nat) : (tk zs W x y n).length ≤ n := by
  unfold tk
  rw [List.length_map]
  exact Nat.le_trans (List.length_filter_le _ _) (by simp)
theorem tx_len (zs : List Int) (W y n : Nat) : (tx zs W y n).length ≤ 4 * n := by
  induction n with
  | zero => simp [tx]
  | succ n ih =>
    rw [tx_succ, List.length_append]
    have := tk_len zs W n y 4
    omega
theorem ty_len (zs : List Int) (W n : Nat) (hW : W ≤ 8) : (ty zs W n).length ≤ 32 * n := by
  induction n with
  | zero => simp [ty]
  | succ n ih =>
    rw [ty_succ, List.length_append]
    have := tx_len zs W n W
    omega

/-- Triangles, number by number. -/
def flatV (l : List (Int × Int × Int)) : List Value := l.flatMap fun t => [.int .i64 t.1, .int .i64 t.2.1, .int .i64 t.2.2]
theorem flatV_add (l m : List (Int × Int × Int)) : flatV (l ++ m) = flatV l ++ flatV m := by simp [flatV, List.flatMap_append]

theorem cell_three_new (w : World) (a b c : Int) : ∀ j u, ([Value.int .i64 a, .int .i64 b, .int .i64 c])[j]? = some u → (w.alloc (.cells #[.int .i64 a, .int .i64 b, .int .i64 c] 51)).cell? ((⟨w.heap.size, 0, none⟩ : Addr).add j) = some u := by
  intro j u hu
  match j, hu with
  | 0, hu => simp at hu; subst hu; simp [go_sem, Addr.add]
  | 1, hu => simp at hu; subst hu; simp [go_sem, Addr.add]
  | 2, hu => simp at hu; subst hu; simp [go_sem, Addr.add]

theorem own_below {w w' : World} {base : Nat} {e : TypeId} {size : Nat} {v : Value} {n : Nat} {xs : List Value} (h : w.ownsRow base e size v n xs) (hb : Below w.heap.size w w') : w'.ownsRow base e size v n xs := by
  refine ⟨h.1, ?_⟩
  rcases h.2 with ⟨h1, h2⟩ | ⟨g, cap, cur, h1, h2, h3, h4⟩
  · exact .inl ⟨h1, h2⟩
  · refine .inr ⟨g, cap, cur, h1, h2, ?_, h4⟩
    have hg : g < w.heap.size := by
      rcases Nat.lt_or_ge g w.heap.size with h | h
      · exact h
      · rw [Array.getElem?_eq_none h] at h3; cases h3
    rw [hb.block g hg]
    exact h3
theorem own_base {w : World} {base : Nat} {e : TypeId} {size : Nat} {v : Value} {n : Nat} {xs : List Value} (h : w.ownsRow base e size v n xs) : ∀ k, v.ownBlock = some k → base ≤ k := by
  intro k hk
  rcases h.2 with ⟨rfl, _⟩ | ⟨g, cap, cur, rfl, h2, _⟩
  · simp [Value.ownBlock] at hk
  · simp [Value.ownBlock] at hk
    omega

/-- What TrisOf keeps in memory: the sheet, the triangles so far. -/
def TI (w wx : World) (W H b off cap : Nat) (zs : List Int) (c v : Value) (L : List (Int × Int × Int)) : Prop :=
  wx.ownsRow (w.heap.size + 1) 51 3 v L.length (flatV L) ∧ Sh wx w.heap.size (.int .i64 (W : Int)) (.int .i64 (H : Int)) (.slice (some ⟨b, off, none⟩) zs.length cap) c ∧ Below w.heap.size w wx ∧ w.heap.size + 1 ≤ wx.heap.size
theorem inf23 : (Tryz.prog.info? 51).map (fun i => (i.zero, i.size, i.bytes)) = some (some (.agg #[.int .i64 0, .int .i64 0, .int .i64 0]), 3, 24) := by kernel_rfl
theorem TI.kept {w wr wx : World} {W H b off cap : Nat} {zs : List Int} {c v : Value} {L : List (Int × Int × Int)} (h : TI w wr W H b off cap zs c v L) (hb : Below wr.heap.size wr wx) : TI w wx W H b off cap zs c v L :=
  ⟨own_below h.1 hb, h.2.1.kept hb, bl_via h.2.2.1 hb, Nat.le_trans h.2.2.2 hb.size⟩

set_option maxRecDepth 100000 in
set_option maxHeartbeats 3200000 in
theorem trisOf_any (W H b off cap : Nat) (zs : List Int) (c : Value) (w : World) (hr : Row w (some ⟨b, off, none⟩) zs) (hW : 1 ≤ W ∧ W ≤ 8) (hH : 1 ≤ H ∧ H ≤ 8) (hl : zs.length = W * H) (hm : maskB zs = true) :
    Calls Tryz.prog 51 #[.agg #[.int .i64 (W : Int), .int .i64 (H : Int), .slice (some ⟨b, off, none⟩) zs.length cap, c]] w fun e w' => ∃ v, e = .returned v ∧ w'.ownsRow (w.heap.size + 1) 51 3 v (ty zs W H).length (flatV (ty zs W H)) ∧ Below w.heap.size w w' := by
  have HR : Hid (Row w (some ⟨b, off, none⟩) zs) := hr
  have h64 : zs.length ≤ 64 := by rw [hl]; exact Nat.le_trans (Nat.mul_le_mul hW.2 hH.2) (by decide)
  have HM : Hid (∀ z ∈ zs, 0 ≤ z ∧ z ≤ 15) := by
    show ∀ z ∈ zs, 0 ≤ z ∧ z ≤ 15
    simpa [maskB] using hm
  have HL : Hid (zs.length = W * H) := hl
  obtain ⟨i0, hi, hz0, hz1, hz2⟩ := info_parts inf23
  have HI : Hid (Tryz.prog.info? 51 = some i0 ∧ i0.zero = some (.agg #[.int .i64 0, .int .i64 0, .int .i64 0]) ∧ i0.size = 3 ∧ i0.bytes = 24) := ⟨hi, hz0, hz1, hz2⟩
  clear hr hm hl hi hz0 hz1 hz2
  obtain ⟨w1, w8⟩ := hW
  obtain ⟨h1, h8⟩ := hH
  go_enter Tryz.func51, Tryz.ntmps51
  go_wp2
  go_loopg [3, 4] H (fun g s3 s4 wx => ∃ y : Nat, y ≤ H ∧ g = H - y ∧ s4 = .int .i64 (y : Int) ∧ TI w wx W H b off cap zs c (s3) (ty zs W y))
  case atStart => exact ⟨0, by omega, rfl, rfl, by simpa [ty, flatV] using World.ownsRow_nil _ _ _ _, by simp [Sh, go_sem], bl_alloc (bl_refl _), by simp⟩
  case round =>
    obtain ⟨y, hy, rfl, rfl, hT⟩ := hrel
    obtain ⟨va, hva⟩ : ∃ u, u = u3 := ⟨_, rfl⟩
    subst hva
    have HT : Hid (TI w wr W H b off cap zs c (va) (ty zs W y)) := hT
    clear hT
    obtain ⟨p0, p1, p2, p3⟩ := HT.out.2.1
    by_cases hy1 : y < H
    · have iy : (y : Int) < (H : Int) := by omega
      go_wp2
      go_loopg [3, 5] W (fun g s3 s5 wx => ∃ x : Nat, x ≤ W ∧ g = W - x ∧ s5 = .int .i64 (x : Int) ∧ TI w wx W H b off cap zs c (s3) (ty zs W y ++ tx zs W y x))
      case atStart => exact ⟨0, by omega, rfl, rfl, by rw [tx_zero, List.append_nil]; exact HT.out⟩
      case round =>
        clear HT p0 p1 p2 p3
        obtain ⟨x, hx, rfl, rfl, hT⟩ := hrel
        obtain ⟨vb, hvb⟩ : ∃ u, u = u3 := ⟨_, rfl⟩
        subst hvb
        have HT : Hid (TI w wr W H b off cap zs c (vb) (ty zs W y ++ tx zs W y x)) := hT
        clear hT
        obtain ⟨p0, p1, p2, p3⟩ := HT.out.2.1
        by_cases hx1 : x < W
        · have ix : (x : Int) < (W : Int) := by omega
          go_wp2
          go_loopg [3, 6] 4 (fun g s3 s6 wx => ∃ k : Nat, k ≤ 4 ∧ g = 4 - k ∧ s6 = .int .i64 (k : Int) ∧ TI w wx W H b off cap zs c (s3) (ty zs W y ++ tx zs W y x ++ tk zs W x y k))
          case atStart => exact ⟨0, by omega, rfl, rfl, by rw [tk_zero, List.append_nil]; exact HT.out⟩
          case round =>
            clear HT p0 p1 p2 p3
            obtain ⟨k, hk, rfl, rfl, hT⟩ := hrel
            obtain ⟨vc, hvc⟩ : ∃ u, u = u3 := ⟨_, rfl⟩
            subst hvc
            have HT : Hid (TI w wr W H b off cap zs c (vc) (ty zs W y ++ tx zs W y x ++ tk zs W x y k)) := hT
            clear hT
            obtain ⟨p0, p1, p2, p3⟩ := HT.out.2.1
            by_cases hk1 : k < 4
            · have ik : (k : Int) < 4 := by omega
              have hyw : y * W + W ≤ W * H := by
                have := Nat.mul_le_mul_right W (show y + 1 ≤ H by omega)
                rw [Nat.succ_mul, Nat.mul_comm H W] at this
                exact this
              have hm : y * W + x < zs.length := by rw [HL.out]; omega
              have hyw2 : y * W ≤ 64 := by have := HL.out; omega
              obtain ⟨b', off', e', hc⟩ := (HR.out.kept HT.out.2.2.1) (y * W + x) hm
              simp at e'
              obtain ⟨rfl, rfl⟩ := e'
              have hzb := HM.out _ (List.getElem_mem hm)
              have hbt : bitAt zs W x y k = bitB (zs[y * W + x]) k := by simp [bitAt, hm]
              obtain ⟨z, hz⟩ : ∃ z, z = zs[y * W + x] := ⟨_, rfl⟩
              rw [← hz] at hc hzb hbt
              have zz0 : w.heap.size < wr.heap.size := World.block_lt_of_cell? _ _ p0
              have zz1 : w.heap.size < wr.heap.size + 1 := by omega
              have HC : Hid (∀ W' : World, Below wr.heap.size wr W' → Calls Tryz.prog 128 #[.agg #[.int .i64 (W : Int), .int .i64 (H : Int), .slice (some ⟨b, off, none⟩) zs.length cap, c], .agg #[.int .i64 (x : Int), .int .i64 (y : Int), .int .i64 (k : Int)]] W' fun e w' => e = .returned (.bool (bitB z k)) ∧ Below W'.heap.size W' w') := fun W' hW' =>
                hasTri_in W H x y k z b off (y * W + x) cap zs c W' (by omega) (by omega) (by omega) (by omega) (by omega) (by simp) hm h64 (by constructor <;> (rw [← Int.natCast_mul]; omega)) (cl_kept hW' hc) hzb
              have HBT : Hid (bitAt zs W x y k = bitB z k) := hbt
              clear hc hzb hbt hz hm hyw hyw2
              cases hbit : bitB z k
              · go_wp2_with (go_at_call 128; refine (HC.out _ (by with_reducible exact bl_alloc (bl_refl _))).mono ?_; rintro e w2 ⟨rfl, hb⟩; have HT2 : Hid (TI w w2 W H b off cap zs c (vc) (ty zs W y ++ tx zs W y x ++ tk zs W x y k)) := HT.out.kept (bl_via (bl_alloc (bl_refl _)) hb); clear hb)
                go_roundg (4 - (k + 1))
                case measure => omega
                case rel => exact ⟨k + 1, by omega, rfl, by go_num, by rw [tk_no (HBT.out.trans hbit)]; exact HT2.out⟩
              · have hlen : (ty zs W y ++ tx zs W y x ++ tk zs W x y k).length + 1 ≤ 1000 := by
                  have q1 := ty_len zs W y w8
                  have q2 := tx_len zs W y x
                  have q3 := tk_len zs W x y k
                  simp only [List.length_append]
                  omega
                go_wp2_with (first
                  | (go_at_call 128; refine (HC.out _ (by with_reducible exact bl_alloc (bl_refl _))).mono ?_; rintro e w2 ⟨rfl, hb⟩; have HT2 : Hid (TI w w2 W H b off cap zs c (vc) (ty zs W y ++ tx zs W y x ++ tk zs W x y k)) := HT.out.kept (bl_via (bl_alloc (bl_refl _)) hb); have n0 : w2.cell? ⟨wr.heap.size, 0, none⟩ = some (.int .i64 (x : Int)) := cl_kept hb (by simp [go_sem]); have n1 : w2.cell? ⟨wr.heap.size, 1, none⟩ = some (.int .i64 (y : Int)) := cl_kept hb (by simp [go_sem]); have n2 : w2.cell? ⟨wr.heap.size, 2, none⟩ = some (.int .i64 (k : Int)) := cl_kept hb (by simp [go_sem]); have zn : wr.heap.size < w2.heap.size := World.block_lt_of_cell? _ _ n0; clear hb)
                  | (at_builtin; refine wpList_append_own _ rfl (.tmp 31) (.tmp 33) 55 rfl (w.heap.size + 1) 51 i0 (.agg #[.int .i64 0, .int .i64 0, .int .i64 0]) 3 24 Tryz.underlying55 HI.out.1 HI.out.2.1 HI.out.2.2.1 HI.out.2.2.2 rfl (by decide) vc (ty zs W y ++ tx zs W y x ++ tk zs W x y k).length (flatV (ty zs W y ++ tx zs W y x ++ tk zs W x y k)) rfl ?own ⟨w2.heap.size, 0, none⟩ 1 1 [.int .i64 (x : Int), .int .i64 (y : Int), .int .i64 (k : Int)] rfl rfl ?c1 ?c2 ?b1 ?b2 ?b3 ?grow))
                case own => exact own_below HT2.out.1 (bl_alloc (bl_refl _))
                case c1 => exact cell_three_new _ _ _ _
                case c2 =>
                  intro u hu
                  simp at hu
                  rcases hu with rfl | rfl | rfl <;> rfl
                case b1 =>
                  unfold maxLen
                  omega
                case b2 => omega
                case b3 =>
                  have := HT2.out.2.2.2
                  simp
                  omega
                case grow =>
                 intro v' w3 hown hgrow hnil
                 have hgb := Below.grown (Below.refl (w.heap.size + 1) _) hgrow (by have := HT2.out.2.2.2; simp; omega) (own_base HT2.out.1)
                 have ho : w3.ownsRow (w.heap.size + 1) 51 3 v' ((ty zs W y ++ tx zs W y x ++ tk zs W x y k).length + 1) (flatV (ty zs W y ++ tx zs W y x ++ tk zs W x y k) ++ [.int .i64 (x : Int), .int .i64 (y : Int), .int .i64 (k : Int)]) := by simpa [List.length_append, List.append_assoc, Nat.add_assoc] using hown
                 have HO : Hid (w3.ownsRow (w.heap.size + 1) 51 3 v' ((ty zs W y ++ tx zs W y x ++ tk zs W x y k).length + 1) (flatV (ty zs W y ++ tx zs W y x ++ tk zs W x y k) ++ [.int .i64 (x : Int), .int .i64 (y : Int), .int .i64 (k : Int)])) := ho
                 clear ho
                 have HG : Hid (Below (w.heap.size + 1) (w2.alloc (.cells #[.int .i64 (x : Int), .int .i64 (y : Int), .int .i64 (k : Int)] 51)) w3) := hgb
                 clear hown hgrow hnil hgb
                 go_wp2
                 go_roundg (4 - (k + 1))
                 case measure => omega
                 case rel =>
                   have hS : Sh (w2.alloc (.cells #[.int .i64 (x : Int), .int .i64 (y : Int), .int .i64 (k : Int)] 51)) w.heap.size (.int .i64 (W : Int)) (.int .i64 (H : Int)) (.slice (some ⟨b, off, none⟩) zs.length cap) c := HT2.out.2.1.kept (bl_alloc (bl_refl _))
                   have hB : Below w.heap.size w (w2.alloc (.cells #[.int .i64 (x : Int), .int .i64 (y : Int), .int .i64 (k : Int)] 51)) := bl_alloc HT2.out.2.2.1
                   have hE : ty zs W y ++ tx zs W y x ++ tk zs W x y (k + 1) = (ty zs W y ++ tx zs W y x ++ tk zs W x y k) ++ [((x : Int), (y : Int), (k : Int))] := by rw [tk_yes (HBT.out.trans hbit), ← List.append_assoc]
                   refine ⟨k + 1, by omega, rfl, by go_num, ?_, ⟨?_, ?_, ?_, ?_⟩, hB.trans (HG.out.mono (by omega)), ?_⟩
                   · rw [hE, flatV_add, List.length_append]
                     exact HO.out
                   · exact (HG.out.cell (p := ⟨w.heap.size, 0, none⟩) (by dsimp only; omega)).trans hS.1
                   · exact (HG.out.cell (p := ⟨w.heap.size, 1, none⟩) (by dsimp only; omega)).trans hS.2.1
                   · exact (HG.out.cell (p := ⟨w.heap.size, 2, none⟩) (by dsimp only; omega)).trans hS.2.2.1
                   · exact (HG.out.cell (p := ⟨w.heap.size, 3, none⟩) (by dsimp only; omega)).trans hS.2.2.2
                   · have q := HG.out.size
                     have q2 := HT2.out.2.2.2
                     simp at q
                     omega
            · go_wp2
              go_roundg (W - (x + 1))
              case measure => omega
              case rel =>
                obtain rfl : k = 4 := by omega
                exact ⟨x + 1, by omega, rfl, by go_num, by rw [tx_succ, ← List.append_assoc]; exact HT.out⟩
        · have ix : ¬ (x : Int) < (W : Int) := by omega
          go_wp2
          go_roundg (H - (y + 1))
          case measure => omega
          case rel =>
            obtain rfl : x = W := by omega
            exact ⟨y + 1, by omega, rfl, by go_num, by rw [ty_succ]; exact HT.out⟩
    · have iy : ¬ (y : Int) < (H : Int) := by omega
      obtain rfl : y = H := by omega
      go_wp2
      go_ret
      exact ⟨va, rfl, HT.out.1, HT.out.2.2.1⟩
end Go.Proofs.YtnpboeodhpenmaaGreatDoor
namespace Go.Proofs
open Go.Shelf
def Tryz.lays212_ren : Go.Shelf.Ren := ⟨fun | 212 => 248 | 263 => 276 | 264 => 277 | n => n, fun | 46 => 195 | 51 => 284 | 146 => 349 | 53 => 286 | 148 => 351 | n => n, fun | n => n⟩
theorem Tryz.lays212 : Go.Proofs.Lays.n212 Tryz.prog Tryz.lays212_ren := {
  mixed := by kernel_rfl
  f212 := Tryz.func248.trans (congrArg some (by kernel_rfl))
  f263 := Tryz.func276.trans (congrArg some (by kernel_rfl))
  f264 := Tryz.func277.trans (congrArg some (by kernel_rfl))
  t46 := Tryz.underlying195
  a46 := Tryz.isAgg195
  z46 := Tryz.sizeOf195
  v46 := Tryz.zeroValue195
  t51 := Tryz.underlying284
  a51 := Tryz.isAgg284
  z51 := Tryz.sizeOf284
  v51 := Tryz.zeroValue284
  t53 := Tryz.underlying286
  a53 := Tryz.isAgg286
  z53 := Tryz.sizeOf286
  v53 := Tryz.zeroValue286
  t146 := Tryz.underlying349
  a146 := Tryz.isAgg349
  z146 := Tryz.sizeOf349
  v146 := Tryz.zeroValue349
  t148 := Tryz.underlying351
  a148 := Tryz.isAgg351
  z148 := Tryz.sizeOf351
  v148 := Tryz.zeroValue351 }
open Go.RowKit Go.Lib in
/-- math/bits.Mul: "Mul returns the full-width product of x and y": on a machine of 64 bits: Mul64's. (LAID: no walk: one application.) -/
theorem Tryz.bits_Mul (x y : Nat) (hx : x < 18446744073709551616) (hy : y < 18446744073709551616) (w : World) :
    Calls Tryz.prog 248 #[.int .u64 x, .int .u64 y] w fun e w' => e = .returned (.tuple #[.int .u64 ((x * y / 18446744073709551616 : Nat) : Int), .int .u64 ((x * y % 18446744073709551616 : Nat) : Int)]) ∧ w' = w := Any.bits_Mul Tryz.lays212 x y hx hy w
end Go.Proofs
namespace Go.Proofs
open Go.Shelf
def Tryz.lays113_ren : Go.Shelf.Ren := ⟨fun | 113 => 161 | n => n, fun | 28 => 22 | 3 => 3 | 4 => 4 | 9 => 9 | 20 => 20 | 0 => 0 | n => n, fun | n => n⟩
theorem Tryz.lays113 : Go.Proofs.Lays.n113 Tryz.prog Tryz.lays113_ren := {
  mixed := by kernel_rfl
  f113 := Tryz.func161.trans (congrArg some (by kernel_rfl))
  t0 := Tryz.underlying0
  a0 := Tryz.isAgg0
  z0 := Tryz.sizeOf0
  v0 := Tryz.zeroValue0
  t3 := Tryz.underlying3
  a3 := Tryz.isAgg3
  z3 := Tryz.sizeOf3
  v3 := Tryz.zeroValue3
  t4 := Tryz.underlying4
  a4 := Tryz.isAgg4
  z4 := Tryz.sizeOf4
  v4 := Tryz.zeroValue4
  t9 := Tryz.underlying9
  a9 := Tryz.isAgg9
  z9 := Tryz.sizeOf9
  v9 := Tryz.zeroValue9
  t20 := Tryz.underlying20
  a20 := Tryz.isAgg20
  z20 := Tryz.sizeOf20
  v20 := Tryz.zeroValue20
  t28 := Tryz.underlying22
  a28 := Tryz.isAgg22
  z28 := Tryz.sizeOf22
  v28 := Tryz.zeroValue22 }
open Go.Lib in
/-- slices.Max at []int: "Max returns the maximal value in x. It panics if x is empty.": OF A SLICE THAT IS NOT EMPTY IT RETURNS 'Lib.maxOf (the elements)'; the world is as it was. (Of an empty one it panics: no contract here.) (LAID: no walk: one application.) -/
theorem Tryz.slices_Max_int (b off n c : Nat) (zs : List Int) (w : World) (hn : 0 < n) (hz : n ≤ zs.length) (hbig : n ≤ 9223372036854775807) (hc : ∀ j, j < zs.length → w.cell? ⟨b, off + j, none⟩ = some (.int .i64 (zs.getD j 0))) :
    Calls Tryz.prog 161 #[.slice (some ⟨b, off, none⟩) n c] w fun e w' => e = .returned (.int .i64 (Lib.maxOf (zs.take n))) ∧ w' = w := Any.slices_Max_int Tryz.lays113 b off n c zs w hn hz hbig hc
end Go.Proofs
namespace Go.Proofs.YtnpboeodhpenmaaGreatDoor
open Go.ChangeShapes Go.WideShapes Go.ChangeAt Go.RowKit

theorem gTab : Tryz.prog.globalNamed "math/bits.deBruijn64tab" = some 4 := by kernel_rfl
theorem tTab : (Tryz.prog.globals[4]?).map (·.type) = some 407 := by kernel_rfl
theorem c5b : Tryz.prog.cellsOf 5 = 1 := by kernel_rfl
set_option maxRecDepth 100000 in
theorem tab15 {H : Type} (xs : List (DataW H × List MemPlace)) (p : List MemPlace) (h : (Rows.laid_math_bits_deBruijn64tab, p) = (DataW.agg (xs.map (·.1)), xs.flatMap (·.2))) : ∃ y, xs[15]? = some (.lit (.int .u8 4), y) := by
  simp only [Prod.mk.injEq, Rows.laid_math_bits_deBruijn64tab, DataW.agg.injEq] at h
  have := congrArg (fun l => l[15]?) h.1
  simp only [List.getElem?_map] at this
  match hx : xs[15]?, this with
  | none, q => simp at q
  | some (a, b), q => simp at q; exact ⟨b, by rw [q]⟩
set_option maxRecDepth 100000 in
theorem tz16_of {W : World} (h : laidMetH Tryz.prog Rows.viewTellsRow.laid W) : W.cell? ⟨4, 15, none⟩ = some (.int .u8 4) := by
  rw [MakeChecks.laidMetH_plain _ _ _ (by kernel_rfl)] at h
  obtain ⟨ps, ⟨_, _, _, _, _, _, _, _, _, _, ⟨g, t, cs, f, p, q, hg, ht, hv, hd, _, _⟩, _⟩, _, _⟩ := h
  obtain rfl := Option.some.inj (gTab.symm.trans hg)
  obtain rfl := Option.some.inj (tTab.symm.trans ht)
  have hc := World.var?_cell hg hv 15
  obtain ⟨xs, m1, rfl, hx1, hlen, hn, hel⟩ := DataW.trod_array Tryz.underlying407 hd
  obtain ⟨y, hy⟩ := tab15 xs p hx1
  have k := hel 15 (by decide)
  rw [hy, c5b] at k
  obtain ⟨n, he, hn4, _⟩ := DataW.trod_int Tryz.underlying5 k
  simp only [Prod.mk.injEq, DataW.lit.injEq, Lit.int.injEq, true_and] at hn4
  obtain ⟨rfl, _⟩ := hn4
  have e : cs.toList[15]? = some (.int .u8 4) := by
    have := congrArg (fun l => l[0]?) he
    simpa using this
  rw [hc]
  simpa using e
theorem laid_tail {Q : Program} {W : World} {n : String} {d : DataW Unit} {r : List (String × DataW Unit)} (h : laidMet Q ((n, d) :: r) W) : laidMet Q r W := by
  obtain ⟨ps, ⟨_, _, _, _, _, q, _, _, _, _, hr, rfl⟩, hnd, hm⟩ := h
  exact ⟨q, hr, (List.nodup_append.1 hnd).2.1, fun b off hb => hm b off (List.mem_append_right _ hb)⟩
/-- The steps alone: what steps_of reads. -/
theorem steps_only {W : World} (h : laidMetH Tryz.prog Rows.viewTellsRow.laid W) : laidMetH Tryz.prog [("pleat/grid.steps", Rows.laid_pleat_grid_steps)] W := by
  rw [MakeChecks.laidMetH_plain _ _ _ (by kernel_rfl)] at h ⊢
  exact laid_tail (laid_tail (laid_tail h))
end Go.Proofs.YtnpboeodhpenmaaGreatDoor
namespace Go.Proofs.YtnpboeodhpenmaaGreatDoor
open Go.Shelf
def jnR : Go.Shelf.Ren := ⟨fun | 156 => 156 | 165 => 240 | 166 => 155 | 169 => 157 | 240 => 239 | 241 => 271 | 276 => 270 | 277 => 304 | n => n, fun | 0 => 0 | 3 => 3 | 4 => 4 | 5 => 5 | 9 => 9 | 20 => 20 | 31 => 238 | 37 => 235 | 70 => 234 | 72 => 237 | 75 => 245 | 76 => 246 | 80 => 243 | 127 => 310 | 164 => 346 | n => n, fun | n => n⟩
theorem jnL : Go.Proofs.Lays.n156 Tryz.prog jnR := {
  mixed := by kernel_rfl
  f156 := Tryz.func156.trans (congrArg some (by kernel_rfl))
  f165 := Tryz.func240.trans (congrArg some (by kernel_rfl))
  f166 := Tryz.func155.trans (congrArg some (by kernel_rfl))
  f169 := Tryz.func157.trans (congrArg some (by kernel_rfl))
  f240 := Tryz.func239.trans (congrArg some (by kernel_rfl))
  f241 := Tryz.func271.trans (congrArg some (by kernel_rfl))
  f276 := Tryz.func270.trans (congrArg some (by kernel_rfl))
  f277 := Tryz.func304.trans (congrArg some (by kernel_rfl))
  t0 := Tryz.underlying0
  a0 := Tryz.isAgg0
  z0 := Tryz.sizeOf0
  v0 := Tryz.zeroValue0
  t3 := Tryz.underlying3
  a3 := Tryz.isAgg3
  z3 := Tryz.sizeOf3
  v3 := Tryz.zeroValue3
  t4 := Tryz.underlying4
  a4 := Tryz.isAgg4
  z4 := Tryz.sizeOf4
  v4 := Tryz.zeroValue4
  t9 := Tryz.underlying9
  a9 := Tryz.isAgg9
  z9 := Tryz.sizeOf9
  v9 := Tryz.zeroValue9
  t20 := Tryz.underlying20
  a20 := Tryz.isAgg20
  z20 := Tryz.sizeOf20
  v20 := Tryz.zeroValue20
  t31 := Tryz.underlying238
  a31 := Tryz.isAgg238
  z31 := Tryz.sizeOf238
  v31 := Tryz.zeroValue238
  t37 := Tryz.underlying235
  a37 := Tryz.isAgg235
  z37 := Tryz.sizeOf235
  v37 := Tryz.zeroValue235
  t70 := Tryz.underlying234
  a70 := Tryz.isAgg234
  z70 := Tryz.sizeOf234
  v70 := Tryz.zeroValue234
  t72 := Tryz.underlying237
  a72 := Tryz.isAgg237
  z72 := Tryz.sizeOf237
  v72 := Tryz.zeroValue237
  t75 := Tryz.underlying245
  a75 := Tryz.isAgg245
  z75 := Tryz.sizeOf245
  v75 := Tryz.zeroValue245
  t76 := Tryz.underlying246
  a76 := Tryz.isAgg246
  z76 := Tryz.sizeOf246
  v76 := Tryz.zeroValue246
  t127 := Tryz.underlying310
  a127 := Tryz.isAgg310
  z127 := Tryz.sizeOf310
  v127 := Tryz.zeroValue310
  t164 := Tryz.underlying346
  a164 := Tryz.isAgg346
  z164 := Tryz.sizeOf346
  v164 := Tryz.zeroValue346 }
theorem stL : Go.Proofs.Lays.n169 Tryz.prog jnR := {
  mixed := by kernel_rfl
  f169 := Tryz.func157.trans (congrArg some (by kernel_rfl))
  t0 := Tryz.underlying0
  a0 := Tryz.isAgg0
  z0 := Tryz.sizeOf0
  v0 := Tryz.zeroValue0
  t3 := Tryz.underlying3
  a3 := Tryz.isAgg3
  z3 := Tryz.sizeOf3
  v3 := Tryz.zeroValue3
  t9 := Tryz.underlying9
  a9 := Tryz.isAgg9
  z9 := Tryz.sizeOf9
  v9 := Tryz.zeroValue9
  t37 := Tryz.underlying235
  a37 := Tryz.isAgg235
  z37 := Tryz.sizeOf235
  v37 := Tryz.zeroValue235
  t70 := Tryz.underlying234
  a70 := Tryz.isAgg234
  z70 := Tryz.sizeOf234
  v70 := Tryz.zeroValue234
  t72 := Tryz.underlying237
  a72 := Tryz.isAgg237
  z72 := Tryz.sizeOf237
  v72 := Tryz.zeroValue237
  t127 := Tryz.underlying310
  a127 := Tryz.isAgg310
  z127 := Tryz.sizeOf310
  v127 := Tryz.zeroValue310 }
theorem jnX : Builder.Extra Tryz.prog jnR := {
  sizeBuilder := by kernel_rfl
  liesBuilder := by kernel_rfl
  t5 := Tryz.underlying5
  a5 := Tryz.isAgg5
  z5 := Tryz.sizeOf5
  v5 := Tryz.zeroValue5
  infoByte := by kernel_rfl
  cellsByte := by kernel_rfl
  sizeByte := by kernel_rfl
  neB5 := by decide }
open Go.RowKit in
/-- A builder's text. -/
theorem string_any (B b : Nat) (l : List UInt8) (w : World) (h : Lib.IsBuilder 237 5 B b (Lib.byteCells l) w) (hBw : B ≤ w.heap.size) :
    Calls Tryz.prog 157 #[.pointer (some ⟨b, 0, none⟩)] w fun e w' => e = .returned (.string ⟨l.toArray⟩) ∧ Below B w w' := Any.Builder_String_any stL jnX B b l w h hBw
open Go.RowKit in
/-- Strings joined. -/
theorem join_any (bk o c : Nat) (xs : List ByteArray) (sep : ByteArray) (w : World)
    (hcells : ∀ (j : Nat) x, xs[j]? = some x → w.cell? ⟨bk, o + j, none⟩ = some (.string x))
    (hbk : bk < w.heap.size) (hN : xs.length ≤ 140737488355328) (hcap : xs.length ≤ c)
    (hlen : (Lib.join (xs.map (·.data.toList)) sep.data.toList).length ≤ 140737488355328) :
    Calls Tryz.prog 156 #[.slice (some ⟨bk, o, none⟩) xs.length c, .string sep] w fun e w' => e = .returned (.string ⟨(Lib.join (xs.map (·.data.toList)) sep.data.toList).toArray⟩) ∧ Below w.heap.size w w' := Any.strings_Join jnL jnX bk o c xs sep w hcells hbk hN hcap hlen
end Go.Proofs.YtnpboeodhpenmaaGreatDoor
