import Derived.Test.YtoedcefbmbfnhabDoorPkaa
import Derived.Laws.AppendOwn
import Derived.Deep.DeepCutAuto
/- A sheet, copied. -/
namespace Go.Proofs.YtoedcefbmbfnhabDoor
open Go.RowKit

theorem inf3 : (Tryd.prog.info? 3).map (fun i => (i.zero, i.size, i.bytes)) = some (some (.int .i64 0), 1, 8) := by kernel_rfl
theorem inf109 : (Tryd.prog.info? 73).map (fun i => (i.zero, i.size, i.bytes)) = some (some (.agg #[.int .i64 0, .int .i64 0, .int .i64 0, .int .i64 0, .int .i64 0]), 5, 40) := by kernel_rfl

/-- The four cells of a sheet. -/
def Sh (w : World) (g : Nat) (v0 v1 v2 v3 : Value) : Prop :=
  w.cell? ⟨g, 0, none⟩ = some v0 ∧ w.cell? ⟨g, 1, none⟩ = some v1 ∧ w.cell? ⟨g, 2, none⟩ = some v2 ∧ w.cell? ⟨g, 3, none⟩ = some v3
theorem Sh.kept {w wx : World} {g : Nat} {v0 v1 v2 v3 : Value} (h : Sh w g v0 v1 v2 v3) (hb : Below w.heap.size w wx) : Sh wx g v0 v1 v2 v3 :=
  ⟨cl_kept hb h.1, cl_kept hb h.2.1, cl_kept hb h.2.2.1, cl_kept hb h.2.2.2⟩
theorem Sh.lt {w : World} {g : Nat} {v0 v1 v2 v3 : Value} (h : Sh w g v0 v1 v2 v3) : g < w.heap.size := World.block_lt_of_cell? _ _ h.1

theorem row_at {w : World} {a : Option Addr} {zs : List Int} (h : Row w a zs) (hne : 0 < zs.length) : ∃ b off, a = some ⟨b, off, none⟩ ∧ ∀ j u, (zs.map (fun z => Value.int .i64 z))[j]? = some u → w.cell? ((⟨b, off, none⟩ : Addr).add j) = some u := by
  obtain ⟨b, off, rfl, _⟩ := h 0 hne
  refine ⟨b, off, rfl, fun j u hu => ?_⟩
  have hj : j < zs.length := by
    have := List.getElem?_eq_some_iff.1 hu
    simpa using this.1
  obtain ⟨b', off', e, hc⟩ := h j hj
  simp at e
  obtain ⟨rfl, rfl⟩ := e
  have hadd : (⟨b, off, none⟩ : Addr).add j = ⟨b, off + j, none⟩ := by unfold Addr.add; split <;> simp_all
  rw [hadd, hc]
  simp [hj] at hu
  rw [hu]

/-- Numbers in a row of memory that lies at a block or above. -/
def RowF (w : World) (base : Nat) (a : Option Addr) (zs : List Int) : Prop :=
  ∀ i (h : i < zs.length), ∃ b off, a = some ⟨b, off, none⟩ ∧ base ≤ b ∧ w.cell? ⟨b, off + i, none⟩ = some (.int .i64 zs[i])
theorem RowF.row {w : World} {base : Nat} {a : Option Addr} {zs : List Int} (h : RowF w base a zs) : Row w a zs := fun i hi => by
  obtain ⟨b, off, e, _, hc⟩ := h i hi
  exact ⟨b, off, e, hc⟩
theorem RowF.kept {w wx : World} {base : Nat} {a : Option Addr} {zs : List Int} (h : RowF w base a zs) (hb : Below w.heap.size w wx) : RowF wx base a zs := fun i hi => by
  obtain ⟨b, off, e, hl, hc⟩ := h i hi
  exact ⟨b, off, e, hl, cl_kept hb hc⟩
theorem set_far {w : World} {p a : Addr} {u v : Value} (h : w.cell? a = some v) (hne : a.block ≠ p.block) : (w.setCell p u).cell? a = some v := by
  have := World.cell?_of_block (w := w) (w' := w.setCell p u) (a := a) (Below.heap_setCell w p u a.block hne)
  exact this.trans h
theorem RowF.set {w : World} {base : Nat} {a : Option Addr} {zs : List Int} (h : RowF w base a zs) {p : Addr} {u : Value} (hp : p.block < base) : RowF (w.setCell p u) base a zs := fun i hi => by
  obtain ⟨b, off, e, hl, hc⟩ := h i hi
  exact ⟨b, off, e, hl, set_far hc (by dsimp only; omega)⟩
theorem RowF.low {w : World} {base base' : Nat} {a : Option Addr} {zs : List Int} (h : RowF w base a zs) (hl : base' ≤ base) : RowF w base' a zs := fun i hi => by
  obtain ⟨b, off, e, hb, hc⟩ := h i hi
  exact ⟨b, off, e, by omega, hc⟩

theorem own_row {w : World} {base : Nat} {e : TypeId} {size : Nat} {v : Value} {n : Nat} {zs : List Int} (h : w.ownsRow base e size v n (zs.map (fun z => Value.int .i64 z))) (hn : 0 < n) :
    ∃ g cap, v = .slice (some ⟨g, 0, none⟩) n cap ∧ base ≤ g ∧ RowF w base (some ⟨g, 0, none⟩) zs := by
  have hlen := h.1
  rcases h.2 with ⟨_, h0⟩ | ⟨g, cap, cur, hv, hb, _⟩
  · omega
  · subst hv
    refine ⟨g, cap, rfl, hb, fun i hi => ⟨g, 0, rfl, hb, ?_⟩⟩
    have := h.cellAt i (by simp at hlen; omega)
    simp [hi] at this
    simpa using this

theorem row_nil (w : World) (base : Nat) (a : Option Addr) : RowF w base a [] := fun i hi => by simp at hi

set_option maxHeartbeats 3200000 in
theorem sheetOf_any (W H : Int) (a b : Option Addr) (ca cb n : Nat) (zs ks : List Int) (w : World) (hz : Row w a zs) (hk : Row w b ks) (hn : ks.length = n * 5) (h1 : zs.length ≤ 17592186044416) (h2 : n ≤ 3518437208883) :
    Calls Tryd.prog 8 #[.agg #[.int .i64 W, .int .i64 H, .slice a zs.length ca, .slice b n cb]] w fun e w' => ∃ a' ca' b' cb', e = .returned (.agg #[.int .i64 W, .int .i64 H, .slice a' zs.length ca', .slice b' n cb']) ∧ RowF w' w.heap.size a' zs ∧ RowF w' w.heap.size b' ks ∧ Below w.heap.size w w' := by
  have HZ : Hid (Row w a zs) := hz
  have HK : Hid (Row w b ks) := hk
  have HN : Hid (ks.length = n * 5) := hn
  obtain ⟨i3, hi3, hz0, hz1, hz2⟩ := info_parts inf3
  obtain ⟨i9, hi9, hy0, hy1, hy2⟩ := info_parts inf109
  have HI3 : Hid (Tryd.prog.info? 3 = some i3 ∧ i3.zero = some (.int .i64 0) ∧ i3.size = 1 ∧ i3.bytes = 8) := ⟨hi3, hz0, hz1, hz2⟩
  have HI9 : Hid (Tryd.prog.info? 73 = some i9 ∧ i9.zero = some (.agg #[.int .i64 0, .int .i64 0, .int .i64 0, .int .i64 0, .int .i64 0]) ∧ i9.size = 5 ∧ i9.bytes = 40) := ⟨hi9, hy0, hy1, hy2⟩
  clear hz hk hi3 hz0 hz1 hz2 hi9 hy0 hy1 hy2 hn
  have b0 : Below w.heap.size w ((w.alloc (.cells #[.int .i64 W, .int .i64 H, .slice a zs.length ca, .slice b n cb] 25)).alloc (.cells #[.int .i64 0, .int .i64 0, .slice none 0 0, .slice none 0 0] 25)) := bl_alloc (bl_alloc (bl_refl _))
  have HB0 : Hid (Below w.heap.size w ((w.alloc (.cells #[.int .i64 W, .int .i64 H, .slice a zs.length ca, .slice b n cb] 25)).alloc (.cells #[.int .i64 0, .int .i64 0, .slice none 0 0, .slice none 0 0] 25))) := b0
  clear b0
  go_enter Tryd.func8, Tryd.ntmps8
  go_upto_region 1 with fail
  go_cut [] (fun wx => ∃ a' ca', Sh wx w.heap.size (.int .i64 W) (.int .i64 H) (.slice a' zs.length ca') (.slice b n cb) ∧ Fr wx w.heap.size ∧ Sh wx (w.heap.size + 1) (.int .i64 0) (.int .i64 0) (.slice none 0 0) (.slice none 0 0) ∧ Fr wx (w.heap.size + 1) ∧ RowF wx (w.heap.size + 1 + 1) a' zs ∧ Below w.heap.size w wx)
  case first =>
    by_cases he : zs.length = 0
    · have hzz : zs = [] := List.eq_nil_of_length_eq_zero he
      subst hzz
      go_wp2_with (at_builtin; refine wpList_append_nothing _ rfl (.const (.slice none 0 0)) (.tmp 4) 22 rfl 3 i3 Tryd.underlying22 HI3.out.1 a ca rfl rfl ?_)
      go_meet
      case rel =>
        refine ⟨none, 0, ⟨?_, ?_, ?_, ?_⟩, ?_, ⟨?_, ?_, ?_, ?_⟩, ?_, row_nil _ _ _, ?_⟩
        · simp [go_sem]
        · simp [go_sem]
        · simp [go_sem]
        · simp [go_sem]
        · simp [Fr, go_sem]
        · simp [go_sem]
        · simp [go_sem]
        · simp [go_sem]
        · simp [go_sem]
        · simp [Fr, go_sem]
        · with_reducible repeat' (first | exact bl_refl _ | refine bl_set ?_ ?_ | refine bl_alloc ?_)
          all_goals (first | omega | (dsimp only; omega))
    · obtain ⟨ba, off, rfl, hc⟩ := row_at (HZ.out.kept HB0.out) (by omega)
      have HC : Hid (∀ j u, (zs.map (fun z => Value.int .i64 z))[j]? = some u → ((w.alloc (.cells #[.int .i64 W, .int .i64 H, .slice (some ⟨ba, off, none⟩) zs.length ca, .slice b n cb] 25)).alloc (.cells #[.int .i64 0, .int .i64 0, .slice none 0 0, .slice none 0 0] 25)).cell? ((⟨ba, off, none⟩ : Addr).add j) = some u) := hc
      clear hc
      go_wp2_with (at_builtin; refine wpList_append_grows _ rfl (.const (.slice none 0 0)) (.tmp 4) 22 rfl 3 i3 (.int .i64 0) 1 8 Tryd.underlying22 HI3.out.1 HI3.out.2.1 HI3.out.2.2.1 HI3.out.2.2.2 rfl (by decide) none 0 0 [] rfl (fun _ => ⟨rfl, rfl⟩) rfl (by intro _ h; simp at h) ⟨ba, off, none⟩ zs.length ca (zs.map (fun z => Value.int .i64 z)) rfl (by simp) (by intro j u hu; exact HC.out j u hu) (by intro u hu; obtain ⟨z, _, rfl⟩ := List.mem_map.1 hu; rfl) (by omega) (by unfold maxLen; omega) (by omega) ?grow)
      case grow =>
        intro v' w' hown hgrow
        have hbel : Below ((w.alloc (.cells #[.int .i64 W, .int .i64 H, .slice (some ⟨ba, off, none⟩) zs.length ca, .slice b n cb] 25)).alloc (.cells #[.int .i64 0, .int .i64 0, .slice none 0 0, .slice none 0 0] 25)).heap.size ((w.alloc (.cells #[.int .i64 W, .int .i64 H, .slice (some ⟨ba, off, none⟩) zs.length ca, .slice b n cb] 25)).alloc (.cells #[.int .i64 0, .int .i64 0, .slice none 0 0, .slice none 0 0] 25)) w' := (Below.refl _ _).grown hgrow (Nat.le_refl _) (fun k h => by cases h)
        obtain ⟨g, cap', rfl, hg, hrow⟩ := own_row (by simpa using hown) (by omega)
        have HR : Hid (RowF w' (w.heap.size + 1 + 1) (some ⟨g, 0, none⟩) zs) := hrow.low (by simp)
        have HB : Hid (Below w.heap.size w w') := bl_via HB0.out hbel
        have s0 : w'.cell? ⟨w.heap.size, 0, none⟩ = some (.int .i64 W) := cl_kept hbel (by simp [go_sem])
        have s1 : w'.cell? ⟨w.heap.size, 1, none⟩ = some (.int .i64 H) := cl_kept hbel (by simp [go_sem])
        have s2 : w'.cell? ⟨w.heap.size, 2, none⟩ = some (.slice (some ⟨ba, off, none⟩) zs.length ca) := cl_kept hbel (by simp [go_sem])
        have s3 : w'.cell? ⟨w.heap.size, 3, none⟩ = some (.slice b n cb) := cl_kept hbel (by simp [go_sem])
        have sf0 : w'.frozen? ⟨w.heap.size, 0, none⟩ = false := (hbel.frozen (p := ⟨w.heap.size, 0, none⟩) (by simp <;> omega)).trans (by simp [go_sem])
        have sf1 : w'.frozen? ⟨w.heap.size, 1, none⟩ = false := (hbel.frozen (p := ⟨w.heap.size, 1, none⟩) (by simp <;> omega)).trans (by simp [go_sem])
        have sf2 : w'.frozen? ⟨w.heap.size, 2, none⟩ = false := (hbel.frozen (p := ⟨w.heap.size, 2, none⟩) (by simp <;> omega)).trans (by simp [go_sem])
        have sf3 : w'.frozen? ⟨w.heap.size, 3, none⟩ = false := (hbel.frozen (p := ⟨w.heap.size, 3, none⟩) (by simp <;> omega)).trans (by simp [go_sem])
        have sf4 : w'.frozen? ⟨w.heap.size, 4, none⟩ = false := (hbel.frozen (p := ⟨w.heap.size, 4, none⟩) (by simp <;> omega)).trans (by simp [go_sem])
        have sf5 : w'.frozen? ⟨w.heap.size, 5, none⟩ = false := (hbel.frozen (p := ⟨w.heap.size, 5, none⟩) (by simp <;> omega)).trans (by simp [go_sem])
        have r0 : w'.cell? ⟨w.heap.size + 1, 0, none⟩ = some (.int .i64 0) := cl_kept hbel (by simp [go_sem])
        have r1 : w'.cell? ⟨w.heap.size + 1, 1, none⟩ = some (.int .i64 0) := cl_kept hbel (by simp [go_sem])
        have r2 : w'.cell? ⟨w.heap.size + 1, 2, none⟩ = some (.slice none 0 0) := cl_kept hbel (by simp [go_sem])
        have r3 : w'.cell? ⟨w.heap.size + 1, 3, none⟩ = some (.slice none 0 0) := cl_kept hbel (by simp [go_sem])
        have rf0 : w'.frozen? ⟨w.heap.size + 1, 0, none⟩ = false := (hbel.frozen (p := ⟨w.heap.size + 1, 0, none⟩) (by simp <;> omega)).trans (by simp [go_sem])
        have rf1 : w'.frozen? ⟨w.heap.size + 1, 1, none⟩ = false := (hbel.frozen (p := ⟨w.heap.size + 1, 1, none⟩) (by simp <;> omega)).trans (by simp [go_sem])
        have rf2 : w'.frozen? ⟨w.heap.size + 1, 2, none⟩ = false := (hbel.frozen (p := ⟨w.heap.size + 1, 2, none⟩) (by simp <;> omega)).trans (by simp [go_sem])
        have rf3 : w'.frozen? ⟨w.heap.size + 1, 3, none⟩ = false := (hbel.frozen (p := ⟨w.heap.size + 1, 3, none⟩) (by simp <;> omega)).trans (by simp [go_sem])
        have rf4 : w'.frozen? ⟨w.heap.size + 1, 4, none⟩ = false := (hbel.frozen (p := ⟨w.heap.size + 1, 4, none⟩) (by simp <;> omega)).trans (by simp [go_sem])
        have rf5 : w'.frozen? ⟨w.heap.size + 1, 5, none⟩ = false := (hbel.frozen (p := ⟨w.heap.size + 1, 5, none⟩) (by simp <;> omega)).trans (by simp [go_sem])
        have zs0 : w.heap.size < w'.heap.size := World.block_lt_of_cell? _ _ s0
        have zr0 : w.heap.size + 1 < w'.heap.size := World.block_lt_of_cell? _ _ r0
        have zg0 : w.heap.size + 1 < g := by first | omega | (simp at hg; omega)
        clear hbel hrow hown hgrow hg HC
        go_wp2
        go_meet
        case rel =>
          refine ⟨some ⟨g, 0, none⟩, cap', ⟨?_, ?_, ?_, ?_⟩, ?_, ⟨?_, ?_, ?_, ?_⟩, ?_, ?_, ?_⟩
          · simp [go_sem, s0]
          · simp [go_sem, s1]
          · simp [go_sem, s2]
          · simp [go_sem, s3]
          · simp [Fr, go_sem, sf0, sf1, sf2, sf3, sf4, sf5]
          · simp [go_sem, r0]
          · simp [go_sem, r1]
          · simp [go_sem, r2]
          · simp [go_sem, r3]
          · simp [Fr, go_sem, rf0, rf1, rf2, rf3, rf4, rf5]
          · exact HR.out.set (by dsimp only; omega)
          · exact bl_set HB.out (by dsimp only; omega)
  case rest =>
    obtain ⟨a', ca', ⟨s0, s1, s2, s3⟩, ⟨sf0, sf1, sf2, sf3, sf4, sf5⟩, ⟨r0, r1, r2, r3⟩, ⟨rf0, rf1, rf2, rf3, rf4, rf5⟩, hRow, hB⟩ := hcut
    have HR : Hid (RowF wc (w.heap.size + 1 + 1) a' zs) := hRow
    have HB : Hid (Below w.heap.size w wc) := hB
    have zs0 : w.heap.size < wc.heap.size := World.block_lt_of_cell? _ _ s0
    have zr0 : w.heap.size + 1 < wc.heap.size := World.block_lt_of_cell? _ _ r0
    have HKc : Hid (Row wc b ks) := HK.out.kept hB
    clear hRow hB HB0
    by_cases he : n = 0
    · have hkk : ks = [] := List.eq_nil_of_length_eq_zero (by rw [HN.out, he])
      subst hkk he
      go_wp2_with (at_builtin; refine wpList_append_nothing _ rfl (.const (.slice none 0 0)) (.tmp 8) 23 rfl 73 i9 Tryd.underlying23 HI9.out.1 b cb rfl rfl ?_)
      refine bodyPost_ret (v := .agg #[.int .i64 W, .int .i64 H, .slice a' zs.length ca', .slice none 0 0]) ?_ rfl ⟨a', ca', none, 0, rfl, ?_, row_nil _ _ _, ?_⟩
      · simp [results, Tryd.results8, go_sem, *]
      · have h5 := HR.out.low (base' := w.heap.size + 1 + 1) (Nat.le_refl _)
        refine RowF.low (base := w.heap.size + 1 + 1) ?_ (by omega)
        with_reducible repeat' (first | exact h5 | refine RowF.set ?_ ?_ | omega | (dsimp only; omega))
      · with_reducible repeat' (first | exact HB.out | refine bl_set ?_ ?_)
        all_goals (first | omega | (dsimp only; omega))
    · obtain ⟨bb, off, rfl, hc⟩ := row_at HKc.out (by rw [HN.out]; omega)
      have HC : Hid (∀ j u, (ks.map (fun z => Value.int .i64 z))[j]? = some u → wc.cell? ((⟨bb, off, none⟩ : Addr).add j) = some u) := hc
      clear hc
      go_wp2_with (at_builtin; refine wpList_append_grows _ rfl (.const (.slice none 0 0)) (.tmp 8) 23 rfl 73 i9 (.agg #[.int .i64 0, .int .i64 0, .int .i64 0, .int .i64 0, .int .i64 0]) 5 40 Tryd.underlying23 HI9.out.1 HI9.out.2.1 HI9.out.2.2.1 HI9.out.2.2.2 rfl (by decide) none 0 0 [] rfl (fun _ => ⟨rfl, rfl⟩) rfl (by intro _ h; simp at h) ⟨bb, off, none⟩ n cb (ks.map (fun z => Value.int .i64 z)) rfl (by rw [List.length_map]; exact HN.out) (by intro j u hu; exact HC.out j u hu) (by intro u hu; obtain ⟨z, _, rfl⟩ := List.mem_map.1 hu; rfl) (by omega) (by unfold maxLen; omega) (by omega) ?grow)
      case grow =>
        intro v' w' hown hgrow
        have hbel : Below wc.heap.size wc w' := (Below.refl _ _).grown hgrow (Nat.le_refl _) (fun k h => by cases h)
        obtain ⟨g, cap', rfl, hg, hrow⟩ := own_row (n := n) (by simpa using hown) (by omega)
        have HR2 : Hid (RowF w' (w.heap.size + 1 + 1) (some ⟨g, 0, none⟩) ks) := hrow.low (by omega)
        have HR1 : Hid (RowF w' (w.heap.size + 1 + 1) a' zs) := HR.out.kept hbel
        have HB2 : Hid (Below w.heap.size w w') := bl_via HB.out hbel
        have s0' : w'.cell? ⟨w.heap.size, 0, none⟩ = some (.int .i64 W) := cl_kept hbel s0
        have s1' : w'.cell? ⟨w.heap.size, 1, none⟩ = some (.int .i64 H) := cl_kept hbel s1
        have s2' : w'.cell? ⟨w.heap.size, 2, none⟩ = some (.slice a' zs.length ca') := cl_kept hbel s2
        have s3' : w'.cell? ⟨w.heap.size, 3, none⟩ = some (.slice (some ⟨bb, off, none⟩) n cb) := cl_kept hbel s3
        have sf0' : w'.frozen? ⟨w.heap.size, 0, none⟩ = false := (hbel.frozen (p := ⟨w.heap.size, 0, none⟩) (by dsimp only; omega)).trans sf0
        have sf1' : w'.frozen? ⟨w.heap.size, 1, none⟩ = false := (hbel.frozen (p := ⟨w.heap.size, 1, none⟩) (by dsimp only; omega)).trans sf1
        have sf2' : w'.frozen? ⟨w.heap.size, 2, none⟩ = false := (hbel.frozen (p := ⟨w.heap.size, 2, none⟩) (by dsimp only; omega)).trans sf2
        have sf3' : w'.frozen? ⟨w.heap.size, 3, none⟩ = false := (hbel.frozen (p := ⟨w.heap.size, 3, none⟩) (by dsimp only; omega)).trans sf3
        have r0' : w'.cell? ⟨w.heap.size + 1, 0, none⟩ = some (.int .i64 0) := cl_kept hbel r0
        have r1' : w'.cell? ⟨w.heap.size + 1, 1, none⟩ = some (.int .i64 0) := cl_kept hbel r1
        have r2' : w'.cell? ⟨w.heap.size + 1, 2, none⟩ = some (.slice none 0 0) := cl_kept hbel r2
        have r3' : w'.cell? ⟨w.heap.size + 1, 3, none⟩ = some (.slice none 0 0) := cl_kept hbel r3
        have rf0' : w'.frozen? ⟨w.heap.size + 1, 0, none⟩ = false := (hbel.frozen (p := ⟨w.heap.size + 1, 0, none⟩) (by dsimp only; omega)).trans rf0
        have rf1' : w'.frozen? ⟨w.heap.size + 1, 1, none⟩ = false := (hbel.frozen (p := ⟨w.heap.size + 1, 1, none⟩) (by dsimp only; omega)).trans rf1
        have rf2' : w'.frozen? ⟨w.heap.size + 1, 2, none⟩ = false := (hbel.frozen (p := ⟨w.heap.size + 1, 2, none⟩) (by dsimp only; omega)).trans rf2
        have rf3' : w'.frozen? ⟨w.heap.size + 1, 3, none⟩ = false := (hbel.frozen (p := ⟨w.heap.size + 1, 3, none⟩) (by dsimp only; omega)).trans rf3
        have zs1 : w.heap.size < w'.heap.size := World.block_lt_of_cell? _ _ s0'
        have zr1 : w.heap.size + 1 < w'.heap.size := World.block_lt_of_cell? _ _ r0'
        clear hbel hrow hown hgrow hg HC HR HB HKc
        go_wp2
        refine bodyPost_ret (v := .agg #[.int .i64 W, .int .i64 H, .slice a' zs.length ca', .slice (some ⟨g, 0, none⟩) n cap']) ?_ rfl ⟨a', ca', some ⟨g, 0, none⟩, cap', rfl, ?_, ?_, ?_⟩
        · simp [results, Tryd.results8, go_sem, *]
        · have h5 := HR1.out.low (base' := w.heap.size + 1 + 1) (Nat.le_refl _)
          refine RowF.low (base := w.heap.size + 1 + 1) ?_ (by omega)
          with_reducible repeat' (first | exact h5 | refine RowF.set ?_ ?_ | omega | (dsimp only; omega))
        · have h5 := HR2.out.low (base' := w.heap.size + 1 + 1) (Nat.le_refl _)
          refine RowF.low (base := w.heap.size + 1 + 1) ?_ (by omega)
          with_reducible repeat' (first | exact h5 | refine RowF.set ?_ ?_ | omega | (dsimp only; omega))
        · with_reducible repeat' (first | exact HB2.out | refine bl_set ?_ ?_)
          all_goals (first | omega | (dsimp only; omega))
end Go.Proofs.YtoedcefbmbfnhabDoor

/- A sheet's triangles, in order: the reference's way. -/
namespace Go.Proofs.YtoedcefbmbfnhabDoor
open Go.RowKit

/-- Is a triangle there, by a sheet's numbers? -/
def bitAt (zs : List Int) (W x y k : Nat) : Bool := bitB (zs.getD (y * W + x) 0) k
/-- The triangles of a cell, of a row, of some rows. -/
def tk (zs : List Int) (W x y n : Nat) : List (Int × Int × Int) := ((List.range n).filter (fun k => bitAt zs W x y k)).map (fun (k : Nat) => ((x : Int), (y : Int), (k : Int)))
def tx (zs : List Int) (W y n : Nat) : List (Int × Int × Int) := (List.range n).flatMap (fun x => tk zs W x y 4)
def ty (zs : List Int) (W n : Nat) : List (Int × Int × Int) := (List.range n).flatMap (fun y => tx zs W y W)
theorem tk_zero (zs : List Int) (W x y : Nat) : tk zs W x y 0 = [] := by simp [tk]
theorem tx_zero (zs : List Int) (W y : Nat) : tx zs W y 0 = [] := by simp [tx]
theorem tk_yes {zs : List Int} {W x y n : Nat} (h : bitAt zs W x y n = true) : tk zs W x y (n + 1) = tk zs W x y n ++ [((x : Int), (y : Int), (n : Int))] := by
  simp [tk, List.range_succ, List.filter_append, h]
theorem tk_no {zs : List Int} {W x y n : Nat} (h : bitAt zs W x y n = false) : tk zs W x y (n + 1) = tk zs W x y n := by
  simp [tk, List.range_succ, List.filter_append, h]
theorem tx_succ (zs : List Int) (W y n : Nat) : tx zs W y (n + 1) = tx zs W y n ++ tk zs W n y 4 := by
  simp [tx, List.range_succ, List.flatMap_append]
theorem ty_succ (zs : List Int) (W n : Nat) : ty zs W (n + 1) = ty zs W n ++ tx zs W n W := by
  simp [ty, List.range_succ, List.flatMap_append]
theorem tk_len (zs : List Int) (W x y n : Nat) : (tk zs W x y n).length ≤ n := by
  unfold tk
  rw [List.length_map]
  exact Nat.le_trans (List.length_filter_le _ _) (by simp)
theorem tx_len (zs : List Int) (W y n : Nat) : (tx zs W y n).length ≤ 4 * n := by
  induction n with
  | zero => simp [tx]
  | succ n ih =>
    rw [tx_succ, List.length_append]
    have := tk_len zs W n y 4
    omega
theorem ty_len (zs : List Int) (W n : Nat) (hW : W ≤ 8) : (ty zs W n).length ≤ 32 * n := by
  induction n with
  | zero => simp [ty]
  | succ n ih =>
    rw [ty_succ, List.length_append]
    have := tx_len zs W n W
    omega

/-- Triangles, number by number. -/
def flatV (l : List (Int × Int × Int)) : List Value := l.flatMap fun t => [.int .i64 t.1, .int .i64 t.2.1, .int .i64 t.2.2]
theorem flatV_add (l m : List (Int × Int × Int)) : flatV (l ++ m) = flatV l ++ flatV m := by simp [flatV, List.flatMap_append]

theorem cell_three_new (w : World) (a b c : Int) : ∀ j u, ([Value.int .i64 a, .int .i64 b, .int .i64 c])[j]? = some u → (w.alloc (.cells #[.int .i64 a, .int .i64 b, .int .i64 c] 79)).cell? ((⟨w.heap.size, 0, none⟩ : Addr).add j) = some u := by
  intro j u hu
  match j, hu with
  | 0, hu => simp at hu; subst hu; simp [go_sem, Addr.add]
  | 1, hu => simp at hu; subst hu; simp [go_sem, Addr.add]
  | 2, hu => simp at hu; subst hu; simp [go_sem, Addr.add]

theorem own_below {w w' : World} {base : Nat} {e : TypeId} {size : Nat} {v : Value} {n : Nat} {xs : List Value} (h : w.ownsRow base e size v n xs) (hb : Below w.heap.size w w') : w'.ownsRow base e size v n xs := by
  refine ⟨h.1, ?_⟩
  rcases h.2 with ⟨h1, h2⟩ | ⟨g, cap, cur, h1, h2, h3, h4⟩
  · exact .inl ⟨h1, h2⟩
  · refine .inr ⟨g, cap, cur, h1, h2, ?_, h4⟩
    have hg : g < w.heap.size := by
      rcases Nat.lt_or_ge g w.heap.size with h | h
      · exact h
      · rw [Array.getElem?_eq_none h] at h3; cases h3
    rw [hb.block g hg]
    exact h3
theorem own_base {w : World} {base : Nat} {e : TypeId} {size : Nat} {v : Value} {n : Nat} {xs : List Value} (h : w.ownsRow base e size v n xs) : ∀ k, v.ownBlock = some k → base ≤ k := by
  intro k hk
  rcases h.2 with ⟨rfl, _⟩ | ⟨g, cap, cur, rfl, h2, _⟩
  · simp [Value.ownBlock] at hk
  · simp [Value.ownBlock] at hk
    omega

/-- What TrisOf keeps in memory: the sheet, the triangles so far. -/
def TI (w wx : World) (W H b off cap : Nat) (zs : List Int) (c v : Value) (L : List (Int × Int × Int)) : Prop :=
  wx.ownsRow (w.heap.size + 1) 79 3 v L.length (flatV L) ∧ Sh wx w.heap.size (.int .i64 (W : Int)) (.int .i64 (H : Int)) (.slice (some ⟨b, off, none⟩) zs.length cap) c ∧ Below w.heap.size w wx ∧ w.heap.size + 1 ≤ wx.heap.size
theorem inf23 : (Tryd.prog.info? 79).map (fun i => (i.zero, i.size, i.bytes)) = some (some (.agg #[.int .i64 0, .int .i64 0, .int .i64 0]), 3, 24) := by kernel_rfl
theorem TI.kept {w wr wx : World} {W H b off cap : Nat} {zs : List Int} {c v : Value} {L : List (Int × Int × Int)} (h : TI w wr W H b off cap zs c v L) (hb : Below wr.heap.size wr wx) : TI w wx W H b off cap zs c v L :=
  ⟨own_below h.1 hb, h.2.1.kept hb, bl_via h.2.2.1 hb, Nat.le_trans h.2.2.2 hb.size⟩

set_option maxRecDepth 100000 in
set_option maxHeartbeats 3200000 in
theorem trisOf_any (W H b off cap : Nat) (zs : List Int) (c : Value) (w : World) (hr : Row w (some ⟨b, off, none⟩) zs) (hW : 1 ≤ W ∧ W ≤ 8) (hH : 1 ≤ H ∧ H ≤ 8) (hl : zs.length = W * H) (hm : maskB zs = true) :
    Calls Tryd.prog 29 #[.agg #[.int .i64 (W : Int), .int .i64 (H : Int), .slice (some ⟨b, off, none⟩) zs.length cap, c]] w fun e w' => ∃ v, e = .returned v ∧ w'.ownsRow (w.heap.size + 1) 79 3 v (ty zs W H).length (flatV (ty zs W H)) ∧ Below w.heap.size w w' := by
  have HR : Hid (Row w (some ⟨b, off, none⟩) zs) := hr
  have h64 : zs.length ≤ 64 := by rw [hl]; exact Nat.le_trans (Nat.mul_le_mul hW.2 hH.2) (by decide)
  have HM : Hid (∀ z ∈ zs, 0 ≤ z ∧ z ≤ 15) := by
    show ∀ z ∈ zs, 0 ≤ z ∧ z ≤ 15
    simpa [maskB] using hm
  have HL : Hid (zs.length = W * H) := hl
  obtain ⟨i0, hi, hz0, hz1, hz2⟩ := info_parts inf23
  have HI : Hid (Tryd.prog.info? 79 = some i0 ∧ i0.zero = some (.agg #[.int .i64 0, .int .i64 0, .int .i64 0]) ∧ i0.size = 3 ∧ i0.bytes = 24) := ⟨hi, hz0, hz1, hz2⟩
  clear hr hm hl hi hz0 hz1 hz2
  obtain ⟨w1, w8⟩ := hW
  obtain ⟨h1, h8⟩ := hH
  go_enter Tryd.func29, Tryd.ntmps29
  go_wp2
  go_loopg [3, 4] H (fun g s3 s4 wx => ∃ y : Nat, y ≤ H ∧ g = H - y ∧ s4 = .int .i64 (y : Int) ∧ TI w wx W H b off cap zs c (s3) (ty zs W y))
  case atStart => exact ⟨0, by omega, rfl, rfl, by simpa [ty, flatV] using World.ownsRow_nil _ _ _ _, by simp [Sh, go_sem], bl_alloc (bl_refl _), by simp⟩
  case round =>
    obtain ⟨y, hy, rfl, rfl, hT⟩ := hrel
    obtain ⟨va, hva⟩ : ∃ u, u = u3 := ⟨_, rfl⟩
    subst hva
    have HT : Hid (TI w wr W H b off cap zs c (va) (ty zs W y)) := hT
    clear hT
    obtain ⟨p0, p1, p2, p3⟩ := HT.out.2.1
    by_cases hy1 : y < H
    · have iy : (y : Int) < (H : Int) := by omega
      go_wp2
      go_loopg [3, 5] W (fun g s3 s5 wx => ∃ x : Nat, x ≤ W ∧ g = W - x ∧ s5 = .int .i64 (x : Int) ∧ TI w wx W H b off cap zs c (s3) (ty zs W y ++ tx zs W y x))
      case atStart => exact ⟨0, by omega, rfl, rfl, by rw [tx_zero, List.append_nil]; exact HT.out⟩
      case round =>
        clear HT p0 p1 p2 p3
        obtain ⟨x, hx, rfl, rfl, hT⟩ := hrel
        obtain ⟨vb, hvb⟩ : ∃ u, u = u3 := ⟨_, rfl⟩
        subst hvb
        have HT : Hid (TI w wr W H b off cap zs c (vb) (ty zs W y ++ tx zs W y x)) := hT
        clear hT
        obtain ⟨p0, p1, p2, p3⟩ := HT.out.2.1
        by_cases hx1 : x < W
        · have ix : (x : Int) < (W : Int) := by omega
          go_wp2
          go_loopg [3, 6] 4 (fun g s3 s6 wx => ∃ k : Nat, k ≤ 4 ∧ g = 4 - k ∧ s6 = .int .i64 (k : Int) ∧ TI w wx W H b off cap zs c (s3) (ty zs W y ++ tx zs W y x ++ tk zs W x y k))
          case atStart => exact ⟨0, by omega, rfl, rfl, by rw [tk_zero, List.append_nil]; exact HT.out⟩
          case round =>
            clear HT p0 p1 p2 p3
            obtain ⟨k, hk, rfl, rfl, hT⟩ := hrel
            obtain ⟨vc, hvc⟩ : ∃ u, u = u3 := ⟨_, rfl⟩
            subst hvc
            have HT : Hid (TI w wr W H b off cap zs c (vc) (ty zs W y ++ tx zs W y x ++ tk zs W x y k)) := hT
            clear hT
            obtain ⟨p0, p1, p2, p3⟩ := HT.out.2.1
            by_cases hk1 : k < 4
            · have ik : (k : Int) < 4 := by omega
              have hyw : y * W + W ≤ W * H := by
                have := Nat.mul_le_mul_right W (show y + 1 ≤ H by omega)
                rw [Nat.succ_mul, Nat.mul_comm H W] at this
                exact this
              have hm : y * W + x < zs.length := by rw [HL.out]; omega
              have hyw2 : y * W ≤ 64 := by have := HL.out; omega
              obtain ⟨b', off', e', hc⟩ := (HR.out.kept HT.out.2.2.1) (y * W + x) hm
              simp at e'
              obtain ⟨rfl, rfl⟩ := e'
              have hzb := HM.out _ (List.getElem_mem hm)
              have hbt : bitAt zs W x y k = bitB (zs[y * W + x]) k := by simp [bitAt, hm]
              obtain ⟨z, hz⟩ : ∃ z, z = zs[y * W + x] := ⟨_, rfl⟩
              rw [← hz] at hc hzb hbt
              have zz0 : w.heap.size < wr.heap.size := World.block_lt_of_cell? _ _ p0
              have zz1 : w.heap.size < wr.heap.size + 1 := by omega
              have HC : Hid (∀ W' : World, Below wr.heap.size wr W' → Calls Tryd.prog 59 #[.agg #[.int .i64 (W : Int), .int .i64 (H : Int), .slice (some ⟨b, off, none⟩) zs.length cap, c], .agg #[.int .i64 (x : Int), .int .i64 (y : Int), .int .i64 (k : Int)]] W' fun e w' => e = .returned (.bool (bitB z k)) ∧ Below W'.heap.size W' w') := fun W' hW' =>
                hasTri_in W H x y k z b off (y * W + x) cap zs c W' (by omega) (by omega) (by omega) (by omega) (by omega) (by simp) hm h64 (by constructor <;> (rw [← Int.natCast_mul]; omega)) (cl_kept hW' hc) hzb
              have HBT : Hid (bitAt zs W x y k = bitB z k) := hbt
              clear hc hzb hbt hz hm hyw hyw2
              cases hbit : bitB z k
              · go_wp2_with (go_at_call 59; refine (HC.out _ (by with_reducible exact bl_alloc (bl_refl _))).mono ?_; rintro e w2 ⟨rfl, hb⟩; have HT2 : Hid (TI w w2 W H b off cap zs c (vc) (ty zs W y ++ tx zs W y x ++ tk zs W x y k)) := HT.out.kept (bl_via (bl_alloc (bl_refl _)) hb); clear hb)
                go_roundg (4 - (k + 1))
                case measure => omega
                case rel => exact ⟨k + 1, by omega, rfl, by go_num, by rw [tk_no (HBT.out.trans hbit)]; exact HT2.out⟩
              · have hlen : (ty zs W y ++ tx zs W y x ++ tk zs W x y k).length + 1 ≤ 1000 := by
                  have q1 := ty_len zs W y w8
                  have q2 := tx_len zs W y x
                  have q3 := tk_len zs W x y k
                  simp only [List.length_append]
                  omega
                go_wp2_with (first
                  | (go_at_call 59; refine (HC.out _ (by with_reducible exact bl_alloc (bl_refl _))).mono ?_; rintro e w2 ⟨rfl, hb⟩; have HT2 : Hid (TI w w2 W H b off cap zs c (vc) (ty zs W y ++ tx zs W y x ++ tk zs W x y k)) := HT.out.kept (bl_via (bl_alloc (bl_refl _)) hb); have n0 : w2.cell? ⟨wr.heap.size, 0, none⟩ = some (.int .i64 (x : Int)) := cl_kept hb (by simp [go_sem]); have n1 : w2.cell? ⟨wr.heap.size, 1, none⟩ = some (.int .i64 (y : Int)) := cl_kept hb (by simp [go_sem]); have n2 : w2.cell? ⟨wr.heap.size, 2, none⟩ = some (.int .i64 (k : Int)) := cl_kept hb (by simp [go_sem]); have zn : wr.heap.size < w2.heap.size := World.block_lt_of_cell? _ _ n0; clear hb)
                  | (at_builtin; refine wpList_append_own _ rfl (.tmp 31) (.tmp 33) 37 rfl (w.heap.size + 1) 79 i0 (.agg #[.int .i64 0, .int .i64 0, .int .i64 0]) 3 24 Tryd.underlying37 HI.out.1 HI.out.2.1 HI.out.2.2.1 HI.out.2.2.2 rfl (by decide) vc (ty zs W y ++ tx zs W y x ++ tk zs W x y k).length (flatV (ty zs W y ++ tx zs W y x ++ tk zs W x y k)) rfl ?own ⟨w2.heap.size, 0, none⟩ 1 1 [.int .i64 (x : Int), .int .i64 (y : Int), .int .i64 (k : Int)] rfl rfl ?c1 ?c2 ?b1 ?b2 ?b3 ?grow))
                case own => exact own_below HT2.out.1 (bl_alloc (bl_refl _))
                case c1 => exact cell_three_new _ _ _ _
                case c2 =>
                  intro u hu
                  simp at hu
                  rcases hu with rfl | rfl | rfl <;> rfl
                case b1 =>
                  unfold maxLen
                  omega
                case b2 => omega
                case b3 =>
                  have := HT2.out.2.2.2
                  simp
                  omega
                case grow =>
                 intro v' w3 hown hgrow hnil
                 have hgb := Below.grown (Below.refl (w.heap.size + 1) _) hgrow (by have := HT2.out.2.2.2; simp; omega) (own_base HT2.out.1)
                 have ho : w3.ownsRow (w.heap.size + 1) 79 3 v' ((ty zs W y ++ tx zs W y x ++ tk zs W x y k).length + 1) (flatV (ty zs W y ++ tx zs W y x ++ tk zs W x y k) ++ [.int .i64 (x : Int), .int .i64 (y : Int), .int .i64 (k : Int)]) := by simpa [List.length_append, List.append_assoc, Nat.add_assoc] using hown
                 have HO : Hid (w3.ownsRow (w.heap.size + 1) 79 3 v' ((ty zs W y ++ tx zs W y x ++ tk zs W x y k).length + 1) (flatV (ty zs W y ++ tx zs W y x ++ tk zs W x y k) ++ [.int .i64 (x : Int), .int .i64 (y : Int), .int .i64 (k : Int)])) := ho
                 clear ho
                 have HG : Hid (Below (w.heap.size + 1) (w2.alloc (.cells #[.int .i64 (x : Int), .int .i64 (y : Int), .int .i64 (k : Int)] 79)) w3) := hgb
                 clear hown hgrow hnil hgb
                 go_wp2
                 go_roundg (4 - (k + 1))
                 case measure => omega
                 case rel =>
                   have hS : Sh (w2.alloc (.cells #[.int .i64 (x : Int), .int .i64 (y : Int), .int .i64 (k : Int)] 79)) w.heap.size (.int .i64 (W : Int)) (.int .i64 (H : Int)) (.slice (some ⟨b, off, none⟩) zs.length cap) c := HT2.out.2.1.kept (bl_alloc (bl_refl _))
                   have hB : Below w.heap.size w (w2.alloc (.cells #[.int .i64 (x : Int), .int .i64 (y : Int), .int .i64 (k : Int)] 79)) := bl_alloc HT2.out.2.2.1
                   have hE : ty zs W y ++ tx zs W y x ++ tk zs W x y (k + 1) = (ty zs W y ++ tx zs W y x ++ tk zs W x y k) ++ [((x : Int), (y : Int), (k : Int))] := by rw [tk_yes (HBT.out.trans hbit), ← List.append_assoc]
                   refine ⟨k + 1, by omega, rfl, by go_num, ?_, ⟨?_, ?_, ?_, ?_⟩, hB.trans (HG.out.mono (by omega)), ?_⟩
                   · rw [hE, flatV_add, List.length_append]
                     exact HO.out
                   · exact (HG.out.cell (p := ⟨w.heap.size, 0, none⟩) (by dsimp only; omega)).trans hS.1
                   · exact (HG.out.cell (p := ⟨w.heap.size, 1, none⟩) (by dsimp only; omega)).trans hS.2.1
                   · exact (HG.out.cell (p := ⟨w.heap.size, 2, none⟩) (by dsimp only; omega)).trans hS.2.2.1
                   · exact (HG.out.cell (p := ⟨w.heap.size, 3, none⟩) (by dsimp only; omega)).trans hS.2.2.2
                   · have q := HG.out.size
                     have q2 := HT2.out.2.2.2
                     simp at q
                     omega
            · go_wp2
              go_roundg (W - (x + 1))
              case measure => omega
              case rel =>
                obtain rfl : k = 4 := by omega
                exact ⟨x + 1, by omega, rfl, by go_num, by rw [tx_succ, ← List.append_assoc]; exact HT.out⟩
        · have ix : ¬ (x : Int) < (W : Int) := by omega
          go_wp2
          go_roundg (H - (y + 1))
          case measure => omega
          case rel =>
            obtain rfl : x = W := by omega
            exact ⟨y + 1, by omega, rfl, by go_num, by rw [ty_succ]; exact HT.out⟩
    · have iy : ¬ (y : Int) < (H : Int) := by omega
      obtain rfl : y = H := by omega
      go_wp2
      go_ret
      exact ⟨va, rfl, HT.out.1, HT.out.2.2.1⟩
end Go.Proofs.YtoedcefbmbfnhabDoor

/- Edges between two points: the grid's edge, the reference's LessPoint and EdgeOf. -/
namespace Go.Proofs.YtoedcefbmbfnhabDoor
open Go.RowKit

/-- By X, then Y. -/
def lessB (a b c d : Int) : Bool := decide (a < c ∨ (a = c ∧ b < d))

set_option maxHeartbeats 800000 in
theorem lessPoint_any (a b c d : Int) (w : World) :
    Calls Tryd.prog 57 #[.agg #[.int .i64 a, .int .i64 b], .agg #[.int .i64 c, .int .i64 d]] w fun r w' => r = .returned (.bool (lessB a b c d)) ∧ ∃ o1 o2, w' = (w.alloc o1).alloc o2 := by
  go_enter Tryd.func57, Tryd.ntmps57
  go_wp2
  all_goals
    go_ret
    exact ⟨ret_bool (by rw [Bool.eq_iff_iff]; simp_all [lessB] <;> omega), _, _, rfl⟩

set_option maxHeartbeats 800000 in
theorem edgeOf_turn (a b c d : Int) (w : World) (h : lessB c d a b = true) :
    Calls Tryd.prog 36 #[.agg #[.int .i64 a, .int .i64 b], .agg #[.int .i64 c, .int .i64 d]] w fun r w' => r = .returned (.agg #[.int .i64 c, .int .i64 d, .int .i64 a, .int .i64 b]) ∧ ∃ o1 o2 o3 o4 o5, w' = ((((w.alloc o1).alloc o2).alloc o3).alloc o4).alloc o5 := by
  go_enter Tryd.func36, Tryd.ntmps36
  go_wp2_with (go_at_call 57; refine (lessPoint_any _ _ _ _ _).mono ?_; rintro r w' ⟨rfl, o1, o2, rfl⟩)
  exact bodyPost_ret (v := .agg #[.int .i64 c, .int .i64 d, .int .i64 a, .int .i64 b]) (by simp [results, Tryd.results36, go_sem]) rfl ⟨rfl, _, _, _, _, _, rfl⟩

set_option maxHeartbeats 800000 in
theorem edgeOf_keep (a b c d : Int) (w : World) (h : lessB c d a b = false) :
    Calls Tryd.prog 36 #[.agg #[.int .i64 a, .int .i64 b], .agg #[.int .i64 c, .int .i64 d]] w fun r w' => r = .returned (.agg #[.int .i64 a, .int .i64 b, .int .i64 c, .int .i64 d]) ∧ ∃ o1 o2 o3 o4 o5, w' = ((((w.alloc o1).alloc o2).alloc o3).alloc o4).alloc o5 := by
  go_enter Tryd.func36, Tryd.ntmps36
  go_wp2_with (go_at_call 57; refine (lessPoint_any _ _ _ _ _).mono ?_; rintro r w' ⟨rfl, o1, o2, rfl⟩)
  exact bodyPost_ret (v := .agg #[.int .i64 a, .int .i64 b, .int .i64 c, .int .i64 d]) (by simp [results, Tryd.results36, go_sem]) rfl ⟨rfl, _, _, _, _, _, rfl⟩

set_option maxHeartbeats 1600000 in
theorem edge_any (a b c d : Int) (w : World) :
    Calls Tryd.prog 134 #[.agg #[.int .i64 a, .int .i64 b], .agg #[.int .i64 c, .int .i64 d]] w fun r w' => r = .returned (if lessB c d a b = true then .agg #[.int .i64 c, .int .i64 d, .int .i64 a, .int .i64 b] else .agg #[.int .i64 a, .int .i64 b, .int .i64 c, .int .i64 d]) ∧ ∃ o1 o2 o3, w' = ((w.alloc o1).alloc o2).alloc o3 := by
  by_cases h1 : c < a
  · have e : lessB c d a b = true := by simp [lessB, h1]
    rw [if_pos e]
    clear e
    go_enter Tryd.func134, Tryd.ntmps134
    go_wp2
    exact bodyPost_ret (v := .agg #[.int .i64 c, .int .i64 d, .int .i64 a, .int .i64 b]) (by simp [results, Tryd.results134, go_sem]) rfl ⟨rfl, _, _, _, rfl⟩
  by_cases h2 : c = a
  · subst h2
    by_cases h3 : d < b
    · have e : lessB c d c b = true := by simp [lessB, h3]
      rw [if_pos e]
      clear e
      go_enter Tryd.func134, Tryd.ntmps134
      go_wp2
      exact bodyPost_ret (v := .agg #[.int .i64 c, .int .i64 d, .int .i64 c, .int .i64 b]) (by simp [results, Tryd.results134, go_sem]) rfl ⟨rfl, _, _, _, rfl⟩
    · have e : ¬ lessB c d c b = true := by simp [lessB, h3]
      rw [if_neg e]
      clear e
      go_enter Tryd.func134, Tryd.ntmps134
      go_wp2
      exact bodyPost_ret (v := .agg #[.int .i64 c, .int .i64 b, .int .i64 c, .int .i64 d]) (by simp [results, Tryd.results134, go_sem]) rfl ⟨rfl, _, _, _, rfl⟩
  · have e : ¬ lessB c d a b = true := by simp [lessB, h1, h2]
    rw [if_neg e]
    clear e
    go_enter Tryd.func134, Tryd.ntmps134
    go_wp2
    exact bodyPost_ret (v := .agg #[.int .i64 a, .int .i64 b, .int .i64 c, .int .i64 d]) (by simp [results, Tryd.results134, go_sem]) rfl ⟨rfl, _, _, _, rfl⟩

/-- The four numbers of the edge between two points. -/
def eA (a b c d : Int) : Int := if lessB c d a b = true then c else a
def eB (a b c d : Int) : Int := if lessB c d a b = true then d else b
def eC (a b c d : Int) : Int := if lessB c d a b = true then a else c
def eD (a b c d : Int) : Int := if lessB c d a b = true then b else d

theorem edge_num (a b c d : Int) (w : World) :
    Calls Tryd.prog 134 #[.agg #[.int .i64 a, .int .i64 b], .agg #[.int .i64 c, .int .i64 d]] w fun r w' => r = .returned (.agg #[.int .i64 (eA a b c d), .int .i64 (eB a b c d), .int .i64 (eC a b c d), .int .i64 (eD a b c d)]) ∧ ∃ o1 o2 o3, w' = ((w.alloc o1).alloc o2).alloc o3 := by
  refine (edge_any a b c d w).mono ?_
  rintro r w' ⟨rfl, h⟩
  refine ⟨?_, h⟩
  cases e : lessB c d a b <;> simp [eA, eB, eC, eD, e]

theorem edgeOf_num (a b c d : Int) (w : World) :
    Calls Tryd.prog 36 #[.agg #[.int .i64 a, .int .i64 b], .agg #[.int .i64 c, .int .i64 d]] w fun r w' => r = .returned (.agg #[.int .i64 (eA a b c d), .int .i64 (eB a b c d), .int .i64 (eC a b c d), .int .i64 (eD a b c d)]) ∧ ∃ o1 o2 o3 o4 o5, w' = ((((w.alloc o1).alloc o2).alloc o3).alloc o4).alloc o5 := by
  cases e : lessB c d a b
  · refine (edgeOf_keep a b c d w e).mono ?_
    rintro r w' ⟨rfl, h⟩
    exact ⟨by simp [eA, eB, eC, eD, e], h⟩
  · refine (edgeOf_turn a b c d w e).mono ?_
    rintro r w' ⟨rfl, h⟩
    exact ⟨by simp [eA, eB, eC, eD, e], h⟩

end Go.Proofs.YtoedcefbmbfnhabDoor

/- The edges of a triangle: the grid's inner edges. -/
namespace Go.Proofs.YtoedcefbmbfnhabDoor
open Go.RowKit
attribute [local go_sem ↓] Go.wp_at_zero Go.wp_at_succ


set_option maxRecDepth 100000 in
set_option maxHeartbeats 3200000 in
theorem edges_any (x y k : Int) (w : World) (h : triB x y k = true) (hs : Steps w) :
    Calls Tryd.prog 126 #[.agg #[.int .i64 x, .int .i64 y, .int .i64 k]] w fun r w' => r = .returned (.agg #[
      .int .i64 (eA (2 * x + 1) (2 * y + 1) (c1x x k) (c1y y k)), .int .i64 (eB (2 * x + 1) (2 * y + 1) (c1x x k) (c1y y k)), .int .i64 (eC (2 * x + 1) (2 * y + 1) (c1x x k) (c1y y k)), .int .i64 (eD (2 * x + 1) (2 * y + 1) (c1x x k) (c1y y k)),
      .int .i64 (eA (c1x x k) (c1y y k) (c2x x k) (c2y y k)), .int .i64 (eB (c1x x k) (c1y y k) (c2x x k) (c2y y k)), .int .i64 (eC (c1x x k) (c1y y k) (c2x x k) (c2y y k)), .int .i64 (eD (c1x x k) (c1y y k) (c2x x k) (c2y y k)),
      .int .i64 (eA (c2x x k) (c2y y k) (2 * x + 1) (2 * y + 1)), .int .i64 (eB (c2x x k) (c2y y k) (2 * x + 1) (2 * y + 1)), .int .i64 (eC (c2x x k) (c2y y k) (2 * x + 1) (2 * y + 1)), .int .i64 (eD (c2x x k) (c2y y k) (2 * x + 1) (2 * y + 1))]) ∧ Below w.heap.size w w' := by
  have HS : Hid (Steps w) := hs
  clear hs
  go_enter Tryd.func126, Tryd.ntmps126
  go_wp2_with (go_at_call 81; refine (corners_any _ _ _ _ h (HS.out.kept (bl_alloc (bl_alloc (bl_refl _))))).mono ?_; rintro r w1 ⟨rfl, hb⟩; have r0 : w1.cell? ⟨w.heap.size + 1, 0, none⟩ = some (.int .i64 0) := cell_kept hb (by simp [go_sem]); have f0 : w1.frozen? ⟨w.heap.size + 1, 0, none⟩ = false := (hb.frozen (p := ⟨w.heap.size + 1, 0, none⟩) (by simp)).trans (by simp [go_sem]); have r1 : w1.cell? ⟨w.heap.size + 1, 1, none⟩ = some (.int .i64 0) := cell_kept hb (by simp [go_sem]); have f1 : w1.frozen? ⟨w.heap.size + 1, 1, none⟩ = false := (hb.frozen (p := ⟨w.heap.size + 1, 1, none⟩) (by simp)).trans (by simp [go_sem]); have r2 : w1.cell? ⟨w.heap.size + 1, 2, none⟩ = some (.int .i64 0) := cell_kept hb (by simp [go_sem]); have f2 : w1.frozen? ⟨w.heap.size + 1, 2, none⟩ = false := (hb.frozen (p := ⟨w.heap.size + 1, 2, none⟩) (by simp)).trans (by simp [go_sem]); have r3 : w1.cell? ⟨w.heap.size + 1, 3, none⟩ = some (.int .i64 0) := cell_kept hb (by simp [go_sem]); have f3 : w1.frozen? ⟨w.heap.size + 1, 3, none⟩ = false := (hb.frozen (p := ⟨w.heap.size + 1, 3, none⟩) (by simp)).trans (by simp [go_sem]); have r4 : w1.cell? ⟨w.heap.size + 1, 4, none⟩ = some (.int .i64 0) := cell_kept hb (by simp [go_sem]); have f4 : w1.frozen? ⟨w.heap.size + 1, 4, none⟩ = false := (hb.frozen (p := ⟨w.heap.size + 1, 4, none⟩) (by simp)).trans (by simp [go_sem]); have r5 : w1.cell? ⟨w.heap.size + 1, 5, none⟩ = some (.int .i64 0) := cell_kept hb (by simp [go_sem]); have f5 : w1.frozen? ⟨w.heap.size + 1, 5, none⟩ = false := (hb.frozen (p := ⟨w.heap.size + 1, 5, none⟩) (by simp)).trans (by simp [go_sem]); have r6 : w1.cell? ⟨w.heap.size + 1, 6, none⟩ = some (.int .i64 0) := cell_kept hb (by simp [go_sem]); have f6 : w1.frozen? ⟨w.heap.size + 1, 6, none⟩ = false := (hb.frozen (p := ⟨w.heap.size + 1, 6, none⟩) (by simp)).trans (by simp [go_sem]); have r7 : w1.cell? ⟨w.heap.size + 1, 7, none⟩ = some (.int .i64 0) := cell_kept hb (by simp [go_sem]); have f7 : w1.frozen? ⟨w.heap.size + 1, 7, none⟩ = false := (hb.frozen (p := ⟨w.heap.size + 1, 7, none⟩) (by simp)).trans (by simp [go_sem]); have r8 : w1.cell? ⟨w.heap.size + 1, 8, none⟩ = some (.int .i64 0) := cell_kept hb (by simp [go_sem]); have f8 : w1.frozen? ⟨w.heap.size + 1, 8, none⟩ = false := (hb.frozen (p := ⟨w.heap.size + 1, 8, none⟩) (by simp)).trans (by simp [go_sem]); have r9 : w1.cell? ⟨w.heap.size + 1, 9, none⟩ = some (.int .i64 0) := cell_kept hb (by simp [go_sem]); have f9 : w1.frozen? ⟨w.heap.size + 1, 9, none⟩ = false := (hb.frozen (p := ⟨w.heap.size + 1, 9, none⟩) (by simp)).trans (by simp [go_sem]); have r10 : w1.cell? ⟨w.heap.size + 1, 10, none⟩ = some (.int .i64 0) := cell_kept hb (by simp [go_sem]); have f10 : w1.frozen? ⟨w.heap.size + 1, 10, none⟩ = false := (hb.frozen (p := ⟨w.heap.size + 1, 10, none⟩) (by simp)).trans (by simp [go_sem]); have r11 : w1.cell? ⟨w.heap.size + 1, 11, none⟩ = some (.int .i64 0) := cell_kept hb (by simp [go_sem]); have f11 : w1.frozen? ⟨w.heap.size + 1, 11, none⟩ = false := (hb.frozen (p := ⟨w.heap.size + 1, 11, none⟩) (by simp)).trans (by simp [go_sem]); have z0 : w.heap.size + 1 < w1.heap.size := World.block_lt_of_cell? (w := w1) (a := ⟨w.heap.size + 1, 0, none⟩) r0; have z1 : w.heap.size + 1 < w1.heap.size + 1 := (by omega); have z2 : w.heap.size + 1 < w1.heap.size + 1 + 1 := (by omega); have z3 : w.heap.size + 1 < w1.heap.size + 1 + 1 + 1 := (by omega); have z4 : w.heap.size + 1 < w1.heap.size + 1 + 1 + 1 + 1 := (by omega); have z5 : w.heap.size + 1 < w1.heap.size + 1 + 1 + 1 + 1 + 1 := (by omega); have z6 : w.heap.size + 1 < w1.heap.size + 1 + 1 + 1 + 1 + 1 + 1 := (by omega); have z7 : w.heap.size + 1 < w1.heap.size + 1 + 1 + 1 + 1 + 1 + 1 + 1 := (by omega); have z8 : w.heap.size + 1 < w1.heap.size + 1 + 1 + 1 + 1 + 1 + 1 + 1 + 1 := (by omega); have z9 : w.heap.size + 1 < w1.heap.size + 1 + 1 + 1 + 1 + 1 + 1 + 1 + 1 + 1 := (by omega); have z10 : w.heap.size + 1 < w1.heap.size + 1 + 1 + 1 + 1 + 1 + 1 + 1 + 1 + 1 + 1 := (by omega); have z11 : w.heap.size + 1 < w1.heap.size + 1 + 1 + 1 + 1 + 1 + 1 + 1 + 1 + 1 + 1 + 1 := (by omega); have HB : Hid (Below w.heap.size w w1) := bl_via (bl_alloc (bl_alloc (bl_refl _))) hb; clear hb)
  go_region_held3 (fun w' => w'.cell? ⟨w1.heap.size, 0, none⟩ = some (.int .i64 (2 * x + 1)) ∧ w'.cell? ⟨w1.heap.size, 1, none⟩ = some (.int .i64 (2 * y + 1)) ∧ w'.cell? ⟨w1.heap.size, 2, none⟩ = some (.int .i64 (c1x x k)) ∧ w'.cell? ⟨w1.heap.size, 3, none⟩ = some (.int .i64 (c1y y k)) ∧ w'.cell? ⟨w1.heap.size, 4, none⟩ = some (.int .i64 (c2x x k)) ∧ w'.cell? ⟨w1.heap.size, 5, none⟩ = some (.int .i64 (c2y y k)))
    ((refine ⟨?_, ?_, ?_, ?_, ?_, ?_⟩ <;> (first | (simp [go_sem]; done) | (simp [go_sem, World.cell?_alloc_past]; done) | (repeat' (first | (with_reducible refine set_far ?_ ?_) | (dsimp only; omega) | (simp [go_sem, World.cell?_alloc_past]; done))))))
    (first | (go_at_call 134; refine (edge_num _ _ _ _ _).mono ?_; rintro r w2 ⟨rfl, o3, o4, o5, rfl⟩))
  go_wp2
  refine bodyPost_ret (v := .agg #[ .int .i64 (eA (2 * x + 1) (2 * y + 1) (c1x x k) (c1y y k)), .int .i64 (eB (2 * x + 1) (2 * y + 1) (c1x x k) (c1y y k)), .int .i64 (eC (2 * x + 1) (2 * y + 1) (c1x x k) (c1y y k)), .int .i64 (eD (2 * x + 1) (2 * y + 1) (c1x x k) (c1y y k)), .int .i64 (eA (c1x x k) (c1y y k) (c2x x k) (c2y y k)), .int .i64 (eB (c1x x k) (c1y y k) (c2x x k) (c2y y k)), .int .i64 (eC (c1x x k) (c1y y k) (c2x x k) (c2y y k)), .int .i64 (eD (c1x x k) (c1y y k) (c2x x k) (c2y y k)), .int .i64 (eA (c2x x k) (c2y y k) (2 * x + 1) (2 * y + 1)), .int .i64 (eB (c2x x k) (c2y y k) (2 * x + 1) (2 * y + 1)), .int .i64 (eC (c2x x k) (c2y y k) (2 * x + 1) (2 * y + 1)), .int .i64 (eD (c2x x k) (c2y y k) (2 * x + 1) (2 * y + 1))]) ?_ rfl ⟨rfl, ?_⟩
  · simp [results, Tryd.results126, go_sem, World.cell?_alloc_past, *]
  · with_reducible repeat' (first | exact HB.out | refine bl_set ?_ ?_ | refine bl_alloc ?_ | refine bl_drew ?_)
    all_goals (dsimp only; omega)
end Go.Proofs.YtoedcefbmbfnhabDoor

/- Maps put together and undone: what the grid's inner functions and the reference's answer. -/
namespace Go.Proofs.YtoedcefbmbfnhabDoor
open Go.RowKit
attribute [local go_sem ↓] Go.wp_at_zero Go.wp_at_succ

/-- A row of a map at a point. -/
def dot (p q x y : Int) : Int := p * x + q * y

theorem mul_bd {u x M : Int} (h1 : -1 ≤ u) (h2 : u ≤ 1) (h3 : -M ≤ x) (h4 : x ≤ M) : -M ≤ u * x ∧ u * x ≤ M := by
  have hu : u = -1 ∨ u = 0 ∨ u = 1 := by omega
  rcases hu with rfl | rfl | rfl <;> omega

theorem dot_bd {p q x y M : Int} (h1 : -1 ≤ p) (h2 : p ≤ 1) (h3 : -1 ≤ q) (h4 : q ≤ 1) (h5 : -M ≤ x) (h6 : x ≤ M) (h7 : -M ≤ y) (h8 : y ≤ M) : -(2 * M) ≤ dot p q x y ∧ dot p q x y ≤ 2 * M := by
  have a := mul_bd h1 h2 h5 h6
  have b := mul_bd h3 h4 h7 h8
  unfold dot; omega

/-- The four numbers that turn are small. -/
def Sm (a b c d : Int) : Prop := (-1 ≤ a ∧ a ≤ 1) ∧ (-1 ≤ b ∧ b ≤ 1) ∧ (-1 ≤ c ∧ c ≤ 1) ∧ (-1 ≤ d ∧ d ≤ 1)

theorem turn_any (a b c d e f x y : Int) (w : World) (hs : Sm a b c d) (h1 : -4000000 ≤ x) (h2 : x ≤ 4000000) (h3 : -4000000 ≤ y) (h4 : y ≤ 4000000) :
    Calls Tryd.prog 129 #[.agg #[.int .i64 a, .int .i64 b, .int .i64 c, .int .i64 d, .int .i64 e, .int .i64 f], .agg #[.int .i64 x, .int .i64 y]] w fun r w' => r = .returned (.agg #[.int .i64 (dot a b x y), .int .i64 (dot c d x y)]) ∧ ∃ o1 o2 o3, w' = ((w.alloc o1).alloc o2).alloc o3 := by
  obtain ⟨⟨a1, a2⟩, ⟨b1, b2⟩, ⟨c1, c2⟩, ⟨d1, d2⟩⟩ := hs
  obtain ⟨p1, p2⟩ := mul_bd a1 a2 h1 h2
  obtain ⟨p3, p4⟩ := mul_bd b1 b2 h3 h4
  obtain ⟨p5, p6⟩ := mul_bd c1 c2 h1 h2
  obtain ⟨p7, p8⟩ := mul_bd d1 d2 h3 h4
  go_enter Tryd.func129, Tryd.ntmps129
  go_wp2
  exact bodyPost_ret (v := .agg #[.int .i64 (dot a b x y), .int .i64 (dot c d x y)]) (by simp [results, Tryd.results129, go_sem, dot]) rfl ⟨rfl, _, _, _, rfl⟩

theorem pointOf_any (a b c d e f x y : Int) (w : World) (hs : Sm a b c d) (he : -1000000 ≤ e ∧ e ≤ 1000000) (hf : -1000000 ≤ f ∧ f ≤ 1000000) (h1 : -4000000 ≤ x) (h2 : x ≤ 4000000) (h3 : -4000000 ≤ y) (h4 : y ≤ 4000000) :
    Calls Tryd.prog 68 #[.agg #[.int .i64 a, .int .i64 b, .int .i64 c, .int .i64 d, .int .i64 e, .int .i64 f], .agg #[.int .i64 x, .int .i64 y]] w fun r w' => r = .returned (.agg #[.int .i64 (dot a b x y + e), .int .i64 (dot c d x y + f)]) ∧ ∃ o1 o2 o3, w' = ((w.alloc o1).alloc o2).alloc o3 := by
  obtain ⟨⟨a1, a2⟩, ⟨b1, b2⟩, ⟨c1, c2⟩, ⟨d1, d2⟩⟩ := hs
  obtain ⟨p1, p2⟩ := mul_bd a1 a2 h1 h2
  obtain ⟨p3, p4⟩ := mul_bd b1 b2 h3 h4
  obtain ⟨p5, p6⟩ := mul_bd c1 c2 h1 h2
  obtain ⟨p7, p8⟩ := mul_bd d1 d2 h3 h4
  obtain ⟨e1, e2⟩ := he
  obtain ⟨f1, f2⟩ := hf
  go_enter Tryd.func68, Tryd.ntmps68
  go_wp2
  exact bodyPost_ret (v := .agg #[.int .i64 (dot a b x y + e), .int .i64 (dot c d x y + f)]) (by simp [results, Tryd.results68, go_sem, dot]) rfl ⟨rfl, _, _, _, rfl⟩

set_option maxHeartbeats 1600000 in
theorem image_any (a b c d e f x y : Int) (w : World) (hs : Sm a b c d) (he : -1000000 ≤ e ∧ e ≤ 1000000) (hf : -1000000 ≤ f ∧ f ≤ 1000000) (h1 : -4000000 ≤ x) (h2 : x ≤ 4000000) (h3 : -4000000 ≤ y) (h4 : y ≤ 4000000) :
    Calls Tryd.prog 130 #[.agg #[.int .i64 a, .int .i64 b, .int .i64 c, .int .i64 d, .int .i64 e, .int .i64 f], .agg #[.int .i64 x, .int .i64 y]] w fun r w' => r = .returned (.agg #[.int .i64 (dot a b x y + e), .int .i64 (dot c d x y + f)]) ∧ ∃ o1 o2 o3 o4 o5 o6 o7 o8 o9, w' = (((((((((w.alloc o1).alloc o2).alloc o3).alloc o4).alloc o5).alloc o6).alloc o7).alloc o8).alloc o9).drew := by
  have hd1 := dot_bd hs.1.1 hs.1.2 hs.2.1.1 hs.2.1.2 h1 h2 h3 h4
  have hd2 := dot_bd hs.2.2.1.1 hs.2.2.1.2 hs.2.2.2.1 hs.2.2.2.2 h1 h2 h3 h4
  have HS : Hid (Sm a b c d) := hs
  clear hs
  go_enter Tryd.func130, Tryd.ntmps130
  go_wp2
  go_region_held3 (fun w' => (w'.cell? ⟨w.heap.size, 0, none⟩ = some (.int .i64 a) ∧ w'.cell? ⟨w.heap.size, 1, none⟩ = some (.int .i64 b) ∧ w'.cell? ⟨w.heap.size, 2, none⟩ = some (.int .i64 c) ∧ w'.cell? ⟨w.heap.size, 3, none⟩ = some (.int .i64 d) ∧ w'.cell? ⟨w.heap.size, 4, none⟩ = some (.int .i64 e) ∧ w'.cell? ⟨w.heap.size, 5, none⟩ = some (.int .i64 f))
      ∧ w'.cell? ⟨w.heap.size + 1, 0, none⟩ = some (.int .i64 x) ∧ w'.cell? ⟨w.heap.size + 1, 1, none⟩ = some (.int .i64 y))
    (simp [go_sem, World.cell?_alloc_past])
    (first | (go_at_call 129; refine (turn_any _ _ _ _ _ _ _ _ _ HS.out (by omega) (by omega) (by omega) (by omega)).mono ?_; rintro e w2 ⟨rfl, o3, o4, o5, rfl⟩) | (go_at_call 96; refine (plus_any _ _ _ _ _ (by omega) (by omega) (by omega) (by omega) (by omega) (by omega) (by omega) (by omega)).mono ?_; rintro e w2 ⟨rfl, o6, o7, o8, rfl⟩))
  go_wp2
  exact bodyPost_ret (v := .agg #[.int .i64 (dot a b x y + e), .int .i64 (dot c d x y + f)]) (by simp [results, Tryd.results130, go_sem, World.cell?_alloc_past]) rfl ⟨rfl, _, _, _, _, _, _, _, _, _, rfl⟩

end Go.Proofs.YtoedcefbmbfnhabDoor

/- Where a map brings a triangle: the grid's outward, kindToward and move. -/
namespace Go.Proofs.YtoedcefbmbfnhabDoor
open Go.RowKit
attribute [local go_sem ↓] Go.wp_at_zero Go.wp_at_succ

def outX (k : Int) : Int := if k = 1 then 1 else if k = 3 then -1 else 0
def outY (k : Int) : Int := if k = 0 then -1 else if k = 2 then 1 else 0

theorem outX_bd (k : Int) : -1 ≤ outX k ∧ outX k ≤ 1 := by unfold outX; split <;> (try split) <;> omega
theorem outY_bd (k : Int) : -1 ≤ outY k ∧ outY k ≤ 1 := by unfold outY; split <;> (try split) <;> omega

end Go.Proofs.YtoedcefbmbfnhabDoor

