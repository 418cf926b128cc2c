/- A sheet, copied. -/
import Derived.Test.YtehmoacggikfmaaDoorQlaj
namespace Go.Proofs.YtehmoacggikfmaaDoor
open Go.RowKit

theorem inf3 : (Tryd.prog.info? 3).map (fun i => (i.zero, i.size, i.bytes)) = some (some (.int .i64 0), 1, 8) := by kernel_rfl
theorem inf109 : (Tryd.prog.info? 48).map (fun i => (i.zero, i.size, i.bytes)) = some (some (.agg #[.int .i64 0, .int .i64 0, .int .i64 0, .int .i64 0, .int .i64 0]), 5, 40) := by kernel_rfl

/-- The four cells of a sheet. -/
def Sh (w : World) (g : Nat) (v0 v1 v2 v3 : Value) : Prop :=
  w.cell? ⟨g, 0, none⟩ = some v0 ∧ w.cell? ⟨g, 1, none⟩ = some v1 ∧ w.cell? ⟨g, 2, none⟩ = some v2 ∧ w.cell? ⟨g, 3, none⟩ = some v3
theorem Sh.kept {w wx : World} {g : Nat} {v0 v1 v2 v3 : Value} (h : Sh w g v0 v1 v2 v3) (hb : Below w.heap.size w wx) : Sh wx g v0 v1 v2 v3 :=
  ⟨cl_kept hb h.1, cl_kept hb h.2.1, cl_kept hb h.2.2.1, cl_kept hb h.2.2.2⟩
theorem Sh.lt {w : World} {g : Nat} {v0 v1 v2 v3 : Value} (h : Sh w g v0 v1 v2 v3) : g < w.heap.size := World.block_lt_of_cell? _ _ h.1

theorem row_at {w : World} {a : Option Addr} {zs : List Int} (h : Row w a zs) (hne : 0 < zs.length) : ∃ b off, a = some ⟨b, off, none⟩ ∧ ∀ j u, (zs.map (fun z => Value.int .i64 z))[j]? = some u → w.cell? ((⟨b, off, none⟩ : Addr).add j) = some u := by
  obtain ⟨b, off, rfl, _⟩ := h 0 hne
  refine ⟨b, off, rfl, fun j u hu => ?_⟩
  have hj : j < zs.length := by
    have := List.getElem?_eq_some_iff.1 hu
    simpa using this.1
  obtain ⟨b', off', e, hc⟩ := h j hj
  simp at e
  obtain ⟨rfl, rfl⟩ := e
  have hadd : (⟨b, off, none⟩ : Addr).add j = ⟨b, off + j, none⟩ := by unfold Addr.add; split <;> simp_all
  rw [hadd, hc]
  simp [hj] at hu
  rw [hu]

/-- Numbers in a row of memory that lies at a block or above. -/
def RowF (w : World) (base : Nat) (a : Option Addr) (zs : List Int) : Prop :=
  ∀ i (h : i < zs.length), ∃ b off, a = some ⟨b, off, none⟩ ∧ base ≤ b ∧ w.cell? ⟨b, off + i, none⟩ = some (.int .i64 zs[i])
theorem RowF.row {w : World} {base : Nat} {a : Option Addr} {zs : List Int} (h : RowF w base a zs) : Row w a zs := fun i hi => by
  obtain ⟨b, off, e, _, hc⟩ := h i hi
  exact ⟨b, off, e, hc⟩
theorem RowF.kept {w wx : World} {base : Nat} {a : Option Addr} {zs : List Int} (h : RowF w base a zs) (hb : Below w.heap.size w wx) : RowF wx base a zs := fun i hi => by
  obtain ⟨b, off, e, hl, hc⟩ := h i hi
  exact ⟨b, off, e, hl, cl_kept hb hc⟩
theorem set_far {w : World} {p a : Addr} {u v : Value} (h : w.cell? a = some v) (hne : a.block ≠ p.block) : (w.setCell p u).cell? a = some v := by
  have := World.cell?_of_block (w := w) (w' := w.setCell p u) (a := a) (Below.heap_setCell w p u a.block hne)
  exact this.trans h
theorem RowF.set {w : World} {base : Nat} {a : Option Addr} {zs : List Int} (h : RowF w base a zs) {p : Addr} {u : Value} (hp : p.block < base) : RowF (w.setCell p u) base a zs := fun i hi => by
  obtain ⟨b, off, e, hl, hc⟩ := h i hi
  exact ⟨b, off, e, hl, set_far hc (by dsimp only; omega)⟩
theorem RowF.low {w : World} {base base' : Nat} {a : Option Addr} {zs : List Int} (h : RowF w base a zs) (hl : base' ≤ base) : RowF w base' a zs := fun i hi => by
  obtain ⟨b, off, e, hb, hc⟩ := h i hi
  exact ⟨b, off, e, by omega, hc⟩

theorem own_row {w : World} {base : Nat} {e : TypeId} {size : Nat} {v : Value} {n : Nat} {zs : List Int} (h : w.ownsRow base e size v n (zs.map (fun z => Value.int .i64 z))) (hn : 0 < n) :
    ∃ g cap, v = .slice (some ⟨g, 0, none⟩) n cap ∧ base ≤ g ∧ RowF w base (some ⟨g, 0, none⟩) zs := by
  have hlen := h.1
  rcases h.2 with ⟨_, h0⟩ | ⟨g, cap, cur, hv, hb, _⟩
  · omega
  · subst hv
    refine ⟨g, cap, rfl, hb, fun i hi => ⟨g, 0, rfl, hb, ?_⟩⟩
    have := h.cellAt i (by simp at hlen; omega)
    simp [hi] at this
    simpa using this

theorem row_nil (w : World) (base : Nat) (a : Option Addr) : RowF w base a [] := fun i hi => by simp at hi

set_option maxHeartbeats 3200000 in
theorem sheetOf_any (W H : Int) (a b : Option Addr) (ca cb n : Nat) (zs ks : List Int) (w : World) (hz : Row w a zs) (hk : Row w b ks) (hn : ks.length = n * 5) (h1 : zs.length ≤ 17592186044416) (h2 : n ≤ 3518437208883) :
    Calls Tryd.prog 5 #[.agg #[.int .i64 W, .int .i64 H, .slice a zs.length ca, .slice b n cb]] w fun e w' => ∃ a' ca' b' cb', e = .returned (.agg #[.int .i64 W, .int .i64 H, .slice a' zs.length ca', .slice b' n cb']) ∧ RowF w' w.heap.size a' zs ∧ RowF w' w.heap.size b' ks ∧ Below w.heap.size w w' := by
  have HZ : Hid (Row w a zs) := hz
  have HK : Hid (Row w b ks) := hk
  have HN : Hid (ks.length = n * 5) := hn
  obtain ⟨i3, hi3, hz0, hz1, hz2⟩ := info_parts inf3
  obtain ⟨i9, hi9, hy0, hy1, hy2⟩ := info_parts inf109
  have HI3 : Hid (Tryd.prog.info? 3 = some i3 ∧ i3.zero = some (.int .i64 0) ∧ i3.size = 1 ∧ i3.bytes = 8) := ⟨hi3, hz0, hz1, hz2⟩
  have HI9 : Hid (Tryd.prog.info? 48 = some i9 ∧ i9.zero = some (.agg #[.int .i64 0, .int .i64 0, .int .i64 0, .int .i64 0, .int .i64 0]) ∧ i9.size = 5 ∧ i9.bytes = 40) := ⟨hi9, hy0, hy1, hy2⟩
  clear hz hk hi3 hz0 hz1 hz2 hi9 hy0 hy1 hy2 hn
  have b0 : Below w.heap.size w ((w.alloc (.cells #[.int .i64 W, .int .i64 H, .slice a zs.length ca, .slice b n cb] 25)).alloc (.cells #[.int .i64 0, .int .i64 0, .slice none 0 0, .slice none 0 0] 25)) := bl_alloc (bl_alloc (bl_refl _))
  have HB0 : Hid (Below w.heap.size w ((w.alloc (.cells #[.int .i64 W, .int .i64 H, .slice a zs.length ca, .slice b n cb] 25)).alloc (.cells #[.int .i64 0, .int .i64 0, .slice none 0 0, .slice none 0 0] 25))) := b0
  clear b0
  go_enter Tryd.func5, Tryd.ntmps5
  go_upto_region 1 with fail
  go_cut [] (fun wx => ∃ a' ca', Sh wx w.heap.size (.int .i64 W) (.int .i64 H) (.slice a' zs.length ca') (.slice b n cb) ∧ Fr wx w.heap.size ∧ Sh wx (w.heap.size + 1) (.int .i64 0) (.int .i64 0) (.slice none 0 0) (.slice none 0 0) ∧ Fr wx (w.heap.size + 1) ∧ RowF wx (w.heap.size + 1 + 1) a' zs ∧ Below w.heap.size w wx)
  case first =>
    by_cases he : zs.length = 0
    · have hzz : zs = [] := List.eq_nil_of_length_eq_zero he
      subst hzz
      go_wp2_with (at_builtin; refine wpList_append_nothing _ rfl (.const (.slice none 0 0)) (.tmp 4) 22 rfl 3 i3 Tryd.underlying22 HI3.out.1 a ca rfl rfl ?_)
      go_meet
      case rel =>
        refine ⟨none, 0, ⟨?_, ?_, ?_, ?_⟩, ?_, ⟨?_, ?_, ?_, ?_⟩, ?_, row_nil _ _ _, ?_⟩
        · simp [go_sem]
        · simp [go_sem]
        · simp [go_sem]
        · simp [go_sem]
        · simp [Fr, go_sem]
        · simp [go_sem]
        · simp [go_sem]
        · simp [go_sem]
        · simp [go_sem]
        · simp [Fr, go_sem]
        · with_reducible repeat' (first | exact bl_refl _ | refine bl_set ?_ ?_ | refine bl_alloc ?_)
          all_goals (first | omega | (dsimp only; omega))
    · obtain ⟨ba, off, rfl, hc⟩ := row_at (HZ.out.kept HB0.out) (by omega)
      have HC : Hid (∀ j u, (zs.map (fun z => Value.int .i64 z))[j]? = some u → ((w.alloc (.cells #[.int .i64 W, .int .i64 H, .slice (some ⟨ba, off, none⟩) zs.length ca, .slice b n cb] 25)).alloc (.cells #[.int .i64 0, .int .i64 0, .slice none 0 0, .slice none 0 0] 25)).cell? ((⟨ba, off, none⟩ : Addr).add j) = some u) := hc
      clear hc
      go_wp2_with (at_builtin; refine wpList_append_grows _ rfl (.const (.slice none 0 0)) (.tmp 4) 22 rfl 3 i3 (.int .i64 0) 1 8 Tryd.underlying22 HI3.out.1 HI3.out.2.1 HI3.out.2.2.1 HI3.out.2.2.2 rfl (by decide) none 0 0 [] rfl (fun _ => ⟨rfl, rfl⟩) rfl (by intro _ h; simp at h) ⟨ba, off, none⟩ zs.length ca (zs.map (fun z => Value.int .i64 z)) rfl (by simp) (by intro j u hu; exact HC.out j u hu) (by intro u hu; obtain ⟨z, _, rfl⟩ := List.mem_map.1 hu; rfl) (by omega) (by unfold maxLen; omega) (by omega) ?grow)
      case grow =>
        intro v' w' hown hgrow
        have hbel : Below ((w.alloc (.cells #[.int .i64 W, .int .i64 H, .slice (some ⟨ba, off, none⟩) zs.length ca, .slice b n cb] 25)).alloc (.cells #[.int .i64 0, .int .i64 0, .slice none 0 0, .slice none 0 0] 25)).heap.size ((w.alloc (.cells #[.int .i64 W, .int .i64 H, .slice (some ⟨ba, off, none⟩) zs.length ca, .slice b n cb] 25)).alloc (.cells #[.int .i64 0, .int .i64 0, .slice none 0 0, .slice none 0 0] 25)) w' := (Below.refl _ _).grown hgrow (Nat.le_refl _) (fun k h => by cases h)
        obtain ⟨g, cap', rfl, hg, hrow⟩ := own_row (by simpa using hown) (by omega)
        have HR : Hid (RowF w' (w.heap.size + 1 + 1) (some ⟨g, 0, none⟩) zs) := hrow.low (by simp)
        have HB : Hid (Below w.heap.size w w') := bl_via HB0.out hbel
        have s0 : w'.cell? ⟨w.heap.size, 0, none⟩ = some (.int .i64 W) := cl_kept hbel (by simp [go_sem])
        have s1 : w'.cell? ⟨w.heap.size, 1, none⟩ = some (.int .i64 H) := cl_kept hbel (by simp [go_sem])
        have s2 : w'.cell? ⟨w.heap.size, 2, none⟩ = some (.slice (some ⟨ba, off, none⟩) zs.length ca) := cl_kept hbel (by simp [go_sem])
        have s3 : w'.cell? ⟨w.heap.size, 3, none⟩ = some (.slice b n cb) := cl_kept hbel (by simp [go_sem])
        have sf0 : w'.frozen? ⟨w.heap.size, 0, none⟩ = false := (hbel.frozen (p := ⟨w.heap.size, 0, none⟩) (by simp <;> omega)).trans (by simp [go_sem])
        have sf1 : w'.frozen? ⟨w.heap.size, 1, none⟩ = false := (hbel.frozen (p := ⟨w.heap.size, 1, none⟩) (by simp <;> omega)).trans (by simp [go_sem])
        have sf2 : w'.frozen? ⟨w.heap.size, 2, none⟩ = false := (hbel.frozen (p := ⟨w.heap.size, 2, none⟩) (by simp <;> omega)).trans (by simp [go_sem])
        have sf3 : w'.frozen? ⟨w.heap.size, 3, none⟩ = false := (hbel.frozen (p := ⟨w.heap.size, 3, none⟩) (by simp <;> omega)).trans (by simp [go_sem])
        have sf4 : w'.frozen? ⟨w.heap.size, 4, none⟩ = false := (hbel.frozen (p := ⟨w.heap.size, 4, none⟩) (by simp <;> omega)).trans (by simp [go_sem])
        have sf5 : w'.frozen? ⟨w.heap.size, 5, none⟩ = false := (hbel.frozen (p := ⟨w.heap.size, 5, none⟩) (by simp <;> omega)).trans (by simp [go_sem])
        have r0 : w'.cell? ⟨w.heap.size + 1, 0, none⟩ = some (.int .i64 0) := cl_kept hbel (by simp [go_sem])
        have r1 : w'.cell? ⟨w.heap.size + 1, 1, none⟩ = some (.int .i64 0) := cl_kept hbel (by simp [go_sem])
        have r2 : w'.cell? ⟨w.heap.size + 1, 2, none⟩ = some (.slice none 0 0) := cl_kept hbel (by simp [go_sem])
        have r3 : w'.cell? ⟨w.heap.size + 1, 3, none⟩ = some (.slice none 0 0) := cl_kept hbel (by simp [go_sem])
        have rf0 : w'.frozen? ⟨w.heap.size + 1, 0, none⟩ = false := (hbel.frozen (p := ⟨w.heap.size + 1, 0, none⟩) (by simp <;> omega)).trans (by simp [go_sem])
        have rf1 : w'.frozen? ⟨w.heap.size + 1, 1, none⟩ = false := (hbel.frozen (p := ⟨w.heap.size + 1, 1, none⟩) (by simp <;> omega)).trans (by simp [go_sem])
        have rf2 : w'.frozen? ⟨w.heap.size + 1, 2, none⟩ = false := (hbel.frozen (p := ⟨w.heap.size + 1, 2, none⟩) (by simp <;> omega)).trans (by simp [go_sem])
        have rf3 : w'.frozen? ⟨w.heap.size + 1, 3, none⟩ = false := (hbel.frozen (p := ⟨w.heap.size + 1, 3, none⟩) (by simp <;> omega)).trans (by simp [go_sem])
        have rf4 : w'.frozen? ⟨w.heap.size + 1, 4, none⟩ = false := (hbel.frozen (p := ⟨w.heap.size + 1, 4, none⟩) (by simp <;> omega)).trans (by simp [go_sem])
        have rf5 : w'.frozen? ⟨w.heap.size + 1, 5, none⟩ = false := (hbel.frozen (p := ⟨w.heap.size + 1, 5, none⟩) (by simp <;> omega)).trans (by simp [go_sem])
        have zs0 : w.heap.size < w'.heap.size := World.block_lt_of_cell? _ _ s0
        have zr0 : w.heap.size + 1 < w'.heap.size := World.block_lt_of_cell? _ _ r0
        have zg0 : w.heap.size + 1 < g := by first | omega | (simp at hg; omega)
        clear hbel hrow hown hgrow hg HC
        go_wp2
        go_meet
        case rel =>
          refine ⟨some ⟨g, 0, none⟩, cap', ⟨?_, ?_, ?_, ?_⟩, ?_, ⟨?_, ?_, ?_, ?_⟩, ?_, ?_, ?_⟩
          · simp [go_sem, s0]
          · simp [go_sem, s1]
          · simp [go_sem, s2]
          · simp [go_sem, s3]
          · simp [Fr, go_sem, sf0, sf1, sf2, sf3, sf4, sf5]
          · simp [go_sem, r0]
          · simp [go_sem, r1]
          · simp [go_sem, r2]
          · simp [go_sem, r3]
          · simp [Fr, go_sem, rf0, rf1, rf2, rf3, rf4, rf5]
          · exact HR.out.set (by dsimp only; omega)
          · exact bl_set HB.out (by dsimp only; omega)
  case rest =>
    obtain ⟨a', ca', ⟨s0, s1, s2, s3⟩, ⟨sf0, sf1, sf2, sf3, sf4, sf5⟩, ⟨r0, r1, r2, r3⟩, ⟨rf0, rf1, rf2, rf3, rf4, rf5⟩, hRow, hB⟩ := hcut
    have HR : Hid (RowF wc (w.heap.size + 1 + 1) a' zs) := hRow
    have HB : Hid (Below w.heap.size w wc) := hB
    have zs0 : w.heap.size < wc.heap.size := World.block_lt_of_cell? _ _ s0
    have zr0 : w.heap.size + 1 < wc.heap.size := World.block_lt_of_cell? _ _ r0
    have HKc : Hid (Row wc b ks) := HK.out.kept hB
    clear hRow hB HB0
    by_cases he : n = 0
    · have hkk : ks = [] := List.eq_nil_of_length_eq_zero (by rw [HN.out, he])
      subst hkk he
      go_wp2_with (at_builtin; refine wpList_append_nothing _ rfl (.const (.slice none 0 0)) (.tmp 8) 23 rfl 48 i9 Tryd.underlying23 HI9.out.1 b cb rfl rfl ?_)
      refine bodyPost_ret (v := .agg #[.int .i64 W, .int .i64 H, .slice a' zs.length ca', .slice none 0 0]) ?_ rfl ⟨a', ca', none, 0, rfl, ?_, row_nil _ _ _, ?_⟩
      · simp [results, Tryd.results5, go_sem, *]
      · have h5 := HR.out.low (base' := w.heap.size + 1 + 1) (Nat.le_refl _)
        refine RowF.low (base := w.heap.size + 1 + 1) ?_ (by omega)
        with_reducible repeat' (first | exact h5 | refine RowF.set ?_ ?_ | omega | (dsimp only; omega))
      · with_reducible repeat' (first | exact HB.out | refine bl_set ?_ ?_)
        all_goals (first | omega | (dsimp only; omega))
    · obtain ⟨bb, off, rfl, hc⟩ := row_at HKc.out (by rw [HN.out]; omega)
      have HC : Hid (∀ j u, (ks.map (fun z => Value.int .i64 z))[j]? = some u → wc.cell? ((⟨bb, off, none⟩ : Addr).add j) = some u) := hc
      clear hc
      go_wp2_with (at_builtin; refine wpList_append_grows _ rfl (.const (.slice none 0 0)) (.tmp 8) 23 rfl 48 i9 (.agg #[.int .i64 0, .int .i64 0, .int .i64 0, .int .i64 0, .int .i64 0]) 5 40 Tryd.underlying23 HI9.out.1 HI9.out.2.1 HI9.out.2.2.1 HI9.out.2.2.2 rfl (by decide) none 0 0 [] rfl (fun _ => ⟨rfl, rfl⟩) rfl (by intro _ h; simp at h) ⟨bb, off, none⟩ n cb (ks.map (fun z => Value.int .i64 z)) rfl (by rw [List.length_map]; exact HN.out) (by intro j u hu; exact HC.out j u hu) (by intro u hu; obtain ⟨z, _, rfl⟩ := List.mem_map.1 hu; rfl) (by omega) (by unfold maxLen; omega) (by omega) ?grow)
      case grow =>
        intro v' w' hown hgrow
        have hbel : Below wc.heap.size wc w' := (Below.refl _ _).grown hgrow (Nat.le_refl _) (fun k h => by cases h)
        obtain ⟨g, cap', rfl, hg, hrow⟩ := own_row (n := n) (by simpa using hown) (by omega)
        have HR2 : Hid (RowF w' (w.heap.size + 1 + 1) (some ⟨g, 0, none⟩) ks) := hrow.low (by omega)
        have HR1 : Hid (RowF w' (w.heap.size + 1 + 1) a' zs) := HR.out.kept hbel
        have HB2 : Hid (Below w.heap.size w w') := bl_via HB.out hbel
        have s0' : w'.cell? ⟨w.heap.size, 0, none⟩ = some (.int .i64 W) := cl_kept hbel s0
        have s1' : w'.cell? ⟨w.heap.size, 1, none⟩ = some (.int .i64 H) := cl_kept hbel s1
        have s2' : w'.cell? ⟨w.heap.size, 2, none⟩ = some (.slice a' zs.length ca') := cl_kept hbel s2
        have s3' : w'.cell? ⟨w.heap.size, 3, none⟩ = some (.slice (some ⟨bb, off, none⟩) n cb) := cl_kept hbel s3
        have sf0' : w'.frozen? ⟨w.heap.size, 0, none⟩ = false := (hbel.frozen (p := ⟨w.heap.size, 0, none⟩) (by dsimp only; omega)).trans sf0
        have sf1' : w'.frozen? ⟨w.heap.size, 1, none⟩ = false := (hbel.frozen (p := ⟨w.heap.size, 1, none⟩) (by dsimp only; omega)).trans sf1
        have sf2' : w'.frozen? ⟨w.heap.size, 2, none⟩ = false := (hbel.frozen (p := ⟨w.heap.size, 2, none⟩) (by dsimp only; omega)).trans sf2
        have sf3' : w'.frozen? ⟨w.heap.size, 3, none⟩ = false := (hbel.frozen (p := ⟨w.heap.size, 3, none⟩) (by dsimp only; omega)).trans sf3
        have r0' : w'.cell? ⟨w.heap.size + 1, 0, none⟩ = some (.int .i64 0) := cl_kept hbel r0
        have r1' : w'.cell? ⟨w.heap.size + 1, 1, none⟩ = some (.int .i64 0) := cl_kept hbel r1
        have r2' : w'.cell? ⟨w.heap.size + 1, 2, none⟩ = some (.slice none 0 0) := cl_kept hbel r2
        have r3' : w'.cell? ⟨w.heap.size + 1, 3, none⟩ = some (.slice none 0 0) := cl_kept hbel r3
        have rf0' : w'.frozen? ⟨w.heap.size + 1, 0, none⟩ = false := (hbel.frozen (p := ⟨w.heap.size + 1, 0, none⟩) (by dsimp only; omega)).trans rf0
        have rf1' : w'.frozen? ⟨w.heap.size + 1, 1, none⟩ = false := (hbel.frozen (p := ⟨w.heap.size + 1, 1, none⟩) (by dsimp only; omega)).trans rf1
        have rf2' : w'.frozen? ⟨w.heap.size + 1, 2, none⟩ = false := (hbel.frozen (p := ⟨w.heap.size + 1, 2, none⟩) (by dsimp only; omega)).trans rf2
        have rf3' : w'.frozen? ⟨w.heap.size + 1, 3, none⟩ = false := (hbel.frozen (p := ⟨w.heap.size + 1, 3, none⟩) (by dsimp only; omega)).trans rf3
        have zs1 : w.heap.size < w'.heap.size := World.block_lt_of_cell? _ _ s0'
        have zr1 : w.heap.size + 1 < w'.heap.size := World.block_lt_of_cell? _ _ r0'
        clear hbel hrow hown hgrow hg HC HR HB HKc
        go_wp2
        refine bodyPost_ret (v := .agg #[.int .i64 W, .int .i64 H, .slice a' zs.length ca', .slice (some ⟨g, 0, none⟩) n cap']) ?_ rfl ⟨a', ca', some ⟨g, 0, none⟩, cap', rfl, ?_, ?_, ?_⟩
        · simp [results, Tryd.results5, go_sem, *]
        · have h5 := HR1.out.low (base' := w.heap.size + 1 + 1) (Nat.le_refl _)
          refine RowF.low (base := w.heap.size + 1 + 1) ?_ (by omega)
          with_reducible repeat' (first | exact h5 | refine RowF.set ?_ ?_ | omega | (dsimp only; omega))
        · have h5 := HR2.out.low (base' := w.heap.size + 1 + 1) (Nat.le_refl _)
          refine RowF.low (base := w.heap.size + 1 + 1) ?_ (by omega)
          with_reducible repeat' (first | exact h5 | refine RowF.set ?_ ?_ | omega | (dsimp only; omega))
        · with_reducible repeat' (first | exact HB2.out | refine bl_set ?_ ?_)
          all_goals (first | omega | (dsimp only; omega))
end Go.Proofs.YtehmoacggikfmaaDoor
