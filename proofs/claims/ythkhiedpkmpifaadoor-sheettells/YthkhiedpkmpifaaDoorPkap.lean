import Derived.Test.YthkhiedpkmpifaaDoorPkab
import Derived.Test.YthkhiedpkmpifaaDoorPkan
import Derived.Test.YthkhiedpkmpifaaDoorPkao
import Derived.Test.YthkhiedpkmpifaaDoorPkaj
/- A sheet copied, with what room its cells have. -/
namespace Go.Proofs.YthkhiedpkmpifaaDoor
open Go.RowKit

theorem own_rowc {w : World} {base : Nat} {e : TypeId} {size : Nat} {v : Value} {n : Nat} {zs : List Int} (h : w.ownsRow base e size v n (zs.map (fun z => Value.int .i64 z))) (hn : 0 < n) :
    ∃ g cap, v = .slice (some ⟨g, 0, none⟩) n cap ∧ base ≤ g ∧ RowF w base (some ⟨g, 0, none⟩) zs ∧ n ≤ cap := by
  have hlen := h.1
  rcases h.2 with ⟨_, h0⟩ | ⟨g, cap, cur, hv, hb, _, hnc, _⟩
  · omega
  · subst hv
    refine ⟨g, cap, rfl, hb, fun i hi => ⟨g, 0, rfl, hb, ?_⟩, hnc⟩
    have := h.cellAt i (by simp at hlen; omega)
    simp [hi] at this
    simpa using this



set_option maxHeartbeats 3200000 in
theorem sheetOf_cap (W H : Int) (a b : Option Addr) (ca cb n : Nat) (zs ks : List Int) (w : World) (hz : Row w a zs) (hk : Row w b ks) (hn : ks.length = n * 5) (h1 : zs.length ≤ 17592186044416) (h2 : n ≤ 3518437208883) :
    Calls Tryd.prog 33 #[.agg #[.int .i64 W, .int .i64 H, .slice a zs.length ca, .slice b n cb]] w fun e w' => ∃ a' ca' b' cb', e = .returned (.agg #[.int .i64 W, .int .i64 H, .slice a' zs.length ca', .slice b' n cb']) ∧ RowF w' w.heap.size a' zs ∧ RowF w' w.heap.size b' ks ∧ Below w.heap.size w w' ∧ zs.length ≤ ca' := by
  have HZ : Hid (Row w a zs) := hz
  have HK : Hid (Row w b ks) := hk
  have HN : Hid (ks.length = n * 5) := hn
  obtain ⟨i3, hi3, hz0, hz1, hz2⟩ := info_parts inf3
  obtain ⟨i9, hi9, hy0, hy1, hy2⟩ := info_parts inf109
  have HI3 : Hid (Tryd.prog.info? 3 = some i3 ∧ i3.zero = some (.int .i64 0) ∧ i3.size = 1 ∧ i3.bytes = 8) := ⟨hi3, hz0, hz1, hz2⟩
  have HI9 : Hid (Tryd.prog.info? 110 = some i9 ∧ i9.zero = some (.agg #[.int .i64 0, .int .i64 0, .int .i64 0, .int .i64 0, .int .i64 0]) ∧ i9.size = 5 ∧ i9.bytes = 40) := ⟨hi9, hy0, hy1, hy2⟩
  clear hz hk hi3 hz0 hz1 hz2 hi9 hy0 hy1 hy2 hn
  have b0 : Below w.heap.size w ((w.alloc (.cells #[.int .i64 W, .int .i64 H, .slice a zs.length ca, .slice b n cb] 74)).alloc (.cells #[.int .i64 0, .int .i64 0, .slice none 0 0, .slice none 0 0] 74)) := bl_alloc (bl_alloc (bl_refl _))
  have HB0 : Hid (Below w.heap.size w ((w.alloc (.cells #[.int .i64 W, .int .i64 H, .slice a zs.length ca, .slice b n cb] 74)).alloc (.cells #[.int .i64 0, .int .i64 0, .slice none 0 0, .slice none 0 0] 74))) := b0
  clear b0
  go_enter Tryd.func33, Tryd.ntmps33
  go_upto_region 1 with fail
  go_cut [] (fun wx => ∃ a' ca', Sh wx w.heap.size (.int .i64 W) (.int .i64 H) (.slice a' zs.length ca') (.slice b n cb) ∧ Fr wx w.heap.size ∧ Sh wx (w.heap.size + 1) (.int .i64 0) (.int .i64 0) (.slice none 0 0) (.slice none 0 0) ∧ Fr wx (w.heap.size + 1) ∧ RowF wx (w.heap.size + 1 + 1) a' zs ∧ Below w.heap.size w wx ∧ zs.length ≤ ca')
  case first =>
    by_cases he : zs.length = 0
    · have hzz : zs = [] := List.eq_nil_of_length_eq_zero he
      subst hzz
      go_wp2_with (at_builtin; refine wpList_append_nothing _ rfl (.const (.slice none 0 0)) (.tmp 4) 70 rfl 3 i3 Tryd.underlying70 HI3.out.1 a ca rfl rfl ?_)
      go_meet
      case rel =>
        refine ⟨none, 0, ⟨?_, ?_, ?_, ?_⟩, ?_, ⟨?_, ?_, ?_, ?_⟩, ?_, row_nil _ _ _, ?_, by simp⟩
        · simp [go_sem]
        · simp [go_sem]
        · simp [go_sem]
        · simp [go_sem]
        · simp [Fr, go_sem]
        · simp [go_sem]
        · simp [go_sem]
        · simp [go_sem]
        · simp [go_sem]
        · simp [Fr, go_sem]
        · with_reducible repeat' (first | exact bl_refl _ | refine bl_set ?_ ?_ | refine bl_alloc ?_)
          all_goals (first | omega | (dsimp only; omega))
    · obtain ⟨ba, off, rfl, hc⟩ := row_at (HZ.out.kept HB0.out) (by omega)
      have HC : Hid (∀ j u, (zs.map (fun z => Value.int .i64 z))[j]? = some u → ((w.alloc (.cells #[.int .i64 W, .int .i64 H, .slice (some ⟨ba, off, none⟩) zs.length ca, .slice b n cb] 74)).alloc (.cells #[.int .i64 0, .int .i64 0, .slice none 0 0, .slice none 0 0] 74)).cell? ((⟨ba, off, none⟩ : Addr).add j) = some u) := hc
      clear hc
      go_wp2_with (at_builtin; refine wpList_append_grows _ rfl (.const (.slice none 0 0)) (.tmp 4) 70 rfl 3 i3 (.int .i64 0) 1 8 Tryd.underlying70 HI3.out.1 HI3.out.2.1 HI3.out.2.2.1 HI3.out.2.2.2 rfl (by decide) none 0 0 [] rfl (fun _ => ⟨rfl, rfl⟩) rfl (by intro _ h; simp at h) ⟨ba, off, none⟩ zs.length ca (zs.map (fun z => Value.int .i64 z)) rfl (by simp) (by intro j u hu; exact HC.out j u hu) (by intro u hu; obtain ⟨z, _, rfl⟩ := List.mem_map.1 hu; rfl) (by omega) (by unfold maxLen; omega) (by omega) ?grow)
      case grow =>
        intro v' w' hown hgrow
        have hbel : Below ((w.alloc (.cells #[.int .i64 W, .int .i64 H, .slice (some ⟨ba, off, none⟩) zs.length ca, .slice b n cb] 74)).alloc (.cells #[.int .i64 0, .int .i64 0, .slice none 0 0, .slice none 0 0] 74)).heap.size ((w.alloc (.cells #[.int .i64 W, .int .i64 H, .slice (some ⟨ba, off, none⟩) zs.length ca, .slice b n cb] 74)).alloc (.cells #[.int .i64 0, .int .i64 0, .slice none 0 0, .slice none 0 0] 74)) w' := (Below.refl _ _).grown hgrow (Nat.le_refl _) (fun k h => by cases h)
        obtain ⟨g, cap', rfl, hg, hrow, hcap'⟩ := own_rowc (by simpa using hown) (by omega)
        have HCAP : Hid (zs.length ≤ cap') := by first | exact hcap' | (show _ ≤ _; omega)
        clear hcap'
        have HR : Hid (RowF w' (w.heap.size + 1 + 1) (some ⟨g, 0, none⟩) zs) := hrow.low (by simp)
        have HB : Hid (Below w.heap.size w w') := bl_via HB0.out hbel
        have s0 : w'.cell? ⟨w.heap.size, 0, none⟩ = some (.int .i64 W) := cl_kept hbel (by simp [go_sem])
        have s1 : w'.cell? ⟨w.heap.size, 1, none⟩ = some (.int .i64 H) := cl_kept hbel (by simp [go_sem])
        have s2 : w'.cell? ⟨w.heap.size, 2, none⟩ = some (.slice (some ⟨ba, off, none⟩) zs.length ca) := cl_kept hbel (by simp [go_sem])
        have s3 : w'.cell? ⟨w.heap.size, 3, none⟩ = some (.slice b n cb) := cl_kept hbel (by simp [go_sem])
        have sf0 : w'.frozen? ⟨w.heap.size, 0, none⟩ = false := (hbel.frozen (p := ⟨w.heap.size, 0, none⟩) (by simp <;> omega)).trans (by simp [go_sem])
        have sf1 : w'.frozen? ⟨w.heap.size, 1, none⟩ = false := (hbel.frozen (p := ⟨w.heap.size, 1, none⟩) (by simp <;> omega)).trans (by simp [go_sem])
        have sf2 : w'.frozen? ⟨w.heap.size, 2, none⟩ = false := (hbel.frozen (p := ⟨w.heap.size, 2, none⟩) (by simp <;> omega)).trans (by simp [go_sem])
        have sf3 : w'.frozen? ⟨w.heap.size, 3, none⟩ = false := (hbel.frozen (p := ⟨w.heap.size, 3, none⟩) (by simp <;> omega)).trans (by simp [go_sem])
        have sf4 : w'.frozen? ⟨w.heap.size, 4, none⟩ = false := (hbel.frozen (p := ⟨w.heap.size, 4, none⟩) (by simp <;> omega)).trans (by simp [go_sem])
        have sf5 : w'.frozen? ⟨w.heap.size, 5, none⟩ = false := (hbel.frozen (p := ⟨w.heap.size, 5, none⟩) (by simp <;> omega)).trans (by simp [go_sem])
        have r0 : w'.cell? ⟨w.heap.size + 1, 0, none⟩ = some (.int .i64 0) := cl_kept hbel (by simp [go_sem])
        have r1 : w'.cell? ⟨w.heap.size + 1, 1, none⟩ = some (.int .i64 0) := cl_kept hbel (by simp [go_sem])
        have r2 : w'.cell? ⟨w.heap.size + 1, 2, none⟩ = some (.slice none 0 0) := cl_kept hbel (by simp [go_sem])
        have r3 : w'.cell? ⟨w.heap.size + 1, 3, none⟩ = some (.slice none 0 0) := cl_kept hbel (by simp [go_sem])
        have rf0 : w'.frozen? ⟨w.heap.size + 1, 0, none⟩ = false := (hbel.frozen (p := ⟨w.heap.size + 1, 0, none⟩) (by simp <;> omega)).trans (by simp [go_sem])
        have rf1 : w'.frozen? ⟨w.heap.size + 1, 1, none⟩ = false := (hbel.frozen (p := ⟨w.heap.size + 1, 1, none⟩) (by simp <;> omega)).trans (by simp [go_sem])
        have rf2 : w'.frozen? ⟨w.heap.size + 1, 2, none⟩ = false := (hbel.frozen (p := ⟨w.heap.size + 1, 2, none⟩) (by simp <;> omega)).trans (by simp [go_sem])
        have rf3 : w'.frozen? ⟨w.heap.size + 1, 3, none⟩ = false := (hbel.frozen (p := ⟨w.heap.size + 1, 3, none⟩) (by simp <;> omega)).trans (by simp [go_sem])
        have rf4 : w'.frozen? ⟨w.heap.size + 1, 4, none⟩ = false := (hbel.frozen (p := ⟨w.heap.size + 1, 4, none⟩) (by simp <;> omega)).trans (by simp [go_sem])
        have rf5 : w'.frozen? ⟨w.heap.size + 1, 5, none⟩ = false := (hbel.frozen (p := ⟨w.heap.size + 1, 5, none⟩) (by simp <;> omega)).trans (by simp [go_sem])
        have zs0 : w.heap.size < w'.heap.size := World.block_lt_of_cell? _ _ s0
        have zr0 : w.heap.size + 1 < w'.heap.size := World.block_lt_of_cell? _ _ r0
        have zg0 : w.heap.size + 1 < g := by first | omega | (simp at hg; omega)
        clear hbel hrow hown hgrow hg HC
        go_wp2
        go_meet
        case rel =>
          refine ⟨some ⟨g, 0, none⟩, cap', ⟨?_, ?_, ?_, ?_⟩, ?_, ⟨?_, ?_, ?_, ?_⟩, ?_, ?_, ?_, HCAP.out⟩
          · simp [go_sem, s0]
          · simp [go_sem, s1]
          · simp [go_sem, s2]
          · simp [go_sem, s3]
          · simp [Fr, go_sem, sf0, sf1, sf2, sf3, sf4, sf5]
          · simp [go_sem, r0]
          · simp [go_sem, r1]
          · simp [go_sem, r2]
          · simp [go_sem, r3]
          · simp [Fr, go_sem, rf0, rf1, rf2, rf3, rf4, rf5]
          · exact HR.out.set (by dsimp only; omega)
          · exact bl_set HB.out (by dsimp only; omega)
  case rest =>
    obtain ⟨a', ca', ⟨s0, s1, s2, s3⟩, ⟨sf0, sf1, sf2, sf3, sf4, sf5⟩, ⟨r0, r1, r2, r3⟩, ⟨rf0, rf1, rf2, rf3, rf4, rf5⟩, hRow, hB, hcap⟩ := hcut
    have HCAP : Hid (zs.length ≤ ca') := hcap
    clear hcap
    have HR : Hid (RowF wc (w.heap.size + 1 + 1) a' zs) := hRow
    have HB : Hid (Below w.heap.size w wc) := hB
    have zs0 : w.heap.size < wc.heap.size := World.block_lt_of_cell? _ _ s0
    have zr0 : w.heap.size + 1 < wc.heap.size := World.block_lt_of_cell? _ _ r0
    have HKc : Hid (Row wc b ks) := HK.out.kept hB
    clear hRow hB HB0
    by_cases he : n = 0
    · have hkk : ks = [] := List.eq_nil_of_length_eq_zero (by rw [HN.out, he])
      subst hkk he
      go_wp2_with (at_builtin; refine wpList_append_nothing _ rfl (.const (.slice none 0 0)) (.tmp 8) 72 rfl 110 i9 Tryd.underlying72 HI9.out.1 b cb rfl rfl ?_)
      refine bodyPost_ret (v := .agg #[.int .i64 W, .int .i64 H, .slice a' zs.length ca', .slice none 0 0]) ?_ rfl ⟨a', ca', none, 0, rfl, ?_, row_nil _ _ _, ?_, HCAP.out⟩
      · simp [results, Tryd.results33, go_sem, *]
      · have h5 := HR.out.low (base' := w.heap.size + 1 + 1) (Nat.le_refl _)
        refine RowF.low (base := w.heap.size + 1 + 1) ?_ (by omega)
        with_reducible repeat' (first | exact h5 | refine RowF.set ?_ ?_ | omega | (dsimp only; omega))
      · with_reducible repeat' (first | exact HB.out | refine bl_set ?_ ?_)
        all_goals (first | omega | (dsimp only; omega))
    · obtain ⟨bb, off, rfl, hc⟩ := row_at HKc.out (by rw [HN.out]; omega)
      have HC : Hid (∀ j u, (ks.map (fun z => Value.int .i64 z))[j]? = some u → wc.cell? ((⟨bb, off, none⟩ : Addr).add j) = some u) := hc
      clear hc
      go_wp2_with (at_builtin; refine wpList_append_grows _ rfl (.const (.slice none 0 0)) (.tmp 8) 72 rfl 110 i9 (.agg #[.int .i64 0, .int .i64 0, .int .i64 0, .int .i64 0, .int .i64 0]) 5 40 Tryd.underlying72 HI9.out.1 HI9.out.2.1 HI9.out.2.2.1 HI9.out.2.2.2 rfl (by decide) none 0 0 [] rfl (fun _ => ⟨rfl, rfl⟩) rfl (by intro _ h; simp at h) ⟨bb, off, none⟩ n cb (ks.map (fun z => Value.int .i64 z)) rfl (by rw [List.length_map]; exact HN.out) (by intro j u hu; exact HC.out j u hu) (by intro u hu; obtain ⟨z, _, rfl⟩ := List.mem_map.1 hu; rfl) (by omega) (by unfold maxLen; omega) (by omega) ?grow)
      case grow =>
        intro v' w' hown hgrow
        have hbel : Below wc.heap.size wc w' := (Below.refl _ _).grown hgrow (Nat.le_refl _) (fun k h => by cases h)
        obtain ⟨g, cap', rfl, hg, hrow⟩ := own_row (n := n) (by simpa using hown) (by omega)
        have HR2 : Hid (RowF w' (w.heap.size + 1 + 1) (some ⟨g, 0, none⟩) ks) := hrow.low (by omega)
        have HR1 : Hid (RowF w' (w.heap.size + 1 + 1) a' zs) := HR.out.kept hbel
        have HB2 : Hid (Below w.heap.size w w') := bl_via HB.out hbel
        have s0' : w'.cell? ⟨w.heap.size, 0, none⟩ = some (.int .i64 W) := cl_kept hbel s0
        have s1' : w'.cell? ⟨w.heap.size, 1, none⟩ = some (.int .i64 H) := cl_kept hbel s1
        have s2' : w'.cell? ⟨w.heap.size, 2, none⟩ = some (.slice a' zs.length ca') := cl_kept hbel s2
        have s3' : w'.cell? ⟨w.heap.size, 3, none⟩ = some (.slice (some ⟨bb, off, none⟩) n cb) := cl_kept hbel s3
        have sf0' : w'.frozen? ⟨w.heap.size, 0, none⟩ = false := (hbel.frozen (p := ⟨w.heap.size, 0, none⟩) (by dsimp only; omega)).trans sf0
        have sf1' : w'.frozen? ⟨w.heap.size, 1, none⟩ = false := (hbel.frozen (p := ⟨w.heap.size, 1, none⟩) (by dsimp only; omega)).trans sf1
        have sf2' : w'.frozen? ⟨w.heap.size, 2, none⟩ = false := (hbel.frozen (p := ⟨w.heap.size, 2, none⟩) (by dsimp only; omega)).trans sf2
        have sf3' : w'.frozen? ⟨w.heap.size, 3, none⟩ = false := (hbel.frozen (p := ⟨w.heap.size, 3, none⟩) (by dsimp only; omega)).trans sf3
        have r0' : w'.cell? ⟨w.heap.size + 1, 0, none⟩ = some (.int .i64 0) := cl_kept hbel r0
        have r1' : w'.cell? ⟨w.heap.size + 1, 1, none⟩ = some (.int .i64 0) := cl_kept hbel r1
        have r2' : w'.cell? ⟨w.heap.size + 1, 2, none⟩ = some (.slice none 0 0) := cl_kept hbel r2
        have r3' : w'.cell? ⟨w.heap.size + 1, 3, none⟩ = some (.slice none 0 0) := cl_kept hbel r3
        have rf0' : w'.frozen? ⟨w.heap.size + 1, 0, none⟩ = false := (hbel.frozen (p := ⟨w.heap.size + 1, 0, none⟩) (by dsimp only; omega)).trans rf0
        have rf1' : w'.frozen? ⟨w.heap.size + 1, 1, none⟩ = false := (hbel.frozen (p := ⟨w.heap.size + 1, 1, none⟩) (by dsimp only; omega)).trans rf1
        have rf2' : w'.frozen? ⟨w.heap.size + 1, 2, none⟩ = false := (hbel.frozen (p := ⟨w.heap.size + 1, 2, none⟩) (by dsimp only; omega)).trans rf2
        have rf3' : w'.frozen? ⟨w.heap.size + 1, 3, none⟩ = false := (hbel.frozen (p := ⟨w.heap.size + 1, 3, none⟩) (by dsimp only; omega)).trans rf3
        have zs1 : w.heap.size < w'.heap.size := World.block_lt_of_cell? _ _ s0'
        have zr1 : w.heap.size + 1 < w'.heap.size := World.block_lt_of_cell? _ _ r0'
        clear hbel hrow hown hgrow hg HC HR HB HKc
        go_wp2
        refine bodyPost_ret (v := .agg #[.int .i64 W, .int .i64 H, .slice a' zs.length ca', .slice (some ⟨g, 0, none⟩) n cap']) ?_ rfl ⟨a', ca', some ⟨g, 0, none⟩, cap', rfl, ?_, ?_, ?_, HCAP.out⟩
        · simp [results, Tryd.results33, go_sem, *]
        · have h5 := HR1.out.low (base' := w.heap.size + 1 + 1) (Nat.le_refl _)
          refine RowF.low (base := w.heap.size + 1 + 1) ?_ (by omega)
          with_reducible repeat' (first | exact h5 | refine RowF.set ?_ ?_ | omega | (dsimp only; omega))
        · have h5 := HR2.out.low (base' := w.heap.size + 1 + 1) (Nat.le_refl _)
          refine RowF.low (base := w.heap.size + 1 + 1) ?_ (by omega)
          with_reducible repeat' (first | exact h5 | refine RowF.set ?_ ?_ | omega | (dsimp only; omega))
        · with_reducible repeat' (first | exact HB2.out | refine bl_set ?_ ?_)
          all_goals (first | omega | (dsimp only; omega))
end Go.Proofs.YthkhiedpkmpifaaDoor

/- What the faces of package sheet answer of a sheet that may be. -/
namespace Go.Proofs.YthkhiedpkmpifaaDoor
open Go.RowKit Go.ChangeMaps

set_option maxRecDepth 100000 in
set_option maxHeartbeats 1600000 in
theorem sameTris_yes (a c : Option Addr) (ca cc : Nat) (L : List (Int × Int × Int)) (w : World) (hL : L.length ≤ 300) (ha : TRow w a L) (hc : TRow w c L) :
    Calls Tryd.prog 37 #[.slice a L.length ca, .slice c L.length cc] w fun e w' => e = .returned (.bool true) ∧ Below w.heap.size w w' := by
  have HA : Hid (TRow w a L) := ha
  have HC : Hid (TRow w c L) := hc
  clear ha hc
  go_enter Tryd.func37, Tryd.ntmps37
  go_wp2
  go_loopg [5] L.length (fun gk s5 wx => ∃ i : Nat, i ≤ L.length ∧ gk = L.length - i ∧ s5 = .int .i64 (i : Int) ∧ Below w.heap.size w wx)
  case atStart => exact ⟨0, by omega, rfl, rfl, bl_refl _⟩
  case round =>
    obtain ⟨i, hi, rfl, rfl, hB⟩ := hrel
    have HB : Hid (Below w.heap.size w wr) := hB
    clear hB
    by_cases h1 : i < L.length
    · have i1 : (i : Int) < (L.length : Int) := by omega
      have i0 : (0 : Int) ≤ (i : Int) := by omega
      obtain ⟨g, rfl, t0, t1, t2⟩ := (HA.out.kept HB.out) i h1
      obtain ⟨g', rfl, u0, u1, u2⟩ := (HC.out.kept HB.out) i h1
      have z1 : g < wr.heap.size := World.block_lt_of_cell? _ _ t0
      have z2 : g' < wr.heap.size := World.block_lt_of_cell? _ _ u0
      obtain ⟨x, hx⟩ : ∃ x, x = L[i].1 := ⟨_, rfl⟩
      obtain ⟨y, hy⟩ : ∃ y, y = L[i].2.1 := ⟨_, rfl⟩
      obtain ⟨k, hk⟩ : ∃ k, k = L[i].2.2 := ⟨_, rfl⟩
      rw [← hx] at t0 u0
      rw [← hy] at t1 u1
      rw [← hk] at t2 u2
      have hneq : ∀ w' : World, (binOp .neq 23 (.agg #[.int .i64 x, .int .i64 y, .int .i64 k]) (.agg #[.int .i64 x, .int .i64 y, .int .i64 k])).run Tryd.prog w' = .ok (.bool false) w' := fun w' => by
        have := neq23 x y k x y k w'
        simpa [sameT] using this
      clear hx hy hk
      have kc := Kin.cells wr
      have kn : Nonempty (Kin wr) := ⟨⟨wr, bl_refl _⟩⟩
      go_wp2
      refine wp_region_kin (by kernel_rfl) (by kernel_rfl) ?_
      repeat (go_big_quiet_step (fail))
      refine wpQuiet_nil ?_
      intro wq hw'
      obtain ⟨nq, hw''⟩ := hw'
      have hq : Below wr.heap.size wr wq := hw'' ▸ nq.h
      have HQ : Hid (Below w.heap.size w wq) := bl_via HB.out hq
      clear hw'' nq hq kc kn
      go_wp2
      go_roundg (L.length - (i + 1))
      case measure => omega
      case rel => exact ⟨i + 1, by omega, rfl, by go_num, HQ.out⟩
    · have i1 : ¬ (i : Int) < (L.length : Int) := by omega
      go_wp2
      go_ret
      exact ⟨rfl, HB.out⟩

theorem has_bd {x y k p q r s : Int} (h : hasB x y k p q r s = true) (hx : 0 ≤ x ∧ x ≤ 8) (hy : 0 ≤ y ∧ y ≤ 8) (hk : 0 ≤ k ∧ k ≤ 3) : (0 ≤ p ∧ p < 100) ∧ (0 ≤ q ∧ q < 100) ∧ (0 ≤ r ∧ r < 100) ∧ (0 ≤ s ∧ s < 100) := by
  rw [hasB_or] at h
  have hk4 : k = 0 ∨ k = 1 ∨ k = 2 ∨ k = 3 := by omega
  rcases hk4 with rfl | rfl | rfl | rfl <;> simp only [e0_0, e0_1, e0_2, e0_3, e1_0, e1_1, e1_2, e1_3, e2_0, e2_1, e2_2, e2_3] at h <;> omega
theorem cr_bd {L : List (Int × Int × Int)} {ks : List Int} {n : Nat} (hL : ∀ t ∈ L, (0 ≤ t.1 ∧ t.1 ≤ 8) ∧ (0 ≤ t.2.1 ∧ t.2.1 ≤ 8) ∧ (0 ≤ t.2.2 ∧ t.2.2 ≤ 3)) (h : ∀ i, i < n → CrOk L ks i) : ∀ i, i < n → ∀ j, j < 4 → 0 ≤ ck ks i j ∧ ck ks i j < 100 := fun i hi j hj => by
  have hc := (h i hi).2.2
  have hp : 0 < cnt L (ck ks i 0) (ck ks i 1) (ck ks i 2) (ck ks i 3) := by omega
  obtain ⟨t, ht, hh⟩ := List.countP_pos_iff.1 hp
  have hb := hL t ht
  have := has_bd hh hb.1 hb.2.1 hb.2.2
  have h4 : j = 0 ∨ j = 1 ∨ j = 2 ∨ j = 3 := by omega
  rcases h4 with rfl | rfl | rfl | rfl
  · exact this.1
  · exact this.2.1
  · exact this.2.2.1
  · exact this.2.2.2

set_option maxHeartbeats 1600000 in
theorem May_yes (W H : Int) (a c : Option Addr) (n1 n2 ca cc : Nat) (L : List (Int × Int × Int)) (w : World) (hcall : ∀ W' : World, Below w.heap.size w W' → Calls Tryd.prog 72 #[.agg #[.int .i64 W, .int .i64 H, .slice a n1 ca, .slice c n2 cc]] W' fun e w' => ∃ ad c1 ra rk, e = .returned (.tuple #[.agg #[.slice ad L.length c1, .map (some ra), .map (some rk)], .bool true]) ∧ TRow w' ad L ∧ Below W'.heap.size W' w') :
    Calls Tryd.prog 32 #[.agg #[.int .i64 W, .int .i64 H, .slice a n1 ca, .slice c n2 cc]] w fun e w' => e = .returned (.bool true) ∧ Below w.heap.size w w' := by
  have HC : Hid (∀ W' : World, Below w.heap.size w W' → Calls Tryd.prog 72 #[.agg #[.int .i64 W, .int .i64 H, .slice a n1 ca, .slice c n2 cc]] W' fun e w' => ∃ ad c1 ra rk, e = .returned (.tuple #[.agg #[.slice ad L.length c1, .map (some ra), .map (some rk)], .bool true]) ∧ TRow w' ad L ∧ Below W'.heap.size W' w') := hcall
  clear hcall
  go_enter Tryd.func32, Tryd.ntmps32
  go_wp2_with (go_at_call 72; refine (HC.out _ (by with_reducible exact bl_alloc (bl_refl _))).mono ?_; rintro e w2 ⟨ad, c1, ra, rk, rfl, hT, hb⟩; have HB : Hid (Below w.heap.size w w2 ∧ TRow w2 ad L) := ⟨bl_via (bl_alloc (bl_refl _)) hb, hT⟩; clear hb hT)
  go_ret
  exact ⟨rfl, bl_alloc HB.out.1⟩
set_option maxHeartbeats 1600000 in
theorem Tris_yes (W H : Int) (a c : Option Addr) (n1 n2 ca cc : Nat) (L : List (Int × Int × Int)) (w : World) (hcall : ∀ W' : World, Below w.heap.size w W' → Calls Tryd.prog 72 #[.agg #[.int .i64 W, .int .i64 H, .slice a n1 ca, .slice c n2 cc]] W' fun e w' => ∃ ad c1 ra rk, e = .returned (.tuple #[.agg #[.slice ad L.length c1, .map (some ra), .map (some rk)], .bool true]) ∧ TRow w' ad L ∧ Below W'.heap.size W' w') :
    Calls Tryd.prog 34 #[.agg #[.int .i64 W, .int .i64 H, .slice a n1 ca, .slice c n2 cc]] w fun e w' => ∃ ad c1, e = .returned (.tuple #[.slice ad L.length c1, .int .i64 0]) ∧ TRow w' ad L ∧ Below w.heap.size w w' := by
  have HC : Hid (∀ W' : World, Below w.heap.size w W' → Calls Tryd.prog 72 #[.agg #[.int .i64 W, .int .i64 H, .slice a n1 ca, .slice c n2 cc]] W' fun e w' => ∃ ad c1 ra rk, e = .returned (.tuple #[.agg #[.slice ad L.length c1, .map (some ra), .map (some rk)], .bool true]) ∧ TRow w' ad L ∧ Below W'.heap.size W' w') := hcall
  clear hcall
  go_enter Tryd.func34, Tryd.ntmps34
  go_wp2_with (go_at_call 72; refine (HC.out _ (by with_reducible exact bl_alloc (bl_refl _))).mono ?_; rintro e w2 ⟨ad, c1, ra, rk, rfl, hT, hb⟩; have HB : Hid (Below w.heap.size w w2 ∧ TRow w2 ad L) := ⟨bl_via (bl_alloc (bl_refl _)) hb, hT⟩; clear hb hT)
  go_ret2
  exact ⟨ad, c1, rfl, HB.out.2.kept (bl_alloc (bl_refl _)), bl_alloc HB.out.1⟩
set_option maxHeartbeats 1600000 in
theorem Show_yes (W H : Int) (a c : Option Addr) (n1 n2 ca cc : Nat) (L : List (Int × Int × Int)) (w : World) (t : ByteArray) (hcall : ∀ W' : World, Below w.heap.size w W' → Calls Tryd.prog 72 #[.agg #[.int .i64 W, .int .i64 H, .slice a n1 ca, .slice c n2 cc]] W' fun e w' => ∃ ad c1 ra rk, e = .returned (.tuple #[.agg #[.slice ad L.length c1, .map (some ra), .map (some rk)], .bool true]) ∧ TRow w' ad L ∧ Below W'.heap.size W' w') (hshow : ∀ W' : World, Below w.heap.size w W' → Calls Tryd.prog 73 #[.agg #[.int .i64 W, .int .i64 H, .slice a n1 ca, .slice c n2 cc]] W' fun e w' => e = .returned (.string t) ∧ Below W'.heap.size W' w') :
    Calls Tryd.prog 35 #[.agg #[.int .i64 W, .int .i64 H, .slice a n1 ca, .slice c n2 cc]] w fun e w' => e = .returned (.tuple #[.string t, .int .i64 0]) ∧ Below w.heap.size w w' := by
  have HC : Hid (∀ W' : World, Below w.heap.size w W' → Calls Tryd.prog 32 #[.agg #[.int .i64 W, .int .i64 H, .slice a n1 ca, .slice c n2 cc]] W' fun e w' => e = .returned (.bool true) ∧ Below W'.heap.size W' w') := fun W' hW' => May_yes W H a c n1 n2 ca cc L W' (fun W2 hW2 => hcall W2 (bl_via hW' hW2))
  have HS : Hid (∀ W' : World, Below w.heap.size w W' → Calls Tryd.prog 73 #[.agg #[.int .i64 W, .int .i64 H, .slice a n1 ca, .slice c n2 cc]] W' fun e w' => e = .returned (.string t) ∧ Below W'.heap.size W' w') := hshow
  clear hcall hshow
  go_enter Tryd.func35, Tryd.ntmps35
  go_wp2_with (first
    | (go_at_call 32; refine (HC.out _ (by with_reducible exact bl_alloc (bl_refl _))).mono ?_; rintro e w2 ⟨rfl, hb⟩; have HB : Hid (Below w.heap.size w w2) := bl_via (bl_alloc (bl_refl _)) hb; have s0 : w2.cell? ⟨w.heap.size, 0, none⟩ = some (.int .i64 W) := cl_kept hb (by simp [go_sem]); have s1 : w2.cell? ⟨w.heap.size, 1, none⟩ = some (.int .i64 H) := cl_kept hb (by simp [go_sem]); have s2 : w2.cell? ⟨w.heap.size, 2, none⟩ = some (.slice a n1 ca) := cl_kept hb (by simp [go_sem]); have s3 : w2.cell? ⟨w.heap.size, 3, none⟩ = some (.slice c n2 cc) := cl_kept hb (by simp [go_sem]); clear hb)
    | (go_at_call 73; refine (HS.out _ HB.out).mono ?_; rintro e w3 ⟨rfl, hb⟩; have HB3 : Hid (Below w.heap.size w w3) := bl_via HB.out hb; clear hb))
  go_ret2
  exact ⟨rfl, HB3.out⟩
end Go.Proofs.YthkhiedpkmpifaaDoor

/- The law SheetTells, where a sheet's cells may be. -/
namespace Go.Proofs.YthkhiedpkmpifaaDoor
open Go.RowKit Go.ChangeMaps

set_option maxRecDepth 100000 in
set_option maxHeartbeats 6400000 in
theorem sheetTells_good (W H b off cap n ccap : Nat) (cb : Option Addr) (zs ks : List Int) (w : World) (hr : Row w (some ⟨b, off, none⟩) zs) (hW : 1 ≤ W ∧ W ≤ 8) (hH : 1 ≤ H ∧ H ≤ 8) (hl : zs.length = W * H) (hm : maskB zs = true) (hk : Row w cb ks) (hn : ks.length = n * 5) (hn2 : n ≤ 3518437208883) (hs : Steps w) (hJ : Joined (ty zs W H)) (hC : ∀ i, i < n → CrOk (ty zs W H) ks i) :
    Calls Tryd.prog 8 #[.agg #[.int .i64 (W : Int), .int .i64 (H : Int), .slice (some ⟨b, off, none⟩) zs.length cap, .slice cb n ccap]] w fun e w' => e = .returned (.bool true) ∧ Below w.heap.size w w' := by
  have HR : Hid (Row w (some ⟨b, off, none⟩) zs) := hr
  have HK : Hid (Row w cb ks) := hk
  have h64 : zs.length ≤ 64 := by rw [hl]; exact Nat.le_trans (Nat.mul_le_mul hW.2 hH.2) (by decide)
  have h0 : 0 < zs.length := by
    rw [hl]
    exact Nat.mul_pos (by omega) (by omega)
  have HN0 : Hid (0 < zs.length) := h0
  have HN : Hid (ks.length = n * 5 ∧ zs.length ≤ 17592186044416 ∧ n ≤ 3518437208883) := ⟨hn, by omega, hn2⟩
  have hlen : (ty zs W H).length ≤ 300 := by have := ty_len zs W H hW.2; omega
  have CM : Hid (∀ W' : World, Below w.heap.size w W' → Calls Tryd.prog 36 #[.agg #[.int .i64 (W : Int), .int .i64 (H : Int), .slice (some ⟨b, off, none⟩) zs.length cap, .slice cb n ccap]] W' fun e w' => ∃ bb : Bool, e = .returned (.bool bb) ∧ (bb = true ↔ ((∀ i, i < n → CrOk (ty zs W H) ks i) ∧ Joined (ty zs W H))) ∧ Below W'.heap.size W' w') := fun W' hW' => sheetMay_any W H b off cap n ccap cb zs ks W' (hr.kept hW') hW hH hl hm (hk.kept hW') hn hn2
  have hcr := cr_bd (ty_bd hW.2 hH.2) hC
  have CLAY : Hid (∀ (W' : World) (ba oa ca : Nat) (bc : Option Addr) (cc : Nat), Below w.heap.size w W' → Row W' (some ⟨ba, oa, none⟩) zs → Row W' bc ks → Calls Tryd.prog 72 #[.agg #[.int .i64 (W : Int), .int .i64 (H : Int), .slice (some ⟨ba, oa, none⟩) zs.length ca, .slice bc n cc]] W' fun e w' => ∃ ad c1 ra rk, e = .returned (.tuple #[.agg #[.slice ad (ty zs W H).length c1, .map (some ra), .map (some rk)], .bool true]) ∧ TRow w' ad (ty zs W H) ∧ Below W'.heap.size W' w') := fun W' ba oa ca bc cc hb q1 q2 =>
    (lay_yes W H ba oa ca n cc bc zs ks W' q1 hW hH hl hm q2 hn hn2 (hs.kept hb) hJ hC).mono fun e w' ⟨ad, c1, base, ra, rk, he, hP⟩ => ⟨ad, c1, ra, rk, he, hP.pa.1, hP.2.2.2.2⟩
  have CSH : Hid (∀ (W' : World) (ba oa ca : Nat) (bc : Option Addr) (cc : Nat), Row W' (some ⟨ba, oa, none⟩) zs → Row W' bc ks → zs.length ≤ ca → Calls Tryd.prog 73 #[.agg #[.int .i64 (W : Int), .int .i64 (H : Int), .slice (some ⟨ba, oa, none⟩) zs.length ca, .slice bc n cc]] W' fun e w' => e = .returned (.string ⟨(shT zs ks W H n).toArray⟩) ∧ Below W'.heap.size W' w') := fun W' ba oa ca bc cc q1 q2 q3 => show_any W H ba oa ca n cc bc zs ks W' q1 hW hH hl hm q3 q2 hn hn2 hcr
  have CT : Hid (∀ W' : World, Below w.heap.size w W' → Calls Tryd.prog 38 #[.agg #[.int .i64 (W : Int), .int .i64 (H : Int), .slice (some ⟨b, off, none⟩) zs.length cap, .slice cb n ccap]] W' fun e w' => ∃ v, e = .returned v ∧ w'.ownsRow (W'.heap.size + 1) 23 3 v (ty zs W H).length (flatV (ty zs W H)) ∧ Below W'.heap.size W' w') := fun W' hW' => trisOf_any W H b off cap zs _ W' (hr.kept hW') hW hH hl hm
  have CX : Hid (∀ W' : World, Below w.heap.size w W' → Calls Tryd.prog 39 #[.agg #[.int .i64 (W : Int), .int .i64 (H : Int), .slice (some ⟨b, off, none⟩) zs.length cap, .slice cb n ccap]] W' fun e w' => ∃ t, e = .returned (.string t) ∧ t.data.toList = shT zs ks W H n ∧ Below W'.heap.size W' w') := fun W' hW' => sheetText_any W H b off cap n ccap cb zs ks W' (hr.kept hW') hW hH hl hm (hk.kept hW') hn hn2 hcr
  obtain ⟨tS, hTS⟩ : ∃ tS : ByteArray, tS = ⟨(shT zs ks W H n).toArray⟩ := ⟨_, rfl⟩
  rw [← hTS] at CSH
  have HTS : Hid (tS = ⟨(shT zs ks W H n).toArray⟩) := hTS
  have HOK : Hid ((∀ i, i < n → CrOk (ty zs W H) ks i) ∧ Joined (ty zs W H)) := ⟨hC, hJ⟩
  clear hr hk hl hm hW hH hn hs hJ hC hcr hTS h0
  obtain ⟨L, hL⟩ : ∃ L, L = ty zs W H := ⟨_, rfl⟩
  rw [← hL] at CLAY CM CT HOK hlen
  clear hL
  go_enter Tryd.func8, Tryd.ntmps8
  go_wp2_with (first
    | (go_at_call 33; have _t := HT; refine (sheetOf_cap (W : Int) (H : Int) (some ⟨b, off, none⟩) cb cap ccap n zs ks _ (HR.out.kept (by with_reducible (first | exact HB.out | exact bl_alloc (bl_refl _)))) (HK.out.kept (by with_reducible (first | exact HB.out | exact bl_alloc (bl_refl _)))) HN.out.1 HN.out.2.1 HN.out.2.2).mono ?_; rintro e w2 ⟨a1, ca1, bc1, cc1, rfl, hrow, hrk, hb, hcp⟩; obtain ⟨ba, oa, rfl, _⟩ := hrow.row 0 HN0.out; have HRow : Hid (Row w2 (some ⟨ba, oa, none⟩) zs ∧ Row w2 bc1 ks ∧ zs.length ≤ ca1) := ⟨hrow.row, hrk.row, hcp⟩; have s0 : w2.cell? ⟨w.heap.size, 0, none⟩ = some (.int .i64 (W : Int)) := cl_kept hb (by first | (with_reducible assumption) | (simp [go_sem]; done)); have s1 : w2.cell? ⟨w.heap.size, 1, none⟩ = some (.int .i64 (H : Int)) := cl_kept hb (by first | (with_reducible assumption) | (simp [go_sem]; done)); have s2 : w2.cell? ⟨w.heap.size, 2, none⟩ = some (.slice (some ⟨b, off, none⟩) zs.length cap) := cl_kept hb (by first | (with_reducible assumption) | (simp [go_sem]; done)); have s3 : w2.cell? ⟨w.heap.size, 3, none⟩ = some (.slice cb n ccap) := cl_kept hb (by first | (with_reducible assumption) | (simp [go_sem]; done)); have hq : Below w.heap.size w w2 := (by with_reducible (first | exact bl_via HB.out hb | exact bl_via (bl_alloc (bl_refl _)) hb)); have HB : Hid (Below w.heap.size w w2) := hq; have zs0 : w.heap.size < w2.heap.size := World.block_lt_of_cell? _ _ s0; clear hq; have HT : Hid (TRow w2 ad L) := HT.out.kept hb; clear hb hrow hrk hcp; clear _t)
    | (go_at_call 33; refine (sheetOf_cap (W : Int) (H : Int) (some ⟨b, off, none⟩) cb cap ccap n zs ks _ (HR.out.kept (by with_reducible (first | exact HB.out | exact bl_alloc (bl_refl _)))) (HK.out.kept (by with_reducible (first | exact HB.out | exact bl_alloc (bl_refl _)))) HN.out.1 HN.out.2.1 HN.out.2.2).mono ?_; rintro e w2 ⟨a1, ca1, bc1, cc1, rfl, hrow, hrk, hb, hcp⟩; obtain ⟨ba, oa, rfl, _⟩ := hrow.row 0 HN0.out; have HRow : Hid (Row w2 (some ⟨ba, oa, none⟩) zs ∧ Row w2 bc1 ks ∧ zs.length ≤ ca1) := ⟨hrow.row, hrk.row, hcp⟩; have s0 : w2.cell? ⟨w.heap.size, 0, none⟩ = some (.int .i64 (W : Int)) := cl_kept hb (by first | (with_reducible assumption) | (simp [go_sem]; done)); have s1 : w2.cell? ⟨w.heap.size, 1, none⟩ = some (.int .i64 (H : Int)) := cl_kept hb (by first | (with_reducible assumption) | (simp [go_sem]; done)); have s2 : w2.cell? ⟨w.heap.size, 2, none⟩ = some (.slice (some ⟨b, off, none⟩) zs.length cap) := cl_kept hb (by first | (with_reducible assumption) | (simp [go_sem]; done)); have s3 : w2.cell? ⟨w.heap.size, 3, none⟩ = some (.slice cb n ccap) := cl_kept hb (by first | (with_reducible assumption) | (simp [go_sem]; done)); have hq : Below w.heap.size w w2 := (by with_reducible (first | exact bl_via HB.out hb | exact bl_via (bl_alloc (bl_refl _)) hb)); have HB : Hid (Below w.heap.size w w2) := hq; have zs0 : w.heap.size < w2.heap.size := World.block_lt_of_cell? _ _ s0; clear hq; clear hb hrow hrk hcp)
    | (go_at_call 32; refine (May_yes (W : Int) (H : Int) _ _ _ _ _ _ L _ (fun W' hW' => CLAY.out W' _ _ _ _ _ (bl_via HB.out hW') (HRow.out.1.kept hW') (HRow.out.2.1.kept hW'))).mono ?_; rintro e w2 ⟨rfl, hb⟩; have s0 : w2.cell? ⟨w.heap.size, 0, none⟩ = some (.int .i64 (W : Int)) := cl_kept hb (by first | (with_reducible assumption) | (simp [go_sem]; done)); have s1 : w2.cell? ⟨w.heap.size, 1, none⟩ = some (.int .i64 (H : Int)) := cl_kept hb (by first | (with_reducible assumption) | (simp [go_sem]; done)); have s2 : w2.cell? ⟨w.heap.size, 2, none⟩ = some (.slice (some ⟨b, off, none⟩) zs.length cap) := cl_kept hb (by first | (with_reducible assumption) | (simp [go_sem]; done)); have s3 : w2.cell? ⟨w.heap.size, 3, none⟩ = some (.slice cb n ccap) := cl_kept hb (by first | (with_reducible assumption) | (simp [go_sem]; done)); have hq : Below w.heap.size w w2 := (by with_reducible (first | exact bl_via HB.out hb | exact bl_via (bl_alloc (bl_refl _)) hb)); have HB : Hid (Below w.heap.size w w2) := hq; have zs0 : w.heap.size < w2.heap.size := World.block_lt_of_cell? _ _ s0; clear hq; clear hb)
    | (go_at_call 34; refine (Tris_yes (W : Int) (H : Int) _ _ _ _ _ _ L _ (fun W' hW' => CLAY.out W' _ _ _ _ _ (bl_via HB.out hW') (HRow.out.1.kept hW') (HRow.out.2.1.kept hW'))).mono ?_; rintro e w2 ⟨ad, c1, rfl, hT, hb⟩; have s0 : w2.cell? ⟨w.heap.size, 0, none⟩ = some (.int .i64 (W : Int)) := cl_kept hb (by first | (with_reducible assumption) | (simp [go_sem]; done)); have s1 : w2.cell? ⟨w.heap.size, 1, none⟩ = some (.int .i64 (H : Int)) := cl_kept hb (by first | (with_reducible assumption) | (simp [go_sem]; done)); have s2 : w2.cell? ⟨w.heap.size, 2, none⟩ = some (.slice (some ⟨b, off, none⟩) zs.length cap) := cl_kept hb (by first | (with_reducible assumption) | (simp [go_sem]; done)); have s3 : w2.cell? ⟨w.heap.size, 3, none⟩ = some (.slice cb n ccap) := cl_kept hb (by first | (with_reducible assumption) | (simp [go_sem]; done)); have hq : Below w.heap.size w w2 := (by with_reducible (first | exact bl_via HB.out hb | exact bl_via (bl_alloc (bl_refl _)) hb)); have HB : Hid (Below w.heap.size w w2) := hq; have zs0 : w.heap.size < w2.heap.size := World.block_lt_of_cell? _ _ s0; clear hq; have HT : Hid (TRow w2 ad L) := hT; clear hT; clear hb)
    | (go_at_call 35; have _t := HT; refine (Show_yes (W : Int) (H : Int) _ _ _ _ _ _ L _ tS (fun W' hW' => CLAY.out W' _ _ _ _ _ (bl_via HB.out hW') (HRow.out.1.kept hW') (HRow.out.2.1.kept hW')) (fun W' hW' => CSH.out W' _ _ _ _ _ (HRow.out.1.kept hW') (HRow.out.2.1.kept hW') HRow.out.2.2)).mono ?_; rintro e w2 ⟨rfl, hb⟩; have s0 : w2.cell? ⟨w.heap.size, 0, none⟩ = some (.int .i64 (W : Int)) := cl_kept hb (by first | (with_reducible assumption) | (simp [go_sem]; done)); have s1 : w2.cell? ⟨w.heap.size, 1, none⟩ = some (.int .i64 (H : Int)) := cl_kept hb (by first | (with_reducible assumption) | (simp [go_sem]; done)); have s2 : w2.cell? ⟨w.heap.size, 2, none⟩ = some (.slice (some ⟨b, off, none⟩) zs.length cap) := cl_kept hb (by first | (with_reducible assumption) | (simp [go_sem]; done)); have s3 : w2.cell? ⟨w.heap.size, 3, none⟩ = some (.slice cb n ccap) := cl_kept hb (by first | (with_reducible assumption) | (simp [go_sem]; done)); have hq : Below w.heap.size w w2 := (by with_reducible (first | exact bl_via HB.out hb | exact bl_via (bl_alloc (bl_refl _)) hb)); have HB : Hid (Below w.heap.size w w2) := hq; have zs0 : w.heap.size < w2.heap.size := World.block_lt_of_cell? _ _ s0; clear hq; have HT : Hid (TRow w2 ad L) := HT.out.kept hb; clear hb _t)
    | (go_at_call 36; have _t := HT; refine (CM.out _ (by with_reducible (first | exact HB.out | exact bl_alloc (bl_refl _)))).mono ?_; rintro e w2 ⟨bb, rfl, hbb, hb⟩; have s0 : w2.cell? ⟨w.heap.size, 0, none⟩ = some (.int .i64 (W : Int)) := cl_kept hb (by first | (with_reducible assumption) | (simp [go_sem]; done)); have s1 : w2.cell? ⟨w.heap.size, 1, none⟩ = some (.int .i64 (H : Int)) := cl_kept hb (by first | (with_reducible assumption) | (simp [go_sem]; done)); have s2 : w2.cell? ⟨w.heap.size, 2, none⟩ = some (.slice (some ⟨b, off, none⟩) zs.length cap) := cl_kept hb (by first | (with_reducible assumption) | (simp [go_sem]; done)); have s3 : w2.cell? ⟨w.heap.size, 3, none⟩ = some (.slice cb n ccap) := cl_kept hb (by first | (with_reducible assumption) | (simp [go_sem]; done)); have hq : Below w.heap.size w w2 := (by with_reducible (first | exact bl_via HB.out hb | exact bl_via (bl_alloc (bl_refl _)) hb)); have HB : Hid (Below w.heap.size w w2) := hq; have zs0 : w.heap.size < w2.heap.size := World.block_lt_of_cell? _ _ s0; clear hq; obtain rfl : bb = true := hbb.2 HOK.out; clear hbb; have HT : Hid (TRow w2 ad L) := HT.out.kept hb; clear hb _t)
    | (go_at_call 38; have _t := HT; refine (CT.out _ (by with_reducible (first | exact HB.out | exact bl_alloc (bl_refl _)))).mono ?_; rintro e w2 ⟨v, rfl, ho, hb⟩; have s0 : w2.cell? ⟨w.heap.size, 0, none⟩ = some (.int .i64 (W : Int)) := cl_kept hb (by first | (with_reducible assumption) | (simp [go_sem]; done)); have s1 : w2.cell? ⟨w.heap.size, 1, none⟩ = some (.int .i64 (H : Int)) := cl_kept hb (by first | (with_reducible assumption) | (simp [go_sem]; done)); have s2 : w2.cell? ⟨w.heap.size, 2, none⟩ = some (.slice (some ⟨b, off, none⟩) zs.length cap) := cl_kept hb (by first | (with_reducible assumption) | (simp [go_sem]; done)); have s3 : w2.cell? ⟨w.heap.size, 3, none⟩ = some (.slice cb n ccap) := cl_kept hb (by first | (with_reducible assumption) | (simp [go_sem]; done)); have hq : Below w.heap.size w w2 := (by with_reducible (first | exact bl_via HB.out hb | exact bl_via (bl_alloc (bl_refl _)) hb)); have HB : Hid (Below w.heap.size w w2) := hq; have zs0 : w.heap.size < w2.heap.size := World.block_lt_of_cell? _ _ s0; clear hq; obtain ⟨a5, c5, rfl, hT5⟩ := own_tris ho; have HT5 : Hid (TRow w2 a5 L) := hT5; clear ho hT5; have HT : Hid (TRow w2 ad L) := HT.out.kept hb; clear hb _t)
    | (go_at_call 37; refine (sameTris_yes _ _ _ _ L _ hlen HT.out HT5.out).mono ?_; rintro e w2 ⟨rfl, hb⟩; have s0 : w2.cell? ⟨w.heap.size, 0, none⟩ = some (.int .i64 (W : Int)) := cl_kept hb (by first | (with_reducible assumption) | (simp [go_sem]; done)); have s1 : w2.cell? ⟨w.heap.size, 1, none⟩ = some (.int .i64 (H : Int)) := cl_kept hb (by first | (with_reducible assumption) | (simp [go_sem]; done)); have s2 : w2.cell? ⟨w.heap.size, 2, none⟩ = some (.slice (some ⟨b, off, none⟩) zs.length cap) := cl_kept hb (by first | (with_reducible assumption) | (simp [go_sem]; done)); have s3 : w2.cell? ⟨w.heap.size, 3, none⟩ = some (.slice cb n ccap) := cl_kept hb (by first | (with_reducible assumption) | (simp [go_sem]; done)); have hq : Below w.heap.size w w2 := (by with_reducible (first | exact bl_via HB.out hb | exact bl_via (bl_alloc (bl_refl _)) hb)); have HB : Hid (Below w.heap.size w w2) := hq; have zs0 : w.heap.size < w2.heap.size := World.block_lt_of_cell? _ _ s0; clear hq; clear hb)
    | (go_at_call 39; refine (CX.out _ (by with_reducible (first | exact HB.out | exact bl_alloc (bl_refl _)))).mono ?_; rintro e w2 ⟨t, rfl, htx, hb⟩; have s0 : w2.cell? ⟨w.heap.size, 0, none⟩ = some (.int .i64 (W : Int)) := cl_kept hb (by first | (with_reducible assumption) | (simp [go_sem]; done)); have s1 : w2.cell? ⟨w.heap.size, 1, none⟩ = some (.int .i64 (H : Int)) := cl_kept hb (by first | (with_reducible assumption) | (simp [go_sem]; done)); have s2 : w2.cell? ⟨w.heap.size, 2, none⟩ = some (.slice (some ⟨b, off, none⟩) zs.length cap) := cl_kept hb (by first | (with_reducible assumption) | (simp [go_sem]; done)); have s3 : w2.cell? ⟨w.heap.size, 3, none⟩ = some (.slice cb n ccap) := cl_kept hb (by first | (with_reducible assumption) | (simp [go_sem]; done)); have hq : Below w.heap.size w w2 := (by with_reducible (first | exact bl_via HB.out hb | exact bl_via (bl_alloc (bl_refl _)) hb)); have HB : Hid (Below w.heap.size w w2) := hq; have zs0 : w.heap.size < w2.heap.size := World.block_lt_of_cell? _ _ s0; clear hq; obtain rfl : t = tS := (bytes_eq htx).trans HTS.out.symm; clear htx; clear hb))
  go_ret
  exact ⟨rfl, HB.out⟩
end Go.Proofs.YthkhiedpkmpifaaDoor

/- The law SheetTells, where a sheet's cells may not be. -/
namespace Go.Proofs.YthkhiedpkmpifaaDoor
open Go.RowKit

set_option maxHeartbeats 3200000 in
theorem sheetTells_bad (W H : Int) (a b : Option Addr) (ca cb n : Nat) (zs ks : List Int) (w : World) (hz : Row w a zs) (hk : Row w b ks) (hn : ks.length = n * 5) (h1 : zs.length ≤ 17592186044416) (h2 : n ≤ 3518437208883) (hc : cellsB W H zs = false) :
    Calls Tryd.prog 8 #[.agg #[.int .i64 W, .int .i64 H, .slice a zs.length ca, .slice b n cb]] w fun e w' => e = .returned (.bool true) ∧ Below w.heap.size w w' := by
  have HZ : Hid (Row w a zs) := hz
  have HK : Hid (Row w b ks) := hk
  have HC : Hid (cellsB W H zs = false) := hc
  have HN : Hid (ks.length = n * 5 ∧ zs.length ≤ 17592186044416 ∧ n ≤ 3518437208883) := ⟨hn, h1, h2⟩
  clear hz hk hc hn h1 h2
  go_enter Tryd.func8, Tryd.ntmps8
  go_wp2_with (first
    | (go_at_call 33; refine (sheetOf_any W H a b ca cb n zs ks _ (HZ.out.kept (by with_reducible (first | exact HB.out | exact bl_alloc (bl_refl _)))) (HK.out.kept (by with_reducible (first | exact HB.out | exact bl_alloc (bl_refl _)))) HN.out.1 HN.out.2.1 HN.out.2.2).mono ?_; rintro e w2 ⟨a', ca', b', cb', rfl, hrow, _, hb⟩; have s0 : w2.cell? ⟨w.heap.size, 0, none⟩ = some (.int .i64 W) := cl_kept hb (by first | (with_reducible assumption) | (simp [go_sem]; done)); have s1 : w2.cell? ⟨w.heap.size, 1, none⟩ = some (.int .i64 H) := cl_kept hb (by first | (with_reducible assumption) | (simp [go_sem]; done)); have s2 : w2.cell? ⟨w.heap.size, 2, none⟩ = some (.slice a zs.length ca) := cl_kept hb (by first | (with_reducible assumption) | (simp [go_sem]; done)); have s3 : w2.cell? ⟨w.heap.size, 3, none⟩ = some (.slice b n cb) := cl_kept hb (by first | (with_reducible assumption) | (simp [go_sem]; done)); have HRow : Hid (RowF w2 _ a' zs) := hrow; clear hrow; have hq : Below w.heap.size w w2 := (by with_reducible (first | exact bl_via HB.out hb | exact bl_via (bl_alloc (bl_refl _)) hb)); have HB : Hid (Below w.heap.size w w2) := hq; have zs0 : w.heap.size < w2.heap.size := World.block_lt_of_cell? _ _ s0; clear hb hq)
    | (go_at_call 32; refine (May_no W H _ _ zs _ _ (fun W' hW' => lay_bad W H _ _ zs _ W' (HRow.out.row.kept hW') HC.out)).mono ?_; rintro e w2 ⟨rfl, hb⟩; have s0 : w2.cell? ⟨w.heap.size, 0, none⟩ = some (.int .i64 W) := cl_kept hb (by first | (with_reducible assumption) | (simp [go_sem]; done)); have s1 : w2.cell? ⟨w.heap.size, 1, none⟩ = some (.int .i64 H) := cl_kept hb (by first | (with_reducible assumption) | (simp [go_sem]; done)); have s2 : w2.cell? ⟨w.heap.size, 2, none⟩ = some (.slice a zs.length ca) := cl_kept hb (by first | (with_reducible assumption) | (simp [go_sem]; done)); have s3 : w2.cell? ⟨w.heap.size, 3, none⟩ = some (.slice b n cb) := cl_kept hb (by first | (with_reducible assumption) | (simp [go_sem]; done)); have hq : Below w.heap.size w w2 := (by with_reducible (first | exact bl_via HB.out hb | exact bl_via (bl_alloc (bl_refl _)) hb)); have HB : Hid (Below w.heap.size w w2) := hq; have zs0 : w.heap.size < w2.heap.size := World.block_lt_of_cell? _ _ s0; clear hb hq)
    | (go_at_call 34; refine (Tris_no W H _ _ zs _ _ (fun W' hW' => lay_bad W H _ _ zs _ W' (HRow.out.row.kept hW') HC.out)).mono ?_; rintro e w2 ⟨rfl, hb⟩; have s0 : w2.cell? ⟨w.heap.size, 0, none⟩ = some (.int .i64 W) := cl_kept hb (by first | (with_reducible assumption) | (simp [go_sem]; done)); have s1 : w2.cell? ⟨w.heap.size, 1, none⟩ = some (.int .i64 H) := cl_kept hb (by first | (with_reducible assumption) | (simp [go_sem]; done)); have s2 : w2.cell? ⟨w.heap.size, 2, none⟩ = some (.slice a zs.length ca) := cl_kept hb (by first | (with_reducible assumption) | (simp [go_sem]; done)); have s3 : w2.cell? ⟨w.heap.size, 3, none⟩ = some (.slice b n cb) := cl_kept hb (by first | (with_reducible assumption) | (simp [go_sem]; done)); have hq : Below w.heap.size w w2 := (by with_reducible (first | exact bl_via HB.out hb | exact bl_via (bl_alloc (bl_refl _)) hb)); have HB : Hid (Below w.heap.size w w2) := hq; have zs0 : w.heap.size < w2.heap.size := World.block_lt_of_cell? _ _ s0; clear hb hq)
    | (go_at_call 35; refine (Show_no W H _ _ zs _ _ (fun W' hW' => lay_bad W H _ _ zs _ W' (HRow.out.row.kept hW') HC.out)).mono ?_; rintro e w2 ⟨rfl, hb⟩; have s0 : w2.cell? ⟨w.heap.size, 0, none⟩ = some (.int .i64 W) := cl_kept hb (by first | (with_reducible assumption) | (simp [go_sem]; done)); have s1 : w2.cell? ⟨w.heap.size, 1, none⟩ = some (.int .i64 H) := cl_kept hb (by first | (with_reducible assumption) | (simp [go_sem]; done)); have s2 : w2.cell? ⟨w.heap.size, 2, none⟩ = some (.slice a zs.length ca) := cl_kept hb (by first | (with_reducible assumption) | (simp [go_sem]; done)); have s3 : w2.cell? ⟨w.heap.size, 3, none⟩ = some (.slice b n cb) := cl_kept hb (by first | (with_reducible assumption) | (simp [go_sem]; done)); have hq : Below w.heap.size w w2 := (by with_reducible (first | exact bl_via HB.out hb | exact bl_via (bl_alloc (bl_refl _)) hb)); have HB : Hid (Below w.heap.size w w2) := hq; have zs0 : w.heap.size < w2.heap.size := World.block_lt_of_cell? _ _ s0; clear hb hq)
    | (go_at_call 36; refine (sheetMay_bad W H a ca zs _ _ (HZ.out.kept (by with_reducible (first | exact HB.out | exact bl_alloc (bl_refl _)))) HC.out).mono ?_; rintro e w2 ⟨rfl, hb⟩; have s0 : w2.cell? ⟨w.heap.size, 0, none⟩ = some (.int .i64 W) := cl_kept hb (by first | (with_reducible assumption) | (simp [go_sem]; done)); have s1 : w2.cell? ⟨w.heap.size, 1, none⟩ = some (.int .i64 H) := cl_kept hb (by first | (with_reducible assumption) | (simp [go_sem]; done)); have s2 : w2.cell? ⟨w.heap.size, 2, none⟩ = some (.slice a zs.length ca) := cl_kept hb (by first | (with_reducible assumption) | (simp [go_sem]; done)); have s3 : w2.cell? ⟨w.heap.size, 3, none⟩ = some (.slice b n cb) := cl_kept hb (by first | (with_reducible assumption) | (simp [go_sem]; done)); have hq : Below w.heap.size w w2 := (by with_reducible (first | exact bl_via HB.out hb | exact bl_via (bl_alloc (bl_refl _)) hb)); have HB : Hid (Below w.heap.size w w2) := hq; have zs0 : w.heap.size < w2.heap.size := World.block_lt_of_cell? _ _ s0; clear hb hq))
  go_ret
  exact ⟨rfl, HB.out⟩
end Go.Proofs.YthkhiedpkmpifaaDoor

/- The law SheetTells, whatever the sheet. -/
namespace Go.Proofs.YthkhiedpkmpifaaDoor
open Go.RowKit Go.ChangeMaps

set_option maxRecDepth 100000 in
set_option maxHeartbeats 6400000 in
theorem sheetTells_not (W H b off cap n ccap : Nat) (cb : Option Addr) (zs ks : List Int) (w : World) (hr : Row w (some ⟨b, off, none⟩) zs) (hW : 1 ≤ W ∧ W ≤ 8) (hH : 1 ≤ H ∧ H ≤ 8) (hl : zs.length = W * H) (hm : maskB zs = true) (hk : Row w cb ks) (hn : ks.length = n * 5) (hn2 : n ≤ 3518437208883) (hs : Steps w) (hNO : ¬ ((∀ i, i < n → CrOk (ty zs W H) ks i) ∧ Joined (ty zs W H))) :
    Calls Tryd.prog 8 #[.agg #[.int .i64 (W : Int), .int .i64 (H : Int), .slice (some ⟨b, off, none⟩) zs.length cap, .slice cb n ccap]] w fun e w' => e = .returned (.bool true) ∧ Below w.heap.size w w' := by
  have HR : Hid (Row w (some ⟨b, off, none⟩) zs) := hr
  have HK : Hid (Row w cb ks) := hk
  have h64 : zs.length ≤ 64 := by rw [hl]; exact Nat.le_trans (Nat.mul_le_mul hW.2 hH.2) (by decide)
  have h0 : 0 < zs.length := by
    rw [hl]
    exact Nat.mul_pos (by omega) (by omega)
  have HN0 : Hid (0 < zs.length) := h0
  have HN : Hid (ks.length = n * 5 ∧ zs.length ≤ 17592186044416 ∧ n ≤ 3518437208883) := ⟨hn, by omega, hn2⟩
  have hlen : (ty zs W H).length ≤ 300 := by have := ty_len zs W H hW.2; omega
  have CM : Hid (∀ W' : World, Below w.heap.size w W' → Calls Tryd.prog 36 #[.agg #[.int .i64 (W : Int), .int .i64 (H : Int), .slice (some ⟨b, off, none⟩) zs.length cap, .slice cb n ccap]] W' fun e w' => ∃ bb : Bool, e = .returned (.bool bb) ∧ (bb = true ↔ ((∀ i, i < n → CrOk (ty zs W H) ks i) ∧ Joined (ty zs W H))) ∧ Below W'.heap.size W' w') := fun W' hW' => sheetMay_any W H b off cap n ccap cb zs ks W' (hr.kept hW') hW hH hl hm (hk.kept hW') hn hn2
  have CLAY : Hid (∀ (W' : World) (ba oa ca : Nat) (bc : Option Addr) (cc : Nat), Below w.heap.size w W' → Row W' (some ⟨ba, oa, none⟩) zs → Row W' bc ks → Calls Tryd.prog 72 #[.agg #[.int .i64 (W : Int), .int .i64 (H : Int), .slice (some ⟨ba, oa, none⟩) zs.length ca, .slice bc n cc]] W' fun e w' => e = .returned (.tuple #[.agg #[.slice none 0 0, .map none, .map none], .bool false]) ∧ Below W'.heap.size W' w') := fun W' ba oa ca bc cc hb q1 q2 => by
    by_cases hJ : Joined (ty zs W H)
    · exact lay_nocrease W H ba oa ca n cc bc zs ks W' q1 hW hH hl hm q2 hn hn2 (hs.kept hb) hJ (fun h => hNO ⟨h, hJ⟩)
    · exact lay_nojoin W H ba oa ca n cc bc zs ks W' q1 hW hH hl hm q2 hn hn2 (hs.kept hb) hJ
  have HNO : Hid (¬ ((∀ i, i < n → CrOk (ty zs W H) ks i) ∧ Joined (ty zs W H))) := hNO
  clear hr hk hl hm hW hH hn hs hNO h0
  obtain ⟨L, hL⟩ : ∃ L, L = ty zs W H := ⟨_, rfl⟩
  rw [← hL] at CM HNO hlen
  clear hL
  go_enter Tryd.func8, Tryd.ntmps8
  go_wp2_with (first
    | (go_at_call 33; refine (sheetOf_cap (W : Int) (H : Int) (some ⟨b, off, none⟩) cb cap ccap n zs ks _ (HR.out.kept (by with_reducible (first | exact HB.out | exact bl_alloc (bl_refl _)))) (HK.out.kept (by with_reducible (first | exact HB.out | exact bl_alloc (bl_refl _)))) HN.out.1 HN.out.2.1 HN.out.2.2).mono ?_; rintro e w2 ⟨a1, ca1, bc1, cc1, rfl, hrow, hrk, hb, hcp⟩; obtain ⟨ba, oa, rfl, _⟩ := hrow.row 0 HN0.out; have HRow : Hid (Row w2 (some ⟨ba, oa, none⟩) zs ∧ Row w2 bc1 ks ∧ zs.length ≤ ca1) := ⟨hrow.row, hrk.row, hcp⟩; have s0 : w2.cell? ⟨w.heap.size, 0, none⟩ = some (.int .i64 (W : Int)) := cl_kept hb (by first | (with_reducible assumption) | (simp [go_sem]; done)); have s1 : w2.cell? ⟨w.heap.size, 1, none⟩ = some (.int .i64 (H : Int)) := cl_kept hb (by first | (with_reducible assumption) | (simp [go_sem]; done)); have s2 : w2.cell? ⟨w.heap.size, 2, none⟩ = some (.slice (some ⟨b, off, none⟩) zs.length cap) := cl_kept hb (by first | (with_reducible assumption) | (simp [go_sem]; done)); have s3 : w2.cell? ⟨w.heap.size, 3, none⟩ = some (.slice cb n ccap) := cl_kept hb (by first | (with_reducible assumption) | (simp [go_sem]; done)); have hq : Below w.heap.size w w2 := (by with_reducible (first | exact bl_via HB.out hb | exact bl_via (bl_alloc (bl_refl _)) hb)); have HB : Hid (Below w.heap.size w w2) := hq; have zs0 : w.heap.size < w2.heap.size := World.block_lt_of_cell? _ _ s0; clear hq; clear hb hrow hrk hcp)
    | (go_at_call 32; refine (May_no (W : Int) (H : Int) _ _ zs _ _ (fun W' hW' => CLAY.out W' _ _ _ _ _ (bl_via HB.out hW') (HRow.out.1.kept hW') (HRow.out.2.1.kept hW'))).mono ?_; rintro e w2 ⟨rfl, hb⟩; have s0 : w2.cell? ⟨w.heap.size, 0, none⟩ = some (.int .i64 (W : Int)) := cl_kept hb (by first | (with_reducible assumption) | (simp [go_sem]; done)); have s1 : w2.cell? ⟨w.heap.size, 1, none⟩ = some (.int .i64 (H : Int)) := cl_kept hb (by first | (with_reducible assumption) | (simp [go_sem]; done)); have s2 : w2.cell? ⟨w.heap.size, 2, none⟩ = some (.slice (some ⟨b, off, none⟩) zs.length cap) := cl_kept hb (by first | (with_reducible assumption) | (simp [go_sem]; done)); have s3 : w2.cell? ⟨w.heap.size, 3, none⟩ = some (.slice cb n ccap) := cl_kept hb (by first | (with_reducible assumption) | (simp [go_sem]; done)); have hq : Below w.heap.size w w2 := (by with_reducible (first | exact bl_via HB.out hb | exact bl_via (bl_alloc (bl_refl _)) hb)); have HB : Hid (Below w.heap.size w w2) := hq; have zs0 : w.heap.size < w2.heap.size := World.block_lt_of_cell? _ _ s0; clear hq; clear hb)
    | (go_at_call 34; refine (Tris_no (W : Int) (H : Int) _ _ zs _ _ (fun W' hW' => CLAY.out W' _ _ _ _ _ (bl_via HB.out hW') (HRow.out.1.kept hW') (HRow.out.2.1.kept hW'))).mono ?_; rintro e w2 ⟨rfl, hb⟩; have s0 : w2.cell? ⟨w.heap.size, 0, none⟩ = some (.int .i64 (W : Int)) := cl_kept hb (by first | (with_reducible assumption) | (simp [go_sem]; done)); have s1 : w2.cell? ⟨w.heap.size, 1, none⟩ = some (.int .i64 (H : Int)) := cl_kept hb (by first | (with_reducible assumption) | (simp [go_sem]; done)); have s2 : w2.cell? ⟨w.heap.size, 2, none⟩ = some (.slice (some ⟨b, off, none⟩) zs.length cap) := cl_kept hb (by first | (with_reducible assumption) | (simp [go_sem]; done)); have s3 : w2.cell? ⟨w.heap.size, 3, none⟩ = some (.slice cb n ccap) := cl_kept hb (by first | (with_reducible assumption) | (simp [go_sem]; done)); have hq : Below w.heap.size w w2 := (by with_reducible (first | exact bl_via HB.out hb | exact bl_via (bl_alloc (bl_refl _)) hb)); have HB : Hid (Below w.heap.size w w2) := hq; have zs0 : w.heap.size < w2.heap.size := World.block_lt_of_cell? _ _ s0; clear hq; clear hb)
    | (go_at_call 35; refine (Show_no (W : Int) (H : Int) _ _ zs _ _ (fun W' hW' => CLAY.out W' _ _ _ _ _ (bl_via HB.out hW') (HRow.out.1.kept hW') (HRow.out.2.1.kept hW'))).mono ?_; rintro e w2 ⟨rfl, hb⟩; have s0 : w2.cell? ⟨w.heap.size, 0, none⟩ = some (.int .i64 (W : Int)) := cl_kept hb (by first | (with_reducible assumption) | (simp [go_sem]; done)); have s1 : w2.cell? ⟨w.heap.size, 1, none⟩ = some (.int .i64 (H : Int)) := cl_kept hb (by first | (with_reducible assumption) | (simp [go_sem]; done)); have s2 : w2.cell? ⟨w.heap.size, 2, none⟩ = some (.slice (some ⟨b, off, none⟩) zs.length cap) := cl_kept hb (by first | (with_reducible assumption) | (simp [go_sem]; done)); have s3 : w2.cell? ⟨w.heap.size, 3, none⟩ = some (.slice cb n ccap) := cl_kept hb (by first | (with_reducible assumption) | (simp [go_sem]; done)); have hq : Below w.heap.size w w2 := (by with_reducible (first | exact bl_via HB.out hb | exact bl_via (bl_alloc (bl_refl _)) hb)); have HB : Hid (Below w.heap.size w w2) := hq; have zs0 : w.heap.size < w2.heap.size := World.block_lt_of_cell? _ _ s0; clear hq; clear hb)
    | (go_at_call 36; refine (CM.out _ (by with_reducible (first | exact HB.out | exact bl_alloc (bl_refl _)))).mono ?_; rintro e w2 ⟨bb, rfl, hbb, hb⟩; have s0 : w2.cell? ⟨w.heap.size, 0, none⟩ = some (.int .i64 (W : Int)) := cl_kept hb (by first | (with_reducible assumption) | (simp [go_sem]; done)); have s1 : w2.cell? ⟨w.heap.size, 1, none⟩ = some (.int .i64 (H : Int)) := cl_kept hb (by first | (with_reducible assumption) | (simp [go_sem]; done)); have s2 : w2.cell? ⟨w.heap.size, 2, none⟩ = some (.slice (some ⟨b, off, none⟩) zs.length cap) := cl_kept hb (by first | (with_reducible assumption) | (simp [go_sem]; done)); have s3 : w2.cell? ⟨w.heap.size, 3, none⟩ = some (.slice cb n ccap) := cl_kept hb (by first | (with_reducible assumption) | (simp [go_sem]; done)); have hq : Below w.heap.size w w2 := (by with_reducible (first | exact bl_via HB.out hb | exact bl_via (bl_alloc (bl_refl _)) hb)); have HB : Hid (Below w.heap.size w w2) := hq; have zs0 : w.heap.size < w2.heap.size := World.block_lt_of_cell? _ _ s0; clear hq; obtain rfl : bb = false := (by cases bb with | false => rfl | true => exact absurd (hbb.1 rfl) HNO.out); clear hbb; clear hb))
  go_ret
  exact ⟨rfl, HB.out⟩

theorem sheetTells_any (W H : Int) (a c : Option Addr) (ca cc n : Nat) (zs ks : List Int) (w : World) (hz : Row w a zs) (hk : Row w c ks) (hn : ks.length = n * 5) (h1 : zs.length ≤ 17592186044416) (h2 : n ≤ 3518437208883) (hs : Steps w) :
    Calls Tryd.prog 8 #[.agg #[.int .i64 W, .int .i64 H, .slice a zs.length ca, .slice c n cc]] w fun e w' => e = .returned (.bool true) ∧ Below w.heap.size w w' := by
  cases hc : cellsB W H zs
  · exact sheetTells_bad W H a c ca cc n zs ks w hz hk hn h1 h2 hc
  · simp only [cellsB, Bool.and_eq_true, decide_eq_true_eq, sideB] at hc
    obtain ⟨⟨⟨q1, q2⟩, q3⟩, q4⟩ := hc
    obtain ⟨Wn, rfl⟩ : ∃ m : Nat, W = (m : Int) := ⟨W.toNat, by omega⟩
    obtain ⟨Hn, rfl⟩ : ∃ m : Nat, H = (m : Int) := ⟨H.toNat, by omega⟩
    have hl : zs.length = Wn * Hn := by
      rw [← Int.natCast_mul] at q3
      omega
    have h0 : 0 < zs.length := by
      rw [hl]
      exact Nat.mul_pos (by omega) (by omega)
    obtain ⟨b, off, rfl, _⟩ := hz 0 h0
    by_cases hok : (∀ i, i < n → CrOk (ty zs Wn Hn) ks i) ∧ Joined (ty zs Wn Hn)
    · exact sheetTells_good Wn Hn b off ca n cc c zs ks w hz (by omega) (by omega) hl q4 hk hn h2 hs hok.2 hok.1
    · exact sheetTells_not Wn Hn b off ca n cc c zs ks w hz (by omega) (by omega) hl q4 hk hn h2 hs hok
end Go.Proofs.YthkhiedpkmpifaaDoor

