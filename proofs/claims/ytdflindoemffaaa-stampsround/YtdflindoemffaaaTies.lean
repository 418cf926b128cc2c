/- ties. -/
import Derived.Test.YtdflindoemffaaaTwor
namespace Go.Proofs.Ytdflindoemffaaa
open Go.RowKit

theorem inf51 : (Try.prog.info? 51).map (fun i => (i.zero, i.size, i.bytes)) = some (some (.agg #[.int .i64 0, .int .i64 0]), 2, 16) := by kernel_rfl
theorem two_cells {w : World} {g : Nat} (u v : Value) (h : w.cell? ⟨g, 0, none⟩ = some u) (k : w.cell? ⟨g, 1, none⟩ = some v) : ∀ j x, [u, v][j]? = some x → w.cell? ((⟨g, 0, none⟩ : Addr).add j) = some x := by
  intro j x hx
  rw [add_at]
  match j, hx with
  | 0, hx => simp at hx; subst hx; exact h
  | 1, hx => simp at hx; subst hx; exact k
theorem one_two (a b : Int) : ∀ u ∈ [Value.int .i64 a, Value.int .i64 b], u.oneCell' = true := by
  intro u hu
  simp at hu
  rcases hu with rfl | rfl <;> rfl
/-- What the rounds leave. -/
def TS (w1 W : World) (B : Nat) (l : List Int) (i : Nat) : Prop := ∃ s0 s1, Two w1 W B 0 1 s0 s1 ((i + 1) / 2) (i / 2) (tc l 0 ((i + 1) / 2)) (tc l 1 (i / 2))
theorem own_slice {w : World} {base : Nat} {e : TypeId} {size : Nat} {v : Value} {n : Nat} {xs : List Value} (h : w.ownsRow base e size v n xs) : ∃ a c, v = .slice a n c := by
  rcases h.2 with ⟨rfl, rfl⟩ | ⟨g, cap, cur, rfl, _⟩
  · exact ⟨none, 0, rfl⟩
  · exact ⟨_, cap, rfl⟩
theorem fr_set {W : World} {B p : Nat} {v : Value} (hc : W.cell? ⟨B, p, none⟩ = some v) (hf : W.frozen? ⟨B, p, none⟩ = false) (q : Nat) (u : Value) (hne : p ≠ q) : (W.setCell ⟨B, q, none⟩ u).cell? ⟨B, p, none⟩ = some v ∧ (W.setCell ⟨B, q, none⟩ u).frozen? ⟨B, p, none⟩ = false := by
  refine ⟨?_, by rw [World.frozen?_setCell]; exact hf⟩
  rw [World.cell?_setCell_other _ _ _ _ (by simp <;> omega)]
  exact hc
theorem TS.of {w1 W : World} {B : Nat} {l : List Int} {i n0 n1 : Nat} (h0 : (i + 1) / 2 = n0) (h1 : i / 2 = n1) (h : ∃ s0 s1, Two w1 W B 0 1 s0 s1 n0 n1 (tc l 0 n0) (tc l 1 n1)) : TS w1 W B l i := by
  subst h0
  subst h1
  exact h
set_option maxRecDepth 100000 in
set_option maxHeartbeats 1600000 in
theorem ties_any (v : Value) (l : List Int) (w : World) (hv : Sg w v l) (hp : Prm l) (h1 : 1 ≤ l.length) (h8 : l.length ≤ 8) :
    Calls Try.prog 32 #[v] w fun e w' => ∃ s0 s1, e = .returned (.agg #[s0, s1]) ∧ TR w' s0 l 0 (l.length / 2) ∧ TR w' s1 l 1 ((l.length - 1) / 2) ∧ Below w.heap.size w w' := by
  have CH : Hid (∀ W : World, Below w.heap.size w W → Calls Try.prog 34 #[v] W fun e w' => ∃ g, e = .returned (.slice (some ⟨g, 0, none⟩) l.length l.length) ∧ Rw w' g (hL l) ∧ Below W.heap.size W w') := fun W hW => heights_any v l W (hv.kept hW) hp h8
  obtain ⟨i51, hI⟩ := info_parts inf51
  have HI : Hid (Try.prog.info? 51 = some i51 ∧ i51.zero = some (.agg #[.int .i64 0, .int .i64 0]) ∧ i51.size = 2 ∧ i51.bytes = 16) := hI
  obtain ⟨m, hm⟩ : ∃ m, l.length = m + 1 := ⟨l.length - 1, by omega⟩
  have hm1 : (l.length : Int) - 1 = (m : Int) := by omega
  have HM : Hid (l.length = m + 1) := hm
  obtain ⟨a, c, rfl, _⟩ := hv
  rw [show l.length / 2 = (m + 1) / 2 by omega, show (l.length - 1) / 2 = m / 2 by omega]
  have HNE : Hid (∀ k, k + 1 < l.length → hk l k ≠ hk l (k + 1)) := fun k hk1 e => by have := hk_inj hp (by omega) hk1 e; omega
  clear hI hp hm
  go_enter Try.func32, Try.ntmps32
  go_wp2_with (go_at_call 34; refine (CH.out _ (bl_alloc (bl_alloc (bl_refl _)))).mono ?_; rintro e w1 ⟨g, rfl, hr, hb⟩; have H1 : Hid (Rw w1 g (hL l) ∧ Below ((w.alloc (.cells #[.slice none 0 0, .slice none 0 0] 48)).alloc (.cells #[.slice none 0 0, .slice none 0 0] 48)).heap.size ((w.alloc (.cells #[.slice none 0 0, .slice none 0 0] 48)).alloc (.cells #[.slice none 0 0, .slice none 0 0] 48)) w1) := ⟨hr, hb⟩; clear hr hb)
  have HST : Hid (Two w1 w1 (w.heap.size + 1) 0 1 (.slice none 0 0) (.slice none 0 0) 0 0 [] [] ∧ (w1.cell? ⟨w.heap.size, 0, none⟩ = some (.slice none 0 0) ∧ w1.frozen? ⟨w.heap.size, 0, none⟩ = false) ∧ (w1.cell? ⟨w.heap.size, 1, none⟩ = some (.slice none 0 0) ∧ w1.frozen? ⟨w.heap.size, 1, none⟩ = false) ∧ Below w.heap.size w w1 ∧ g ≠ w.heap.size + 1) := by
    have hb := H1.out.2
    have hf : ∀ p : Nat, ((w.alloc (.cells #[.slice none 0 0, .slice none 0 0] 48)).alloc (.cells #[.slice none 0 0, .slice none 0 0] 48)).frozen? ⟨w.heap.size + 1, p, none⟩ = false := fun p => by
      have := frozen_new (w.alloc (.cells #[.slice none 0 0, .slice none 0 0] 48)) #[.slice none 0 0, .slice none 0 0] 48 p
      rw [show (w.alloc (.cells #[.slice none 0 0, .slice none 0 0] 48)).heap.size = w.heap.size + 1 by simp] at this
      exact this
    have hf2 : ∀ p : Nat, ((w.alloc (.cells #[.slice none 0 0, .slice none 0 0] 48)).alloc (.cells #[.slice none 0 0, .slice none 0 0] 48)).frozen? ⟨w.heap.size, p, none⟩ = false := fun p => by
      have := frozen_new w #[.slice none 0 0, .slice none 0 0] 48 p
      rw [← this]
      exact World.frozen?_of_block (a := ⟨w.heap.size, p, none⟩) (heap_alloc_old _ _ (by simp))
    have k0 := fr_grown (v := .slice none 0 0) (by simp [go_sem]) (hf 0) (bl_grown hb) (by simp)
    have k1 := fr_grown (v := .slice none 0 0) (by simp [go_sem]) (hf 1) (bl_grown hb) (by simp)
    refine ⟨⟨⟨rfl, rfl, rfl, Nat.le_refl _, fun _ _ _ => rfl⟩, World.block_lt_of_cell? _ _ k0.1, by omega, k0, k1, ⟨by simp, Or.inl ⟨rfl, rfl⟩⟩, ⟨by simp, Or.inl ⟨rfl, rfl⟩⟩, Or.inl rfl⟩, fr_grown (by simp [go_sem]) (hf2 0) (bl_grown hb) (by simp), fr_grown (by simp [go_sem]) (hf2 1) (bl_grown hb) (by simp), bl_via (bl_alloc (bl_alloc (bl_refl w))) hb, fun e => ?_⟩
    have := H1.out.1 0 (by rw [hL_len]; omega)
    rw [e, k0.1] at this
    cases this
  have HRW : Hid (Rw w1 g (hL l)) := H1.out.1
  obtain ⟨B, hB⟩ : ∃ B, B = w.heap.size + 1 := ⟨_, rfl⟩
  rw [← hB] at HST ⊢
  have HBB : Hid (w.heap.size ≤ B ∧ B ≠ w.heap.size) := ⟨by omega, by omega⟩
  clear H1 CH hB
  go_loopg [13] m (fun gk s13 wx => ∃ i : Nat, i ≤ m ∧ gk = m - i ∧ s13 = .int .i64 (i : Int) ∧ TS w1 wx B l i)
  case atStart => exact ⟨0, by omega, rfl, rfl, _, _, HST.out.1⟩
  case round =>
    obtain ⟨i, hi, rfl, rfl, s0, s1, hT⟩ := hrel
    have HT : Hid (Two w1 wr B 0 1 s0 s1 ((i + 1) / 2) (i / 2) (tc l 0 ((i + 1) / 2)) (tc l 1 (i / 2))) := hT
    clear hT
    by_cases h2 : i < m
    · have i1 : (i : Int) < (m : Int) := by omega
      have i0 : (0 : Int) ≤ (i : Int) := by omega
      have i2 : (i : Int) < (l.length : Int) := by omega
      have i3 : (i : Int) + 1 < (l.length : Int) := by omega
      have i4 : (0 : Int) ≤ (i : Int) + 1 := by omega
      have hgb : some g ≠ some B := fun e => HST.out.2.2.2.2 (by simpa using e)
      have c0 := HT.out.1.cell (HRW.out i (by rw [hL_len]; omega)) hgb
      have c1 := HT.out.1.cell (HRW.out (i + 1) (by rw [hL_len]; omega)) hgb
      rw [hL_at (by omega)] at c0 c1
      have zg : g < wr.heap.size := World.block_lt_of_cell? _ _ c0
      obtain ⟨va, hva⟩ : ∃ v, v = hk l i := ⟨_, rfl⟩
      obtain ⟨vb, hvb⟩ : ∃ v, v = hk l (i + 1) := ⟨_, rfl⟩
      rw [← hva] at c0
      rw [← hvb] at c1
      have HK : Hid (tlo l i = (if va < vb then va else vb) ∧ thi l i = if va < vb then vb else va) := by rw [hva, hvb]; exact (⟨rfl, rfl⟩ : tlo l i = _ ∧ thi l i = _)
      have hne : va ≠ vb := by rw [hva, hvb]; exact HNE.out i (by omega)
      clear hva hvb hgb
      have kc := Kin.cells wr
      have kn : Nonempty (Kin wr) := ⟨⟨wr, bl_refl _⟩⟩
      have t0 := two_int i
      go_wp2
      refine wp_region_kin (by kernel_rfl) (by kernel_rfl) ?_
      repeat (go_big_quiet_step (fail))
      refine wpQuiet_nil ?_
      intro wq hw'
      obtain ⟨nq, hw''⟩ := hw'
      have hq : Below wr.heap.size wr wq := hw'' ▸ nq.h
      clear hw'' nq kc kn c0 c1 zg
      have HQ : Hid (Two w1 wq B 0 1 s0 s1 ((i + 1) / 2) (i / 2) (tc l 0 ((i + 1) / 2)) (tc l 1 (i / 2))) := HT.out.kept hq
      clear hq HT
      by_cases q1 : i % 2 = 0
      · have t1 : ((i : Int)).tmod 2 = 0 := by rw [t0, q1]; rfl
        clear t0
        by_cases q2 : va < vb
        · have q3 : ¬ vb < va := by omega
          have HV : Hid (tlo l i = va ∧ thi l i = vb) := by
            have : tlo l i = va ∧ thi l i = vb := by
              rw [HK.out.1, HK.out.2]
              simp [q2]
            exact this
          have d0 := HQ.out.2.2.2.1.1
          have f0 := HQ.out.2.2.2.1.2
          have z0 : B < wq.heap.size := World.block_lt_of_cell? _ _ d0
          go_wp2_with (at_builtin; refine wpList_append_lies _ rfl (.tmp 30) (.tmp 38) 47 rfl w1.heap.size 51 i51 (.agg #[.int .i64 0, .int .i64 0]) 2 16 Try.underlying47 HI.out.1 HI.out.2.1 HI.out.2.2.1 HI.out.2.2.2 rfl (by decide) s0 ((i + 1) / 2) (tc l 0 ((i + 1) / 2)) rfl (own_below HQ.out.2.2.2.2.2.1 (bl_alloc (bl_refl _))) ⟨wq.heap.size, 0, none⟩ 1 1 [.int .i64 va, .int .i64 vb] rfl rfl (two_cells _ _ (by simp [go_sem]) (by simp [go_sem])) (one_two _ _) (by decide) (by unfold maxLen; omega) (by omega) (by have := HQ.out.1.size; simp; omega) _ rfl ?grow01)
          case grow01 =>
            intro g3 cap3 w3 hown hgr hat hlt
            have HG : Hid (TS w1 (w3.setCell ⟨B, 0, none⟩ (.slice (some ⟨g3, 0, none⟩) ((i + 1) / 2 + 1) cap3)) B l (i + 1)) := by
              have : TS w1 (w3.setCell ⟨B, 0, none⟩ (.slice (some ⟨g3, 0, none⟩) ((i + 1) / 2 + 1) cap3)) B l (i + 1) := by
                have h9 : Two w1 (w3.setCell ⟨B, 0, none⟩ (.slice (some ⟨g3, 0, none⟩) ((i + 1) / 2 + 1) cap3)) B 0 1 (.slice (some ⟨g3, 0, none⟩) ((i + 1) / 2 + 1) cap3) s1 ((i + 1) / 2 + 1) (i / 2) (tc l 0 ((i + 1) / 2 + 1)) (tc l 1 (i / 2)) := by
                  have := HQ.out.more hown hgr (by simpa using hat)
                  rw [tc, show 0 + 2 * ((i + 1) / 2) = i by omega, HV.out.1, HV.out.2]
                  exact this
                exact TS.of (by omega) (by omega) ⟨_, _, h9⟩
              exact this
            have HX : Hid ((w3.cell? ⟨B, 0, none⟩ = some s0 ∧ w3.frozen? ⟨B, 0, none⟩ = false) ∧ B < w3.heap.size) := by
              have hb : some B ≠ Value.ownBlock s0 := fun e => by
                have h5 := own_base HQ.out.2.2.2.2.2.1 B e.symm
                have h6 := HQ.out.2.1
                omega
              have h7 : ∀ o : Obj, (wq.alloc o).cell? ⟨B, 0, none⟩ = some s0 ∧ (wq.alloc o).frozen? ⟨B, 0, none⟩ = false := fun o => fr_grown d0 f0 (World.grownBy_alloc wq o none) (by simp)
              have h8 := fr_grown (h7 _).1 (h7 _).2 hgr hb
              exact ⟨h8, World.block_lt_of_cell? _ _ h8.1⟩
            clear hown hgr hat hlt d0 f0 z0
            have d0 := HX.out.1.1
            have f0 := HX.out.1.2
            have z0 := HX.out.2
            go_wp2
            go_roundg (m - (i + 1))
            case measure => omega
            case rel => exact ⟨i + 1, by omega, rfl, by go_num, HG.out⟩
        · have q3 : vb < va := by omega
          have HV : Hid (tlo l i = vb ∧ thi l i = va) := by
            have : tlo l i = vb ∧ thi l i = va := by
              rw [HK.out.1, HK.out.2]
              simp [q2]
            exact this
          have d0 := HQ.out.2.2.2.1.1
          have f0 := HQ.out.2.2.2.1.2
          have z0 : B < wq.heap.size := World.block_lt_of_cell? _ _ d0
          go_wp2_with (at_builtin; refine wpList_append_lies _ rfl (.tmp 30) (.tmp 38) 47 rfl w1.heap.size 51 i51 (.agg #[.int .i64 0, .int .i64 0]) 2 16 Try.underlying47 HI.out.1 HI.out.2.1 HI.out.2.2.1 HI.out.2.2.2 rfl (by decide) s0 ((i + 1) / 2) (tc l 0 ((i + 1) / 2)) rfl (own_below HQ.out.2.2.2.2.2.1 (bl_alloc (bl_refl _))) ⟨wq.heap.size, 0, none⟩ 1 1 [.int .i64 vb, .int .i64 va] rfl rfl (two_cells _ _ (by simp [go_sem]) (by simp [go_sem])) (one_two _ _) (by decide) (by unfold maxLen; omega) (by omega) (by have := HQ.out.1.size; simp; omega) _ rfl ?grow00)
          case grow00 =>
            intro g3 cap3 w3 hown hgr hat hlt
            have HG : Hid (TS w1 (w3.setCell ⟨B, 0, none⟩ (.slice (some ⟨g3, 0, none⟩) ((i + 1) / 2 + 1) cap3)) B l (i + 1)) := by
              have : TS w1 (w3.setCell ⟨B, 0, none⟩ (.slice (some ⟨g3, 0, none⟩) ((i + 1) / 2 + 1) cap3)) B l (i + 1) := by
                have h9 : Two w1 (w3.setCell ⟨B, 0, none⟩ (.slice (some ⟨g3, 0, none⟩) ((i + 1) / 2 + 1) cap3)) B 0 1 (.slice (some ⟨g3, 0, none⟩) ((i + 1) / 2 + 1) cap3) s1 ((i + 1) / 2 + 1) (i / 2) (tc l 0 ((i + 1) / 2 + 1)) (tc l 1 (i / 2)) := by
                  have := HQ.out.more hown hgr (by simpa using hat)
                  rw [tc, show 0 + 2 * ((i + 1) / 2) = i by omega, HV.out.1, HV.out.2]
                  exact this
                exact TS.of (by omega) (by omega) ⟨_, _, h9⟩
              exact this
            have HX : Hid ((w3.cell? ⟨B, 0, none⟩ = some s0 ∧ w3.frozen? ⟨B, 0, none⟩ = false) ∧ B < w3.heap.size) := by
              have hb : some B ≠ Value.ownBlock s0 := fun e => by
                have h5 := own_base HQ.out.2.2.2.2.2.1 B e.symm
                have h6 := HQ.out.2.1
                omega
              have h7 : ∀ o : Obj, (wq.alloc o).cell? ⟨B, 0, none⟩ = some s0 ∧ (wq.alloc o).frozen? ⟨B, 0, none⟩ = false := fun o => fr_grown d0 f0 (World.grownBy_alloc wq o none) (by simp)
              have h8 := fr_grown (h7 _).1 (h7 _).2 hgr hb
              exact ⟨h8, World.block_lt_of_cell? _ _ h8.1⟩
            clear hown hgr hat hlt d0 f0 z0
            have d0 := HX.out.1.1
            have f0 := HX.out.1.2
            have z0 := HX.out.2
            go_wp2
            go_roundg (m - (i + 1))
            case measure => omega
            case rel => exact ⟨i + 1, by omega, rfl, by go_num, HG.out⟩
      · have t1 : ((i : Int)).tmod 2 = 1 := by rw [t0, show i % 2 = 1 by omega]; rfl
        clear t0
        by_cases q2 : va < vb
        · have q3 : ¬ vb < va := by omega
          have HV : Hid (tlo l i = va ∧ thi l i = vb) := by
            have : tlo l i = va ∧ thi l i = vb := by
              rw [HK.out.1, HK.out.2]
              simp [q2]
            exact this
          have d0 := HQ.out.2.2.2.2.1.1
          have f0 := HQ.out.2.2.2.2.1.2
          have z0 : B < wq.heap.size := World.block_lt_of_cell? _ _ d0
          go_wp2_with (at_builtin; refine wpList_append_lies _ rfl (.tmp 30) (.tmp 38) 47 rfl w1.heap.size 51 i51 (.agg #[.int .i64 0, .int .i64 0]) 2 16 Try.underlying47 HI.out.1 HI.out.2.1 HI.out.2.2.1 HI.out.2.2.2 rfl (by decide) s1 (i / 2) (tc l 1 (i / 2)) rfl (own_below HQ.out.2.2.2.2.2.2.1 (bl_alloc (bl_refl _))) ⟨wq.heap.size, 0, none⟩ 1 1 [.int .i64 va, .int .i64 vb] rfl rfl (two_cells _ _ (by simp [go_sem]) (by simp [go_sem])) (one_two _ _) (by decide) (by unfold maxLen; omega) (by omega) (by have := HQ.out.1.size; simp; omega) _ rfl ?grow11)
          case grow11 =>
            intro g3 cap3 w3 hown hgr hat hlt
            have HG : Hid (TS w1 (w3.setCell ⟨B, 1, none⟩ (.slice (some ⟨g3, 0, none⟩) (i / 2 + 1) cap3)) B l (i + 1)) := by
              have : TS w1 (w3.setCell ⟨B, 1, none⟩ (.slice (some ⟨g3, 0, none⟩) (i / 2 + 1) cap3)) B l (i + 1) := by
                have h9 : Two w1 (w3.setCell ⟨B, 1, none⟩ (.slice (some ⟨g3, 0, none⟩) (i / 2 + 1) cap3)) B 0 1 s0 (.slice (some ⟨g3, 0, none⟩) (i / 2 + 1) cap3) ((i + 1) / 2) (i / 2 + 1) (tc l 0 ((i + 1) / 2)) (tc l 1 (i / 2 + 1)) := by
                  have := (HQ.out.symm.more hown hgr (by simpa using hat)).symm
                  rw [tc, show 1 + 2 * (i / 2) = i by omega, HV.out.1, HV.out.2]
                  exact this
                exact TS.of (by omega) (by omega) ⟨_, _, h9⟩
              exact this
            have HX : Hid ((w3.cell? ⟨B, 1, none⟩ = some s1 ∧ w3.frozen? ⟨B, 1, none⟩ = false) ∧ B < w3.heap.size) := by
              have hb : some B ≠ Value.ownBlock s1 := fun e => by
                have h5 := own_base HQ.out.2.2.2.2.2.2.1 B e.symm
                have h6 := HQ.out.2.1
                omega
              have h7 : ∀ o : Obj, (wq.alloc o).cell? ⟨B, 1, none⟩ = some s1 ∧ (wq.alloc o).frozen? ⟨B, 1, none⟩ = false := fun o => fr_grown d0 f0 (World.grownBy_alloc wq o none) (by simp)
              have h8 := fr_grown (h7 _).1 (h7 _).2 hgr hb
              exact ⟨h8, World.block_lt_of_cell? _ _ h8.1⟩
            clear hown hgr hat hlt d0 f0 z0
            have d0 := HX.out.1.1
            have f0 := HX.out.1.2
            have z0 := HX.out.2
            go_wp2
            go_roundg (m - (i + 1))
            case measure => omega
            case rel => exact ⟨i + 1, by omega, rfl, by go_num, HG.out⟩
        · have q3 : vb < va := by omega
          have HV : Hid (tlo l i = vb ∧ thi l i = va) := by
            have : tlo l i = vb ∧ thi l i = va := by
              rw [HK.out.1, HK.out.2]
              simp [q2]
            exact this
          have d0 := HQ.out.2.2.2.2.1.1
          have f0 := HQ.out.2.2.2.2.1.2
          have z0 : B < wq.heap.size := World.block_lt_of_cell? _ _ d0
          go_wp2_with (at_builtin; refine wpList_append_lies _ rfl (.tmp 30) (.tmp 38) 47 rfl w1.heap.size 51 i51 (.agg #[.int .i64 0, .int .i64 0]) 2 16 Try.underlying47 HI.out.1 HI.out.2.1 HI.out.2.2.1 HI.out.2.2.2 rfl (by decide) s1 (i / 2) (tc l 1 (i / 2)) rfl (own_below HQ.out.2.2.2.2.2.2.1 (bl_alloc (bl_refl _))) ⟨wq.heap.size, 0, none⟩ 1 1 [.int .i64 vb, .int .i64 va] rfl rfl (two_cells _ _ (by simp [go_sem]) (by simp [go_sem])) (one_two _ _) (by decide) (by unfold maxLen; omega) (by omega) (by have := HQ.out.1.size; simp; omega) _ rfl ?grow10)
          case grow10 =>
            intro g3 cap3 w3 hown hgr hat hlt
            have HG : Hid (TS w1 (w3.setCell ⟨B, 1, none⟩ (.slice (some ⟨g3, 0, none⟩) (i / 2 + 1) cap3)) B l (i + 1)) := by
              have : TS w1 (w3.setCell ⟨B, 1, none⟩ (.slice (some ⟨g3, 0, none⟩) (i / 2 + 1) cap3)) B l (i + 1) := by
                have h9 : Two w1 (w3.setCell ⟨B, 1, none⟩ (.slice (some ⟨g3, 0, none⟩) (i / 2 + 1) cap3)) B 0 1 s0 (.slice (some ⟨g3, 0, none⟩) (i / 2 + 1) cap3) ((i + 1) / 2) (i / 2 + 1) (tc l 0 ((i + 1) / 2)) (tc l 1 (i / 2 + 1)) := by
                  have := (HQ.out.symm.more hown hgr (by simpa using hat)).symm
                  rw [tc, show 1 + 2 * (i / 2) = i by omega, HV.out.1, HV.out.2]
                  exact this
                exact TS.of (by omega) (by omega) ⟨_, _, h9⟩
              exact this
            have HX : Hid ((w3.cell? ⟨B, 1, none⟩ = some s1 ∧ w3.frozen? ⟨B, 1, none⟩ = false) ∧ B < w3.heap.size) := by
              have hb : some B ≠ Value.ownBlock s1 := fun e => by
                have h5 := own_base HQ.out.2.2.2.2.2.2.1 B e.symm
                have h6 := HQ.out.2.1
                omega
              have h7 : ∀ o : Obj, (wq.alloc o).cell? ⟨B, 1, none⟩ = some s1 ∧ (wq.alloc o).frozen? ⟨B, 1, none⟩ = false := fun o => fr_grown d0 f0 (World.grownBy_alloc wq o none) (by simp)
              have h8 := fr_grown (h7 _).1 (h7 _).2 hgr hb
              exact ⟨h8, World.block_lt_of_cell? _ _ h8.1⟩
            clear hown hgr hat hlt d0 f0 z0
            have d0 := HX.out.1.1
            have f0 := HX.out.1.2
            have z0 := HX.out.2
            go_wp2
            go_roundg (m - (i + 1))
            case measure => omega
            case rel => exact ⟨i + 1, by omega, rfl, by go_num, HG.out⟩
    · have i1 : ¬ (i : Int) < (m : Int) := by omega
      obtain rfl : i = m := by omega
      have hne : some w.heap.size ≠ some B := fun e => HBB.out.2 (by simpa using e.symm)
      have a0 := fr_grown HST.out.2.1.1 HST.out.2.1.2 HT.out.1 hne
      have a1 := fr_grown HST.out.2.2.1.1 HST.out.2.2.1.2 HT.out.1 hne
      have e0 := a0.1
      have e1 := a0.2
      have e2 := a1.1
      have e3 := a1.2
      have d0 := HT.out.2.2.2.1.1
      have d1 := HT.out.2.2.2.2.1.1
      have z0 : B < wr.heap.size := World.block_lt_of_cell? _ _ d0
      have z1 : w.heap.size < wr.heap.size := World.block_lt_of_cell? _ _ e0
      clear a0 a1
      obtain ⟨b0, c0, rfl⟩ := own_slice HT.out.2.2.2.2.2.1
      obtain ⟨b1, c1, rfl⟩ := own_slice HT.out.2.2.2.2.2.2.1
      have g1 := fr_set e2 e3 0 (.slice b0 ((i + 1) / 2) c0) (by omega)
      have g2 := g1.1
      have g3 := g1.2
      have z2 : w.heap.size < (wr.setCell ⟨w.heap.size, 0, none⟩ (.slice b0 ((i + 1) / 2) c0)).heap.size := World.block_lt_of_cell? _ _ g2
      have k1 := World.cell?_setCell_same _ _ (.slice b1 (i / 2) c1) g2
      have k0 : ((wr.setCell ⟨w.heap.size, 0, none⟩ (.slice b0 ((i + 1) / 2) c0)).setCell ⟨w.heap.size, 1, none⟩ (.slice b1 (i / 2) c1)).cell? ⟨w.heap.size, 0, none⟩ = some (.slice b0 ((i + 1) / 2) c0) := by
        rw [World.cell?_setCell_other _ _ _ _ (by simp), World.cell?_setCell_same _ _ _ e0]
      have z3 : w.heap.size < ((wr.setCell ⟨w.heap.size, 0, none⟩ (.slice b0 ((i + 1) / 2) c0)).setCell ⟨w.heap.size, 1, none⟩ (.slice b1 (i / 2) c1)).heap.size := World.block_lt_of_cell? _ _ k0
      have HF : Hid (TR ((wr.setCell ⟨w.heap.size, 0, none⟩ (.slice b0 ((i + 1) / 2) c0)).setCell ⟨w.heap.size, 1, none⟩ (.slice b1 (i / 2) c1)) (.slice b0 ((i + 1) / 2) c0) l 0 ((i + 1) / 2) ∧ TR ((wr.setCell ⟨w.heap.size, 0, none⟩ (.slice b0 ((i + 1) / 2) c0)).setCell ⟨w.heap.size, 1, none⟩ (.slice b1 (i / 2) c1)) (.slice b1 (i / 2) c1) l 1 (i / 2) ∧ Below w.heap.size w ((wr.setCell ⟨w.heap.size, 0, none⟩ (.slice b0 ((i + 1) / 2) c0)).setCell ⟨w.heap.size, 1, none⟩ (.slice b1 (i / 2) c1))) := by
        have hs : w.heap.size < w1.heap.size := World.block_lt_of_cell? _ _ HST.out.2.1.1
        have q0 := grown_cell wr w.heap.size 0 (.slice b0 ((i + 1) / 2) c0)
        have q1 := grown_cell (wr.setCell ⟨w.heap.size, 0, none⟩ (.slice b0 ((i + 1) / 2) c0)) w.heap.size 1 (.slice b1 (i / 2) c1)
        have r0 := HT.out.2.2.2.2.2.1
        have r1 := HT.out.2.2.2.2.2.2.1
        have n0 : Value.ownBlock (.slice b0 ((i + 1) / 2) c0) ≠ some w.heap.size := fun e => by have := own_base r0 _ e; omega
        have n1 : Value.ownBlock (.slice b1 (i / 2) c1) ≠ some w.heap.size := fun e => by have := own_base r1 _ e; omega
        refine ⟨tr_of ((r0.kept q0 (Or.inr n0)).kept q1 (Or.inr n0)), tr_of ((r1.kept q0 (Or.inr n1)).kept q1 (Or.inr n1)), ?_⟩
        have hb := HST.out.2.2.2.1.grown HT.out.1 HST.out.2.2.2.1.size (fun k hk => by cases hk; exact HBB.out.1)
        exact bl_set (bl_set hb (Nat.le_refl _)) (Nat.le_refl _)
      clear g1 hne
      go_wp2
      refine bodyPost_ret (v := .agg #[.slice b0 ((i + 1) / 2) c0, .slice b1 (i / 2) c1]) ?_ rfl ⟨_, _, rfl, HF.out⟩
      simp [results, Try.results32, go_sem, k0, k1]
end Go.Proofs.Ytdflindoemffaaa
