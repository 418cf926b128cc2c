/- A part of the proof of viewTells_holds. -/
import Derived.Test.YtnpboeodhpenmaaGreatDoorQlbi
import Derived.Test.YtnpboeodhpenmaaGreatDoorQlbk
import Derived.Test.YtnpboeodhpenmaaGreatDoorQlay
import Derived.Test.YtnpboeodhpenmaaGreatDoorQlbh
import Derived.Test.YtnpboeodhpenmaaGreatDoorQlae
namespace Go.Proofs.YtnpboeodhpenmaaGreatDoor
open Go.RowKit

/-- A map that may be, to a place that may be. -/
def MOk1 (L : List (Int × Int × Int)) (M : Nat → M6) (i : Nat) : Prop := mapM (M i) = true ∧ triT (mvt (M i) (L.getD i (0, 0, 0))) = true
/-- Maps that may be, and fit. -/
def MOk (kd : Int × Int × Int × Int → Int) (L : List (Int × Int × Int)) (M : Nat → M6) : Prop := (∀ i, i < L.length → MOk1 L M i) ∧ ∀ i, i < L.length → FitI kd L M i
theorem fit_bool (kd : Int × Int × Int × Int → Int) (L : List (Int × Int × Int)) (M : Nat → M6) : ∃ bf : Bool, Hid (bf = true ↔ ∀ i, i < L.length → FitI kd L M i) ∧ ∀ W w' e, FitTo kd L M W w' e → e = .returned (.bool bf) ∧ Below W.heap.size W w' := by
  by_cases q : ∀ i, i < L.length → FitI kd L M i
  · refine ⟨true, ?_, fun W w' e h => ?_⟩
    · have : true = true ↔ ∀ i, i < L.length → FitI kd L M i := ⟨fun _ => q, fun _ => rfl⟩
      exact this
    · obtain ⟨⟨b, he, hb⟩, hB⟩ := h
      exact ⟨by rw [he, hb.2 q], hB⟩
  · refine ⟨false, ?_, fun W w' e h => ?_⟩
    · have : false = true ↔ ∀ i, i < L.length → FitI kd L M i := ⟨fun h => (by cases h), fun h => absurd h q⟩
      exact this
    · obtain ⟨⟨b, he, hb⟩, hB⟩ := h
      cases b
      · exact ⟨he, hB⟩
      · exact absurd (hb.1 rfl) q
/-- What Spread answers. -/
def SprTo (w w' : World) (ad : Option Addr) (cc ra rk gm cm : Nat) (L : List (Int × Int × Int)) (kd : Int × Int × Int × Int → Int) (M : Nat → M6) (e : Ending) : Prop :=
  (∃ z0 k0 d0 m1 m2 z3 k3 d3 z4 k4 d4, e = .returned (.tuple #[.agg #[.slice z0 k0 d0, .map m1, .map m2, .slice z3 k3 d3, .slice z4 k4 d4], .bool false]) ∧ ¬ MOk kd L M ∧ Below w.heap.size w w')
  ∨ (∃ pa pc, e = .returned (.tuple #[.agg #[.slice ad L.length cc, .map (some ra), .map (some rk), .slice (some ⟨gm, 0, none⟩) L.length cm, .slice pa L.length pc], .bool true]) ∧ MOk kd L M ∧ TRow w' pa (pls L M L.length) ∧ Below w.heap.size w w')
theorem sprTo_of {w w' : World} {ad pa : Option Addr} {cc ra rk gm cm pc : Nat} {L : List (Int × Int × Int)} {kd : Int × Int × Int × Int → Int} {M : Nat → M6} {bf : Bool} (h1 : bf = true ↔ ∀ i, i < L.length → FitI kd L M i) (h2 : ∀ i, i < L.length → MOk1 L M i) (hT : TRow w' pa (pls L M L.length)) (hB : Below w.heap.size w w') : SprTo w w' ad cc ra rk gm cm L kd M (.returned (.tuple #[.agg #[.slice ad L.length cc, .map (some ra), .map (some rk), .slice (some ⟨gm, 0, none⟩) L.length cm, .slice pa L.length pc], .bool bf])) := by
  cases bf
  · exact Or.inl ⟨_, _, _, _, _, _, _, _, _, _, _, rfl, fun h => by simpa using h1.2 h.2, hB⟩
  · exact Or.inr ⟨_, _, rfl, ⟨h2, h1.1 rfl⟩, hT, hB⟩
set_option maxRecDepth 100000 in
set_option maxHeartbeats 6400000 in
theorem spread_gen (w : World) (cc ra rk gm cm : Nat) (ad : Option Addr) (L : List (Int × Int × Int)) (kd : Int × Int × Int × Int → Int) (M : Nat → M6) (hs : Steps w) (hPA : PA w ad ra L) (hK : KL w rk kd) (hL : L.length ≤ 300) (hbd : ∀ t ∈ L, (0 ≤ t.1 ∧ t.1 ≤ 8) ∧ (0 ≤ t.2.1 ∧ t.2.1 ≤ 8) ∧ (0 ≤ t.2.2 ∧ t.2.2 ≤ 3)) (hM : MRow w gm L.length M) :
    Calls Tryz.prog 96 #[.agg #[.slice ad L.length cc, .map (some ra), .map (some rk)], .slice (some ⟨gm, 0, none⟩) L.length cm] w fun e w' => SprTo w w' ad cc ra rk gm cm L kd M e := by
  have CF : Hid (∀ (W' : World) (pa : Option Addr) (pn pc : Nat), Below w.heap.size w W' → (∀ i, i < L.length → mapM (M i) = true) → Calls Tryz.prog 185 #[.agg #[.slice ad L.length cc, .map (some ra), .map (some rk), .slice (some ⟨gm, 0, none⟩) L.length cm, .slice pa pn pc]] W' fun e w' => FitTo kd L M W' w' e) := fun W' pa pn pc hW' hG => fits_gen W' cc ra rk gm cm ad pa pn pc L kd M (hs.kept hW') (hPA.kept hW') (hK.kept hW') hL hbd (hM.kept hW') hG
  have CM : Hid (∀ (i : Nat) (hi : i < L.length), ∃ X Y K cd : Int, ((cd = 0 ∧ MOk1 L M i ∧ mvt (M i) L[i] = (X, Y, K)) ∨ (cd ≠ 0 ∧ ¬ MOk1 L M i)) ∧ ∀ W' : World, Below w.heap.size w W' → Calls Tryz.prog 34 #[.agg #[.int .i64 (M i).1, .int .i64 (M i).2.1, .int .i64 (M i).2.2.1, .int .i64 (M i).2.2.2.1, .int .i64 (M i).2.2.2.2.1, .int .i64 (M i).2.2.2.2.2], .agg #[.int .i64 L[i].1, .int .i64 L[i].2.1, .int .i64 L[i].2.2]] W' fun r w' => r = .returned (.tuple #[.agg #[.int .i64 X, .int .i64 Y, .int .i64 K], .int .i64 cd]) ∧ Below W'.heap.size W' w') := fun i hi => by
    by_cases hok : MOk1 L M i
    · have hok' := hok
      unfold MOk1 at hok'
      rw [getD_at L i hi] at hok'
      exact ⟨(mvt (M i) L[i]).1, (mvt (M i) L[i]).2.1, (mvt (M i) L[i]).2.2, 0, Or.inl ⟨rfl, hok, rfl⟩, fun W' hW' => Move_in (M i) L[i] W' hok'.1 (hbd _ (List.getElem_mem hi)) (hs.kept hW') hok'.2⟩
    · have hok' := hok
      unfold MOk1 at hok'
      rw [getD_at L i hi] at hok'
      by_cases hm : mapM (M i) = true
      · obtain ⟨h1, h2, h3, h4, h5, h7⟩ := mvt_gen (a := (M i).1) (b := (M i).2.1) (c := (M i).2.2.1) (d := (M i).2.2.2.1) (e := (M i).2.2.2.2.1) (f := (M i).2.2.2.2.2) hm (hbd _ (List.getElem_mem hi)).1 (hbd _ (List.getElem_mem hi)).2.1 (hbd _ (List.getElem_mem hi)).2.2 (X := (mvt (M i) L[i]).1) (Y := (mvt (M i) L[i]).2.1) (K := (mvt (M i) L[i]).2.2) rfl
        have ht : triT (mvt (M i) L[i]) = false := by
          cases q : triT (mvt (M i) L[i])
          · rfl
          · exact absurd ⟨hm, q⟩ hok'
        exact ⟨0, 0, 0, 2, Or.inr ⟨by decide, hok⟩, fun W' hW' => Move_no _ _ _ _ _ _ _ _ _ _ _ _ W' hm h7 h1 h2 h3 h4 h5 ht (hs.kept hW')⟩
      · have hm' : mapB (M i).1 (M i).2.1 (M i).2.2.1 (M i).2.2.2.1 (M i).2.2.2.2.1 (M i).2.2.2.2.2 = false := by simpa [mapM] using hm
        exact ⟨0, 0, 0, 3, Or.inr ⟨by decide, hok⟩, fun W' hW' => Move_out _ _ _ _ _ _ _ _ _ W' (Or.inl hm')⟩
  have HR : Hid (TRow w ad L ∧ MRow w gm L.length M) := ⟨hPA.1, hM⟩
  obtain ⟨i3, hi3, hz30, hz31, hz32⟩ := info_parts inf23
  have HI : Hid (Tryz.prog.info? 51 = some i3 ∧ i3.zero = some (.agg #[.int .i64 0, .int .i64 0, .int .i64 0]) ∧ i3.size = 3 ∧ i3.bytes = 24) := ⟨hi3, hz30, hz31, hz32⟩
  have qn : ((L.length : Int) != (L.length : Int)) = false := by simp
  clear hs hPA hK hbd hM hi3 hz30 hz31 hz32
  go_enter Tryz.func96, Tryz.ntmps96
  go_wp2
  go_loopg [24] L.length (fun gk s24 wx => ∃ (i : Nat) (v : Value), i ≤ L.length ∧ gk = L.length - i ∧ s24 = .int .i64 (i : Int) ∧ (∀ i', i' < i → MOk1 L M i') ∧ SpB ((w.alloc (.cells #[.slice ad L.length cc, .map (some ra), .map (some rk)] 98)).alloc (.cells #[.slice none 0 0, .map none, .map none, .slice none 0 0, .slice none 0 0] 100)) wx (w.heap.size + 1 + 1) ad L.length cc ra rk gm cm v (pls L M i))
  case atStart => exact ⟨0, .slice none 0 0, by omega, rfl, rfl, fun i' hi' => by omega, ⟨by simp [go_sem], by simp [go_sem], by simp [go_sem], by simp [go_sem], by simp [go_sem], by simp [go_sem], ⟨by simp [pls, flatV], .inl ⟨rfl, by simp [pls]⟩⟩, by simp, bl_alloc (bl_refl _)⟩⟩
  case round =>
    obtain ⟨i, v, hi, rfl, rfl, hOK, hS⟩ := hrel
    have HOK : Hid (∀ i', i' < i → MOk1 L M i') := hOK
    clear hOK
    have HS : Hid (SpB ((w.alloc (.cells #[.slice ad L.length cc, .map (some ra), .map (some rk)] 98)).alloc (.cells #[.slice none 0 0, .map none, .map none, .slice none 0 0, .slice none 0 0] 100)) wr (w.heap.size + 1 + 1) ad L.length cc ra rk gm cm v (pls L M i)) := hS
    have HB : Hid (Below w.heap.size w wr) := bl_via (bl_alloc (bl_alloc (bl_refl _))) hS.bel
    have zB := hS.lt
    clear hS
    by_cases h1 : i < L.length
    · have i1 : (i : Int) < (L.length : Int) := by omega
      have i0 : (0 : Int) ≤ (i : Int) := by omega
      obtain ⟨gt_, rfl, t0, t1, t2⟩ := HR.out.1 i h1
      replace t0 := cl_kept HB.out t0
      replace t1 := cl_kept HB.out t1
      replace t2 := cl_kept HB.out t2
      have zt : gt_ < wr.heap.size := World.block_lt_of_cell? _ _ t0
      obtain ⟨⟨y0, y1, y2, y3, y4, y5⟩, _⟩ := HR.out.2 i h1
      obtain ⟨A, B, C, D, E, F, hmi⟩ : ∃ A B C D E F, M i = (A, B, C, D, E, F) := ⟨_, _, _, _, _, _, rfl⟩
      obtain ⟨x, y, k, hti⟩ : ∃ x y k, L[i] = (x, y, k) := ⟨_, _, _, rfl⟩
      obtain ⟨X, Y, K, cd, hcd, hcm⟩ := CM.out i h1
      have HCD : Hid ((cd = 0 ∧ MOk1 L M i ∧ pls L M (i + 1) = pls L M i ++ [(X, Y, K)]) ∨ (cd ≠ 0 ∧ ¬ MOk1 L M i)) := by
        have : (cd = 0 ∧ MOk1 L M i ∧ pls L M (i + 1) = pls L M i ++ [(X, Y, K)]) ∨ (cd ≠ 0 ∧ ¬ MOk1 L M i) := by
          rcases hcd with ⟨h1', h2', h3'⟩ | h
          · exact Or.inl ⟨h1', h2', by rw [pls_succ, ← h3', getD_at L i h1]⟩
          · exact Or.inr h
        exact this
      clear hcd
      have CMr : Hid (∀ W' : World, Below wr.heap.size wr W' → Calls Tryz.prog 34 #[.agg #[.int .i64 A, .int .i64 B, .int .i64 C, .int .i64 D, .int .i64 E, .int .i64 F], .agg #[.int .i64 x, .int .i64 y, .int .i64 k]] W' fun r w' => r = .returned (.tuple #[.agg #[.int .i64 X, .int .i64 Y, .int .i64 K], .int .i64 cd]) ∧ Below W'.heap.size W' w') := fun W' hW' => by
        have h := hcm W' (bl_via HB.out hW')
        rw [hmi, hti] at h
        exact h
      rw [hmi] at y0 y1 y2 y3 y4 y5
      rw [hti] at t0 t1 t2
      dsimp only at y0 y1 y2 y3 y4 y5 t0 t1 t2
      clear hcm hmi hti
      go_wp2
      refine wp_named (fun W0 hW0 => ?_)
      have HBN : Hid (Below wr.heap.size wr W0) := by
        have : Below wr.heap.size wr W0 := by rw [hW0]; exact bl_alloc (bl_refl _)
        exact this
      obtain ⟨B9, hB9⟩ : ∃ b, b = wr.heap.size := ⟨_, rfl⟩
      have x0 : W0.cell? ⟨B9, 0, none⟩ = some (.int .i64 x) := by rw [hW0, hB9]; simp [go_sem]
      have x1 : W0.cell? ⟨B9, 1, none⟩ = some (.int .i64 y) := by rw [hW0, hB9]; simp [go_sem]
      have x2 : W0.cell? ⟨B9, 2, none⟩ = some (.int .i64 k) := by rw [hW0, hB9]; simp [go_sem]
      clear hW0
      rw [← hB9]
      clear hB9
      have bw2 := bl_via HB.out HBN.out
      replace y0 := cl_kept bw2 y0
      replace y1 := cl_kept bw2 y1
      replace y2 := cl_kept bw2 y2
      replace y3 := cl_kept bw2 y3
      replace y4 := cl_kept bw2 y4
      replace y5 := cl_kept bw2 y5
      have zW1 : gm < W0.heap.size := World.block_lt_of_cell? _ _ y0
      have zWB : B9 < W0.heap.size := World.block_lt_of_cell? _ _ x0
      have CM0 : Hid (∀ W' : World, Below W0.heap.size W0 W' → Calls Tryz.prog 34 #[.agg #[.int .i64 A, .int .i64 B, .int .i64 C, .int .i64 D, .int .i64 E, .int .i64 F], .agg #[.int .i64 x, .int .i64 y, .int .i64 k]] W' fun r w' => r = .returned (.tuple #[.agg #[.int .i64 X, .int .i64 Y, .int .i64 K], .int .i64 cd]) ∧ Below W'.heap.size W' w') := fun W' hW' => CMr.out W' (bl_via HBN.out hW')
      clear bw2 t0 t1 t2 zt
      go_cut [9, 10] (fun s9 s10 wx => ∃ g9 : Nat, s9 = .pointer (some ⟨g9, 0, none⟩) ∧ s10 = .int .i64 cd ∧ (wx.cell? ⟨g9, 0, none⟩ = some (.int .i64 X) ∧ wx.cell? ⟨g9, 1, none⟩ = some (.int .i64 Y) ∧ wx.cell? ⟨g9, 2, none⟩ = some (.int .i64 K)) ∧ Below W0.heap.size W0 wx)
      case first =>
        go_region_held3 (fun w' => w'.cell? ⟨gm, i * 6, none⟩ = some (.int .i64 A) ∧ w'.cell? ⟨gm, i * 6 + 1, none⟩ = some (.int .i64 B) ∧ w'.cell? ⟨gm, i * 6 + 2, none⟩ = some (.int .i64 C) ∧ w'.cell? ⟨gm, i * 6 + 3, none⟩ = some (.int .i64 D) ∧ w'.cell? ⟨gm, i * 6 + 4, none⟩ = some (.int .i64 E) ∧ w'.cell? ⟨gm, i * 6 + 5, none⟩ = some (.int .i64 F) ∧ w'.cell? ⟨B9, 0, none⟩ = some (.int .i64 x) ∧ w'.cell? ⟨B9, 1, none⟩ = some (.int .i64 y) ∧ w'.cell? ⟨B9, 2, none⟩ = some (.int .i64 k))
          ((refine ⟨?_, ?_, ?_, ?_, ?_, ?_, ?_, ?_, ?_⟩ <;> (repeat' (first | (with_reducible assumption) | (with_reducible refine st_far ?_ ?_) | (dsimp only; omega) | (simp [go_sem]; done) | (with_reducible refine al_old ?_) | (with_reducible refine dr_old ?_)))))
          ((go_at_call 34; refine (CM0.out _ (by with_reducible repeat (first | exact bl_refl _ | refine bl_drew ?_ | refine bl_alloc ?_))).mono ?_; rintro e w8 ⟨rfl, hb⟩; have y0_8 : w8.cell? ⟨gm, i * 6, none⟩ = some (.int .i64 A) := cl_kept hb (by with_reducible (repeat (first | assumption | refine dr_old ?_ | refine al_old ?_))); have y1_8 : w8.cell? ⟨gm, i * 6 + 1, none⟩ = some (.int .i64 B) := cl_kept hb (by with_reducible (repeat (first | assumption | refine dr_old ?_ | refine al_old ?_))); have y2_8 : w8.cell? ⟨gm, i * 6 + 2, none⟩ = some (.int .i64 C) := cl_kept hb (by with_reducible (repeat (first | assumption | refine dr_old ?_ | refine al_old ?_))); have y3_8 : w8.cell? ⟨gm, i * 6 + 3, none⟩ = some (.int .i64 D) := cl_kept hb (by with_reducible (repeat (first | assumption | refine dr_old ?_ | refine al_old ?_))); have y4_8 : w8.cell? ⟨gm, i * 6 + 4, none⟩ = some (.int .i64 E) := cl_kept hb (by with_reducible (repeat (first | assumption | refine dr_old ?_ | refine al_old ?_))); have y5_8 : w8.cell? ⟨gm, i * 6 + 5, none⟩ = some (.int .i64 F) := cl_kept hb (by with_reducible (repeat (first | assumption | refine dr_old ?_ | refine al_old ?_))); have x0_8 : w8.cell? ⟨B9, 0, none⟩ = some (.int .i64 x) := cl_kept hb (by with_reducible (repeat (first | assumption | refine dr_old ?_ | refine al_old ?_))); have x1_8 : w8.cell? ⟨B9, 1, none⟩ = some (.int .i64 y) := cl_kept hb (by with_reducible (repeat (first | assumption | refine dr_old ?_ | refine al_old ?_))); have x2_8 : w8.cell? ⟨B9, 2, none⟩ = some (.int .i64 k) := cl_kept hb (by with_reducible (repeat (first | assumption | refine dr_old ?_ | refine al_old ?_))); (first | (have hfz := fresh3_a (g := W0.heap.size) rfl hb; obtain ⟨⟨fy0, fy1, fy2⟩, ⟨fz0, fz1, fz2⟩, fzz⟩ := hfz) | (have hfz := fresh3_d (g := W0.heap.size) rfl hb; obtain ⟨⟨fy0, fy1, fy2⟩, ⟨fz0, fz1, fz2⟩, fzz⟩ := hfz) | (have hfz := fresh3_dd (g := W0.heap.size) rfl hb; obtain ⟨⟨fy0, fy1, fy2⟩, ⟨fz0, fz1, fz2⟩, fzz⟩ := hfz) | skip); have hq : Below W0.heap.size W0 w8 := (by with_reducible (first | exact hb | exact bl_undrew hb | exact bl_undrew (bl_undrew hb) | exact bl_via (bl_alloc (bl_refl _)) hb | exact bl_via (bl_drew (bl_alloc (bl_refl _))) hb | exact bl_via (bl_alloc (bl_drew (bl_refl _))) hb | exact bl_via (bl_drew (bl_alloc (bl_drew (bl_refl _)))) hb | exact bl_via (bl_drew (bl_drew (bl_alloc (bl_refl _)))) hb | exact bl_via (bl_alloc (bl_drew (bl_drew (bl_refl _)))) hb)); have HQ8 : Hid (Below W0.heap.size W0 w8) := hq; have zs1 : gm < w8.heap.size := World.block_lt_of_cell? _ _ y0_8; have zs2 : B9 < w8.heap.size := World.block_lt_of_cell? _ _ x0_8; have zs3 := hq.size; clear hb hq))
        all_goals
          go_wp2
          go_meet
          case rel =>
            refine ⟨_, rfl, rfl, ?_, ?_⟩
            · first | (simp [go_sem]; done) | (simp [go_sem, *]; done)
            · with_reducible repeat' (first | exact HQ8.out | refine bl_set ?_ ?_ | refine bl_alloc ?_ | refine bl_drew ?_)
              all_goals (first | omega | (dsimp only; omega) | (simp; done))
      case rest =>
        obtain ⟨g9, rfl, rfl, ⟨e0, e1, e2⟩, hBc⟩ := hcut
        have HSc : Hid (SpB _ wc (w.heap.size + 1 + 1) _ _ _ _ _ _ _ v (pls L M i)) := HS.out.kept (bl_via HBN.out hBc)
        have z9 : g9 < wc.heap.size := World.block_lt_of_cell? _ _ e0
        have c4 := HSc.out.c4
        have zBc := HSc.out.lt
        clear HS HB HBN CMr CM0 hBc y0 y1 y2 y3 y4 y5 x0 x1 x2 zW1 zWB zB
        rcases HCD.out with hcc | hcc
        · obtain ⟨hc0, hok, hP⟩ := hcc
          subst hc0
          have HP : Hid (pls L M (i + 1) = pls L M i ++ [(X, Y, K)]) := hP
          have HO2 : Hid (∀ i', i' < i + 1 → MOk1 L M i') := fun i' hi' => by
            by_cases e : i' = i
            · exact e ▸ hok
            · exact HOK.out i' (by omega)
          clear hP hok
          have hb1 : w.heap.size + 1 + 1 + 1 ≤ wc.heap.size := by omega
          have HPL : Hid ((pls L M i).length = i) := pls_len L M i
          have HO : Hid (wc.ownsRow (w.heap.size + 1 + 1 + 1) 51 3 v i (flatV (pls L M i))) := by
            have := HSc.out.own
            rw [HPL.out] at this
            exact this
          go_wp2_with (at_builtin; refine wpList_append_own _ rfl (.tmp 42) (.tmp 44) 55 rfl (w.heap.size + 1 + 1 + 1) 51 i3 (.agg #[.int .i64 0, .int .i64 0, .int .i64 0]) 3 24 Tryz.underlying55 HI.out.1 HI.out.2.1 HI.out.2.2.1 HI.out.2.2.2 rfl (by decide) v i (flatV (pls L M i)) rfl (own_below HO.out (bl_alloc (bl_refl _))) ⟨wc.heap.size, 0, none⟩ 1 1 [.int .i64 X, .int .i64 Y, .int .i64 K] rfl rfl (cell_three_new wc X Y K) (three_cell X Y K) (by unfold maxLen; omega) (by omega) (by simp; omega) ?grow)
          case grow =>
            intro v' w3 hown hgrow _
            obtain ⟨gv, cv, rfl⟩ : ∃ gv cv, v' = .slice (some ⟨gv, 0, none⟩) (i + 1) cv := by
              rcases hown.2 with ⟨_, h0⟩ | ⟨gv, cv, _, h, _⟩
              · omega
              · exact ⟨gv, cv, h⟩
            have hk := HSc.out.kept (bl_alloc (o := .cells #[.int .i64 X, .int .i64 Y, .int .i64 K] 51) (bl_refl wc))
            have hN := hk.more (t := (X, Y, K)) hgrow (by rw [HPL.out]; exact hown)
            rw [← HP.out] at hN
            have HN := (show Hid _ from hN)
            have hnB : some (w.heap.size + 1 + 1) ≠ v.ownBlock := fun e => by
              have := own_base hk.own _ e.symm
              omega
            have d4 := hgrow.cell hk.c4 hnB
            have k4 : w3.frozen? ⟨w.heap.size + 1 + 1, 4, none⟩ = false := (World.frozen?_of_block (a := ⟨w.heap.size + 1 + 1, 4, none⟩) (hgrow.block _ hk.lt hnB)).trans hk.f4
            have z3 : w.heap.size + 1 + 1 < w3.heap.size := World.block_lt_of_cell? _ _ d4
            clear hown hgrow hk hN hnB
            go_wp2
            go_roundg (L.length - (i + 1))
            case measure => omega
            case rel => exact ⟨i + 1, _, by omega, rfl, by go_num, HO2.out, HN.out⟩
        · obtain ⟨hc0, hno⟩ := hcc
          have qc : (cd != 0) = true := by simpa using hc0
          have hbel := HSc.out.bel
          have d0 : wc.cell? ⟨w.heap.size + 1, 0, none⟩ = some (.slice none 0 0) := cl_kept hbel (by simp [go_sem])
          have d1 : wc.cell? ⟨w.heap.size + 1, 1, none⟩ = some (.map none) := cl_kept hbel (by simp [go_sem])
          have d2 : wc.cell? ⟨w.heap.size + 1, 2, none⟩ = some (.map none) := cl_kept hbel (by simp [go_sem])
          have d3 : wc.cell? ⟨w.heap.size + 1, 3, none⟩ = some (.slice none 0 0) := cl_kept hbel (by simp [go_sem])
          have d4 : wc.cell? ⟨w.heap.size + 1, 4, none⟩ = some (.slice none 0 0) := cl_kept hbel (by simp [go_sem])
          have zD : w.heap.size + 1 < wc.heap.size := World.block_lt_of_cell? _ _ d0
          have k0 : wc.frozen? ⟨w.heap.size + 1, 0, none⟩ = false := (hbel.frozen (by simp)).trans (by simp [go_sem])
          have k1 : wc.frozen? ⟨w.heap.size + 1, 1, none⟩ = false := (hbel.frozen (by simp)).trans (by simp [go_sem])
          have k2 : wc.frozen? ⟨w.heap.size + 1, 2, none⟩ = false := (hbel.frozen (by simp)).trans (by simp [go_sem])
          have k3 : wc.frozen? ⟨w.heap.size + 1, 3, none⟩ = false := (hbel.frozen (by simp)).trans (by simp [go_sem])
          have k4 : wc.frozen? ⟨w.heap.size + 1, 4, none⟩ = false := (hbel.frozen (by simp)).trans (by simp [go_sem])
          have HBc : Hid (Below w.heap.size w wc) := bl_via (bl_alloc (bl_alloc (bl_refl _))) hbel
          have HNO : Hid (¬ MOk1 L M i) := hno
          clear hbel hno hc0 c4 zBc
          go_wp2
          refine bodyPost_ret (v := .tuple #[.agg #[.slice none 0 0, .map none, .map none, .slice none 0 0, .slice none 0 0], .bool false]) (by simp [results, Tryz.results96, go_sem, *]) rfl (Or.inl ⟨none, 0, 0, none, none, none, 0, 0, none, 0, 0, rfl, fun hall => HNO.out (hall.1 i h1), ?_⟩)
          with_reducible repeat' (first | exact HBc.out | refine bl_set ?_ ?_ | refine bl_alloc ?_)
          all_goals (dsimp only; omega)
    · have i1 : ¬ (i : Int) < (L.length : Int) := by omega
      obtain rfl : i = L.length := by omega
      obtain ⟨pa, pc, rfl, hT⟩ := own_tris HS.out.own
      rw [pls_len] at HS
      have c0 := HS.out.c0
      have c1 := HS.out.c1
      have c2 := HS.out.c2
      have c3 := HS.out.c3
      have c4 := HS.out.c4
      have HT : Hid (TRow wr pa (pls L M L.length)) := hT
      have HPA : Hid (∀ g, pa = some ⟨g, 0, none⟩ → w.heap.size + 1 + 1 + 1 ≤ g) := fun g e => own_base HS.out.own g (by rw [e]; rfl)
      clear hT
      have d0 : wr.cell? ⟨w.heap.size + 1, 0, none⟩ = some (.slice none 0 0) := cl_kept HS.out.bel (by simp [go_sem])
      have d1 : wr.cell? ⟨w.heap.size + 1, 1, none⟩ = some (.map none) := cl_kept HS.out.bel (by simp [go_sem])
      have d2 : wr.cell? ⟨w.heap.size + 1, 2, none⟩ = some (.map none) := cl_kept HS.out.bel (by simp [go_sem])
      have d3 : wr.cell? ⟨w.heap.size + 1, 3, none⟩ = some (.slice none 0 0) := cl_kept HS.out.bel (by simp [go_sem])
      have d4 : wr.cell? ⟨w.heap.size + 1, 4, none⟩ = some (.slice none 0 0) := cl_kept HS.out.bel (by simp [go_sem])
      have zD : w.heap.size + 1 < wr.heap.size := World.block_lt_of_cell? _ _ d0
      have k0 : wr.frozen? ⟨w.heap.size + 1, 0, none⟩ = false := (HS.out.bel.frozen (by simp)).trans (by simp [go_sem])
      have k1 : wr.frozen? ⟨w.heap.size + 1, 1, none⟩ = false := (HS.out.bel.frozen (by simp)).trans (by simp [go_sem])
      have k2 : wr.frozen? ⟨w.heap.size + 1, 2, none⟩ = false := (HS.out.bel.frozen (by simp)).trans (by simp [go_sem])
      have k3 : wr.frozen? ⟨w.heap.size + 1, 3, none⟩ = false := (HS.out.bel.frozen (by simp)).trans (by simp [go_sem])
      have k4 : wr.frozen? ⟨w.heap.size + 1, 4, none⟩ = false := (HS.out.bel.frozen (by simp)).trans (by simp [go_sem])
      obtain ⟨bf, HBF, hbf⟩ : ∃ bf : Bool, Hid (bf = true ↔ ∀ i, i < L.length → FitI kd L M i) ∧ ∀ W' : World, Below wr.heap.size wr W' → Calls Tryz.prog 185 #[.agg #[.slice ad L.length cc, .map (some ra), .map (some rk), .slice (some ⟨gm, 0, none⟩) L.length cm, .slice pa L.length pc]] W' fun e w' => e = .returned (.bool bf) ∧ Below W'.heap.size W' w' := by
        obtain ⟨bf, h1, h2⟩ := fit_bool kd L M
        exact ⟨bf, h1, fun W' hW' => (CF.out W' pa L.length pc (bl_via HB.out hW') (fun i hi => (HOK.out i hi).1)).mono fun e w' h => h2 _ _ _ h⟩
      have CF0 : Hid (∀ W' : World, Below wr.heap.size wr W' → Calls Tryz.prog 185 #[.agg #[.slice ad L.length cc, .map (some ra), .map (some rk), .slice (some ⟨gm, 0, none⟩) L.length cm, .slice pa L.length pc]] W' fun e w' => e = .returned (.bool bf) ∧ Below W'.heap.size W' w') := fun W' hW' => hbf W' hW'
      have HB1 : Hid (Below w.heap.size w wr) := HB.out
      clear CF CM HR HI HS HB
      go_wp2
      go_region_held3 (fun w' => w'.cell? ⟨w.heap.size + 1 + 1, 0, none⟩ = some (.slice ad L.length cc) ∧ w'.cell? ⟨w.heap.size + 1 + 1, 1, none⟩ = some (.map (some ra)) ∧ w'.cell? ⟨w.heap.size + 1 + 1, 2, none⟩ = some (.map (some rk)) ∧ w'.cell? ⟨w.heap.size + 1 + 1, 3, none⟩ = some (.slice (some ⟨gm, 0, none⟩) L.length cm) ∧ w'.cell? ⟨w.heap.size + 1 + 1, 4, none⟩ = some (.slice pa L.length pc))
        ((refine ⟨?_, ?_, ?_, ?_, ?_⟩ <;> (repeat' (first | (with_reducible assumption) | (with_reducible refine st_far ?_ ?_) | (dsimp only; omega) | (simp [go_sem]; done) | (with_reducible refine al_old ?_) | (with_reducible refine dr_old ?_)))))
        ((go_at_call 185; refine (CF0.out _ (by with_reducible repeat (first | exact bl_refl _ | refine bl_drew ?_ | refine bl_alloc ?_))).mono ?_; rintro e w8 ⟨rfl, hb⟩; have c0_8 : w8.cell? ⟨w.heap.size + 1 + 1, 0, none⟩ = some (.slice ad L.length cc) := cl_kept hb (by with_reducible (repeat (first | assumption | refine dr_old ?_ | refine al_old ?_))); have c1_8 : w8.cell? ⟨w.heap.size + 1 + 1, 1, none⟩ = some (.map (some ra)) := cl_kept hb (by with_reducible (repeat (first | assumption | refine dr_old ?_ | refine al_old ?_))); have c2_8 : w8.cell? ⟨w.heap.size + 1 + 1, 2, none⟩ = some (.map (some rk)) := cl_kept hb (by with_reducible (repeat (first | assumption | refine dr_old ?_ | refine al_old ?_))); have c3_8 : w8.cell? ⟨w.heap.size + 1 + 1, 3, none⟩ = some (.slice (some ⟨gm, 0, none⟩) L.length cm) := cl_kept hb (by with_reducible (repeat (first | assumption | refine dr_old ?_ | refine al_old ?_))); have c4_8 : w8.cell? ⟨w.heap.size + 1 + 1, 4, none⟩ = some (.slice pa L.length pc) := cl_kept hb (by with_reducible (repeat (first | assumption | refine dr_old ?_ | refine al_old ?_))); have d0_8 : w8.cell? ⟨w.heap.size + 1, 0, none⟩ = some (.slice none 0 0) := cl_kept hb (by with_reducible (repeat (first | assumption | refine dr_old ?_ | refine al_old ?_))); have k0_8 : w8.frozen? ⟨w.heap.size + 1, 0, none⟩ = false := (hb.frozen (by dsimp only; first | exact zD | (simp; exact zD))).trans (by first | exact k0 | (simp [go_sem, k0]; done)); have d1_8 : w8.cell? ⟨w.heap.size + 1, 1, none⟩ = some (.map none) := cl_kept hb (by with_reducible (repeat (first | assumption | refine dr_old ?_ | refine al_old ?_))); have k1_8 : w8.frozen? ⟨w.heap.size + 1, 1, none⟩ = false := (hb.frozen (by dsimp only; first | exact zD | (simp; exact zD))).trans (by first | exact k1 | (simp [go_sem, k1]; done)); have d2_8 : w8.cell? ⟨w.heap.size + 1, 2, none⟩ = some (.map none) := cl_kept hb (by with_reducible (repeat (first | assumption | refine dr_old ?_ | refine al_old ?_))); have k2_8 : w8.frozen? ⟨w.heap.size + 1, 2, none⟩ = false := (hb.frozen (by dsimp only; first | exact zD | (simp; exact zD))).trans (by first | exact k2 | (simp [go_sem, k2]; done)); have d3_8 : w8.cell? ⟨w.heap.size + 1, 3, none⟩ = some (.slice none 0 0) := cl_kept hb (by with_reducible (repeat (first | assumption | refine dr_old ?_ | refine al_old ?_))); have k3_8 : w8.frozen? ⟨w.heap.size + 1, 3, none⟩ = false := (hb.frozen (by dsimp only; first | exact zD | (simp; exact zD))).trans (by first | exact k3 | (simp [go_sem, k3]; done)); have d4_8 : w8.cell? ⟨w.heap.size + 1, 4, none⟩ = some (.slice none 0 0) := cl_kept hb (by with_reducible (repeat (first | assumption | refine dr_old ?_ | refine al_old ?_))); have k4_8 : w8.frozen? ⟨w.heap.size + 1, 4, none⟩ = false := (hb.frozen (by dsimp only; first | exact zD | (simp; exact zD))).trans (by first | exact k4 | (simp [go_sem, k4]; done)); have hq : Below wr.heap.size wr w8 := (by with_reducible (first | exact hb | exact bl_undrew hb | exact bl_undrew (bl_undrew hb))); have HQ8 : Hid (Below wr.heap.size wr w8) := hq; have zs1 : w.heap.size + 1 < w8.heap.size := World.block_lt_of_cell? _ _ d0_8; have zs2 : w.heap.size + 1 + 1 < w8.heap.size := World.block_lt_of_cell? _ _ c0_8; clear hb hq))
      all_goals
        go_wp2
        refine bodyPost_ret (v := .tuple #[.agg #[.slice ad L.length cc, .map (some ra), .map (some rk), .slice (some ⟨gm, 0, none⟩) L.length cm, .slice pa L.length pc], .bool bf]) (by simp [results, Tryz.results96, go_sem, *]) rfl ?_
        have hT8 := HT.out.kept HQ8.out
        refine sprTo_of HBF.out HOK.out ?_ ?_
        · with_reducible repeat' (first | exact hT8 | refine TRow.far ?_ ?_ | refine TRow.dr ?_)
          all_goals (intro g e; have := HPA.out g e; dsimp only; omega)
        · with_reducible repeat' (first | exact bl_via HB1.out HQ8.out | refine bl_set ?_ ?_ | refine bl_drew ?_)
          all_goals (dsimp only; omega)
set_option maxRecDepth 100000 in
theorem spread_len (w : World) (n cc ra rk mn cm : Nat) (ad mp : Option Addr) (hne : mn ≠ n) :
    Calls Tryz.prog 96 #[.agg #[.slice ad n cc, .map (some ra), .map (some rk)], .slice mp mn cm] w fun e w' => e = .returned (.tuple #[.agg #[.slice none 0 0, .map none, .map none, .slice none 0 0, .slice none 0 0], .bool false]) ∧ Below w.heap.size w w' := by
  have qn : ((mn : Int) != (n : Int)) = true := by
    rw [bne_iff_ne]
    omega
  clear hne
  go_enter Tryz.func96, Tryz.ntmps96
  go_wp2
  refine bodyPost_ret (v := .tuple #[.agg #[.slice none 0 0, .map none, .map none, .slice none 0 0, .slice none 0 0], .bool false]) (by simp [results, Tryz.results96, go_sem]) rfl ⟨rfl, ?_⟩
  with_reducible repeat (first | exact bl_refl _ | refine bl_alloc ?_ | refine bl_set ?_ ?_)
  all_goals simp
end Go.Proofs.YtnpboeodhpenmaaGreatDoor
namespace Go.Proofs.YtnpboeodhpenmaaGreatDoor
open Go.RowKit Go.ChangeMaps

/-- A pile as it lies in memory. -/
structure PileAt (w : World) (ad : Option Addr) (cc ra rk gm cm : Nat) (pa : Option Addr) (pc : Nat) (L : List (Int × Int × Int)) (kd : Int × Int × Int × Int → Int) (M : Nat → M6) : Prop where
  tr : PA w ad ra L
  kl : KL w rk kd
  mr : MRow w gm L.length M
  pl : TRow w pa (pls L M L.length)
theorem PileAt.kept {w w' : World} {ad : Option Addr} {cc ra rk gm cm : Nat} {pa : Option Addr} {pc : Nat} {L : List (Int × Int × Int)} {kd : Int × Int × Int × Int → Int} {M : Nat → M6} (h : PileAt w ad cc ra rk gm cm pa pc L kd M) (hb : Below w.heap.size w w') : PileAt w' ad cc ra rk gm cm pa pc L kd M := ⟨h.tr.kept hb, h.kl.kept hb, h.mr.kept hb, h.pl.kept hb⟩
theorem TRow.not_at {w : World} {pa : Option Addr} {l : List (Int × Int × Int)} {b : Nat} (h : TRow w pa l) (h0 : 0 < l.length) (hc : w.cell? ⟨b, 0, none⟩ = some (.slice none 0 0)) : ∀ g, pa = some ⟨g, 0, none⟩ → g ≠ b := fun g e e2 => by
  obtain ⟨g', e', c0, _⟩ := h 0 h0
  rw [e] at e'
  cases e'
  subst e2
  rw [Nat.zero_mul, hc] at c0
  cases c0
theorem TRow.grown {w w' : World} {pa : Option Addr} {l : List (Int × Int × Int)} {b : Nat} (h : TRow w pa l) (hg : w.grownBy w' (some b)) (hn : ∀ g, pa = some ⟨g, 0, none⟩ → g ≠ b) : TRow w' pa l := fun i hi => by
  obtain ⟨g, e, c0, c1, c2⟩ := h i hi
  have hne : some g ≠ some b := fun e2 => hn g e (by simpa using e2)
  exact ⟨g, e, hg.cell c0 hne, hg.cell c1 hne, hg.cell c2 hne⟩
end Go.Proofs.YtnpboeodhpenmaaGreatDoor
