/- A part of the proof of cutTells_holds. -/
import Derived.Test.YtmjhfdohcghhoaaGreatDoorQlbv
import Derived.Test.YtmjhfdohcghhoaaGreatDoorQlbn
import Derived.Test.YtmjhfdohcghhoaaGreatDoorQlae
import Derived.Test.YtmjhfdohcghhoaaGreatDoorQlau
import Derived.Test.YtmjhfdohcghhoaaGreatDoorQlbl
import Derived.Test.YtmjhfdohcghhoaaGreatDoorQlas
import Derived.Test.YtmjhfdohcghhoaaGreatDoorQlbm
namespace Go.Proofs.YtmjhfdohcghhoaaGreatDoor
open Go.RowKit Go.ChangeMaps

/-- The side of one place. -/
def sdN (v c : Int) (pl : List (Int × Int × Int)) (i : Nat) : Int := sideN v c (pl.getD i (0, 0, 0)).1 (pl.getD i (0, 0, 0)).2.1 (pl.getD i (0, 0, 0)).2.2
def sdV (v c : Int) (pl : List (Int × Int × Int)) (n : Nat) : List Value := (List.range n).map fun i => .int .i64 (sdN v c pl i)
theorem sdV_succ (v c : Int) (pl : List (Int × Int × Int)) (n : Nat) : sdV v c pl (n + 1) = sdV v c pl n ++ [.int .i64 (sdN v c pl n)] := by
  unfold sdV
  rw [List.range_succ, List.map_append]
  rfl
theorem cell_one_new (w : World) (u : Value) (T : TypeId) : ∀ j z, [u][j]? = some z → (w.alloc (.cells #[u] T)).cell? ((⟨w.heap.size, 0, none⟩ : Addr).add j) = some z := by
  intro j z hz
  match j, hz with
  | 0, hz => simp at hz; subst hz; simp [Addr.add, go_sem]
theorem own_zrow {w : World} {base n : Nat} {u : Value} {v c : Int} {pl : List (Int × Int × Int)} (h : w.ownsRow base 3 1 u n (sdV v c pl n)) (h0 : 0 < n) : ∃ g q, u = .slice (some ⟨g, 0, none⟩) n q ∧ ZRow w g n (sdN v c pl) ∧ base ≤ g := by
  rcases h.2 with ⟨_, e⟩ | ⟨g, q, cur, rfl, hb, _⟩
  · omega
  · refine ⟨g, q, rfl, fun i hi => ⟨?_, h.frozenAt i⟩, hb⟩
    rw [h.cellAt i (by omega)]
    simp [sdV, hi]
set_option maxRecDepth 100000 in
set_option maxHeartbeats 3200000 in
theorem sidesOf_in (v c : Int) (pa : Option Addr) (pc : Nat) (pl : List (Int × Int × Int)) (w : World) (hP : TRow w pa pl) (h0 : 0 < pl.length) (hlen : pl.length ≤ 300) (hl : lineB v c = true) (ht : ∀ t ∈ pl, triB t.1 t.2.1 t.2.2 = true) (hs : Steps w) :
    Calls Tryz.prog 23 #[.agg #[.int .i64 v, .int .i64 c], .slice pa pl.length pc] w fun e w' => ∃ g q, e = .returned (.tuple #[.slice (some ⟨g, 0, none⟩) pl.length q, .int .i64 0]) ∧ ZRow w' g pl.length (sdN v c pl) ∧ w.heap.size ≤ g ∧ Below w.heap.size w w' := by
  have HR : Hid (TRow w pa pl ∧ lineB v c = true ∧ (∀ t ∈ pl, triB t.1 t.2.1 t.2.2 = true) ∧ Steps w) := ⟨hP, hl, ht, hs⟩
  obtain ⟨i3, hi3, hz30, hz31, hz32⟩ := info_parts inf3
  have HI : Hid (Tryz.prog.info? 3 = some i3 ∧ i3.zero = some (.int .i64 0) ∧ i3.size = 1 ∧ i3.bytes = 8) := ⟨hi3, hz30, hz31, hz32⟩
  obtain ⟨n, hn⟩ : ∃ n, n = pl.length := ⟨_, rfl⟩
  have HN : Hid (n = pl.length) := hn
  rw [← hn] at h0 hlen ⊢
  clear hP hl ht hs hi3 hz30 hz31 hz32 hn
  go_enter Tryz.func23, Tryz.ntmps23
  go_upto_region 1 with fail
  refine wp_named (fun W0 hW0 => ?_)
  have hw0 : Below w.heap.size w W0 := by rw [hW0]; exact bl_alloc (bl_refl _)
  have x0 : W0.cell? ⟨w.heap.size, 0, none⟩ = some (.int .i64 v) := by rw [hW0]; simp [go_sem]
  have x1 : W0.cell? ⟨w.heap.size, 1, none⟩ = some (.int .i64 c) := by rw [hW0]; simp [go_sem]
  have HW : Hid (Below w.heap.size w W0) := hw0
  clear hW0 hw0
  go_wp2_with (at_make; refine wpList_make_own _ rfl (.const (.int .i64 0)) (.tmp 12) 22 rfl W0.heap.size 3 i3 (.int .i64 0) 1 Tryz.underlying22 HI.out.1 HI.out.2.1 HI.out.2.2.1 .i64 .i64 _ n rfl rfl rfl (by rw [HI.out.2.2.2]; omega) (by unfold maxLen; omega) (by simp) ?mk)
  case mk =>
    intro w1 hown hg1
    have hb1 : Below W0.heap.size W0 w1 := (Below.refl _ _).grown hg1 (Nat.le_refl _) (fun k h => by cases h)
    have HB1 : Hid (Below W0.heap.size W0 w1 ∧ w1.ownsRow W0.heap.size 3 1 (.slice (some ⟨W0.heap.size, 0, none⟩) 0 n) 0 []) := ⟨hb1, by simpa using hown⟩
    clear hown hg1 hb1
    go_wp2
    go_loopg [6, 16] n (fun gk s6 s16 wx => ∃ (i : Nat) (u : Value), i ≤ n ∧ gk = n - i ∧ u = s6 ∧ s16 = .int .i64 (i : Int) ∧ wx.ownsRow W0.heap.size 3 1 u i (sdV v c pl i) ∧ Below W0.heap.size W0 wx)
    case atStart => exact ⟨0, _, by omega, rfl, rfl, rfl, by simpa [sdV] using HB1.out.2, HB1.out.1⟩
    case round =>
      clear HB1
      obtain ⟨i, u, hi, rfl, rfl, rfl, hO, hB⟩ := hrel
      have HO : Hid (wr.ownsRow W0.heap.size 3 1 u i (sdV v c pl i) ∧ Below W0.heap.size W0 wr ∧ Below w.heap.size w wr) := ⟨hO, hB, bl_via HW.out hB⟩
      have y0 := cl_kept hB x0
      have y1 := cl_kept hB x1
      have zb : w.heap.size < wr.heap.size := World.block_lt_of_cell? _ _ y0
      have zw : W0.heap.size ≤ wr.heap.size := hB.size
      clear hO hB
      by_cases h1 : i < n
      · have i1 : (i : Int) < (n : Int) := by omega
        have i0 : (0 : Int) ≤ (i : Int) := by omega
        have hil : i < pl.length := by rw [← HN.out]; exact h1
        obtain ⟨gp, ep, t0, t1, t2⟩ := (HR.out.1.kept HO.out.2.2) i hil
        subst ep
        obtain ⟨x, y, k, hti⟩ : ∃ x y k, pl[i] = (x, y, k) := ⟨_, _, _, rfl⟩
        have HT : Hid (triB x y k = true ∧ sdN v c pl i = sideN v c x y k) := by
          have h1 := HR.out.2.2.1 pl[i] (List.getElem_mem hil)
          rw [hti] at h1
          refine ⟨h1, ?_⟩
          unfold sdN
          rw [List.getD_eq_getElem?_getD, List.getElem?_eq_getElem hil, hti]
          rfl
        rw [hti] at t0 t1 t2
        dsimp only at t0 t1 t2
        have zp : gp < wr.heap.size := World.block_lt_of_cell? _ _ t0
        obtain ⟨sd, hsd⟩ : ∃ s, s = sideN v c x y k := ⟨_, rfl⟩
        have CSD : Hid (∀ V : World, Below w.heap.size w V → Calls Tryz.prog 49 #[.agg #[.int .i64 v, .int .i64 c], .agg #[.int .i64 x, .int .i64 y, .int .i64 k]] V fun e w' => e = .returned (.tuple #[.int .i64 sd, .int .i64 0]) ∧ Below V.heap.size V w') := fun V hV => by
          rw [hsd]
          exact Side_in v c x y k V HT.out.1 HR.out.2.1 (HR.out.2.2.2.kept hV)
        have HE : Hid (sdV v c pl (i + 1) = sdV v c pl i ++ [.int .i64 sd]) := by
          have : sdV v c pl (i + 1) = sdV v c pl i ++ [.int .i64 sd] := by rw [sdV_succ, HT.out.2, hsd]
          exact this
        clear hti hsd
        go_wp2_with (first
          | (go_at_call 49; refine (CSD.out _ (by with_reducible exact bl_alloc HO.out.2.2)).mono ?_; rintro e w2 ⟨rfl, hb2⟩; have HO2 : Hid (w2.ownsRow W0.heap.size 3 1 u i (sdV v c pl i) ∧ Below W0.heap.size W0 w2) := ⟨own_below (own_below HO.out.1 (bl_alloc (bl_refl _))) hb2, bl_via (bl_alloc HO.out.2.1) hb2⟩; have z2 : W0.heap.size ≤ w2.heap.size := HO2.out.2.size; clear hb2)
          | (at_builtin; refine wpList_append_own _ rfl (.tmp 29) (.tmp 31) 22 rfl W0.heap.size 3 i3 (.int .i64 0) 1 8 Tryz.underlying22 HI.out.1 HI.out.2.1 HI.out.2.2.1 HI.out.2.2.2 rfl (by decide) u i (sdV v c pl i) rfl (own_below HO2.out.1 (bl_alloc (bl_refl _))) ⟨w2.heap.size, 0, none⟩ 1 1 [.int .i64 sd] rfl rfl (cell_one_new w2 _ _) (by intro q hq; simp at hq; subst hq; rfl) (by unfold maxLen; omega) (by omega) (by simp; omega) ?grow))
        case grow =>
          intro u' w3 hown hgrow _
          have HO3 : Hid (w3.ownsRow W0.heap.size 3 1 u' (i + 1) (sdV v c pl (i + 1)) ∧ Below W0.heap.size W0 w3) := by
            refine ⟨?_, ?_⟩
            · rw [HE.out]
              exact hown
            · exact (bl_alloc HO2.out.2).grown hgrow (bl_alloc HO2.out.2).size (fun k hk => own_base HO2.out.1 k hk)
          clear hown hgrow
          go_wp2
          go_roundg (n - (i + 1))
          case measure => omega
          case rel => exact ⟨i + 1, _, by omega, rfl, rfl, by go_num, HO3.out.1, HO3.out.2⟩
      · have i1 : ¬ (i : Int) < (n : Int) := by omega
        obtain rfl : i = n := by omega
        obtain ⟨g, q, hu, hz, hg⟩ := own_zrow HO.out.1 h0
        subst hu
        have HZ : Hid (ZRow wr g i (sdN v c pl) ∧ W0.heap.size ≤ g) := ⟨hz, hg⟩
        clear hz hg
        go_wp2
        exact bodyPost_ret (v := .tuple #[.slice (some ⟨g, 0, none⟩) i q, .int .i64 0]) (by simp [results, Tryz.results23, go_sem]) rfl ⟨g, ⟨q, rfl⟩, HZ.out.1, Nat.le_trans HW.out.size HZ.out.2, HO.out.2.2⟩
set_option maxRecDepth 100000 in
set_option maxHeartbeats 3200000 in
theorem sidesOf_out (v c : Int) (pa : Option Addr) (pc : Nat) (pl : List (Int × Int × Int)) (w : World) (hP : TRow w pa pl) (h0 : 0 < pl.length) (hlen : pl.length ≤ 300) (hl : lineB v c = false) :
    Calls Tryz.prog 23 #[.agg #[.int .i64 v, .int .i64 c], .slice pa pl.length pc] w fun e w' => e = .returned (.tuple #[.slice none 0 0, .int .i64 3]) ∧ Below w.heap.size w w' := by
  obtain ⟨i3, hi3, hz30, hz31, hz32⟩ := info_parts inf3
  have HI : Hid (Tryz.prog.info? 3 = some i3 ∧ i3.zero = some (.int .i64 0) ∧ i3.size = 1 ∧ i3.bytes = 8) := ⟨hi3, hz30, hz31, hz32⟩
  obtain ⟨gp, ep, t0, t1, t2⟩ := hP 0 h0
  subst ep
  obtain ⟨x, y, k, hti⟩ : ∃ x y k, pl[0] = (x, y, k) := ⟨_, _, _, rfl⟩
  rw [hti] at t0 t1 t2
  simp only [Nat.zero_mul, Nat.zero_add] at t0 t1 t2
  have CSD : Hid (∀ V : World, Calls Tryz.prog 49 #[.agg #[.int .i64 v, .int .i64 c], .agg #[.int .i64 x, .int .i64 y, .int .i64 k]] V fun e w' => e = .returned (.tuple #[.int .i64 0, .int .i64 3]) ∧ Below V.heap.size V w') := fun V => Side_out v c x y k V (Or.inl hl)
  obtain ⟨n, hn⟩ : ∃ n, n = pl.length := ⟨_, rfl⟩
  rw [← hn] at h0 hlen ⊢
  clear hP hl hi3 hz30 hz31 hz32 hn hti
  go_enter Tryz.func23, Tryz.ntmps23
  go_upto_region 1 with fail
  refine wp_named (fun W0 hW0 => ?_)
  have hw0 : Below w.heap.size w W0 := by rw [hW0]; exact bl_alloc (bl_refl _)
  have x0 : W0.cell? ⟨w.heap.size, 0, none⟩ = some (.int .i64 v) := by rw [hW0]; simp [go_sem]
  have x1 : W0.cell? ⟨w.heap.size, 1, none⟩ = some (.int .i64 c) := by rw [hW0]; simp [go_sem]
  have HW : Hid (Below w.heap.size w W0) := hw0
  replace t0 := cl_kept hw0 t0
  replace t1 := cl_kept hw0 t1
  replace t2 := cl_kept hw0 t2
  clear hW0 hw0
  go_wp2_with (at_make; refine wpList_make_own _ rfl (.const (.int .i64 0)) (.tmp 12) 22 rfl W0.heap.size 3 i3 (.int .i64 0) 1 Tryz.underlying22 HI.out.1 HI.out.2.1 HI.out.2.2.1 .i64 .i64 _ n rfl rfl rfl (by rw [HI.out.2.2.2]; omega) (by unfold maxLen; omega) (by simp) ?mk)
  case mk =>
    intro w1 hown hg1
    have hb1 : Below W0.heap.size W0 w1 := (Below.refl _ _).grown hg1 (Nat.le_refl _) (fun k h => by cases h)
    have HB1 : Hid (Below W0.heap.size W0 w1) := hb1
    clear hown hg1 hb1
    go_wp2
    go_loopg [16] 0 (fun gk s16 wx => gk = 0 ∧ s16 = .int .i64 0 ∧ Below W0.heap.size W0 wx)
    case atStart => exact ⟨rfl, rfl, HB1.out⟩
    case round =>
      clear HB1
      obtain ⟨rfl, rfl, hB⟩ := hrel
      have y0 := cl_kept hB x0
      have y1 := cl_kept hB x1
      replace t0 := cl_kept hB t0
      replace t1 := cl_kept hB t1
      replace t2 := cl_kept hB t2
      have zb : w.heap.size < wr.heap.size := World.block_lt_of_cell? _ _ y0
      have zp : gp < wr.heap.size := World.block_lt_of_cell? _ _ t0
      have HO : Hid (Below w.heap.size w wr) := bl_via HW.out hB
      have i1 : (0 : Int) < (n : Int) := by omega
      clear hB x0 x1
      go_wp2_with (go_at_call 49; refine (CSD.out _).mono ?_; rintro e w2 ⟨rfl, hb2⟩; have HO2 : Hid (Below w.heap.size w w2) := bl_via (bl_alloc HO.out) hb2; clear hb2)
      exact bodyPost_ret (v := .tuple #[.slice none 0 0, .int .i64 3]) (by simp [results, Tryz.results23, go_sem]) rfl ⟨rfl, HO2.out⟩

set_option maxRecDepth 100000 in
set_option maxHeartbeats 1600000 in
theorem piecesCl_any (w : World) (pb g q n i j : Nat) (sd : Nat → Int) (q0 q1 q2 q3 : Int) (hi : i < n) (hj : j < n) (_hn : n ≤ 300) (p0 : w.cell? ⟨pb, 0, none⟩ = some (.slice (some ⟨g, 0, none⟩) n q)) (hZ : ZRow w g n sd) :
    Calls Tryz.prog 24 #[.int .i64 (i : Int), .agg #[.int .i64 q0, .int .i64 q1, .int .i64 q2, .int .i64 q3, .int .i64 (j : Int)], .pointer (some ⟨pb, 0, none⟩)] w fun e w' => e = .returned (.bool (decide (sd i = sd j))) ∧ Below w.heap.size w w' := by
  have si := (hZ i hi).1
  have sj := (hZ j hj).1
  obtain ⟨a, ha⟩ : ∃ a, a = sd i := ⟨_, rfl⟩
  obtain ⟨b, hb⟩ : ∃ b, b = sd j := ⟨_, rfl⟩
  rw [← ha] at si ⊢
  rw [← hb] at sj ⊢
  have i1 : (i : Int) < (n : Int) := by omega
  have i0 : (0 : Int) ≤ (i : Int) := by omega
  have j1 : (j : Int) < (n : Int) := by omega
  have j0 : (0 : Int) ≤ (j : Int) := by omega
  clear hZ ha hb
  go_enter Tryz.func24, Tryz.ntmps24
  go_upto_region 1 with fail
  refine wp_named (fun W0 hW0 => ?_)
  have hw0 : Below w.heap.size w W0 := by rw [hW0]; exact bl_alloc (bl_refl _)
  have x4 : W0.cell? ⟨w.heap.size, 4, none⟩ = some (.int .i64 (j : Int)) := by rw [hW0]; simp [go_sem]
  replace p0 := cl_kept hw0 p0
  replace si := cl_kept hw0 si
  replace sj := cl_kept hw0 sj
  have HW : Hid (Below w.heap.size w W0) := hw0
  have z0 : w.heap.size < W0.heap.size := World.block_lt_of_cell? _ _ x4
  have z1 : pb < W0.heap.size := World.block_lt_of_cell? _ _ p0
  have z2 : g < W0.heap.size := World.block_lt_of_cell? _ _ si
  clear hW0 hw0
  obtain ⟨dd, hdd⟩ : ∃ d : Bool, d = decide (a = b) := ⟨_, rfl⟩
  have HD : Hid (dd = decide (a = b)) := hdd
  clear hdd
  have kc := Kin.cells W0
  have kn : Nonempty (Kin W0) := ⟨⟨W0, bl_refl _⟩⟩
  refine wp_region_kin (by kernel_rfl) (by kernel_rfl) ?_
  repeat (go_big_quiet_step (fail))
  refine wpQuiet_nil ?_
  intro wq hw'
  obtain ⟨nq, hw''⟩ := hw'
  have hq : Below W0.heap.size W0 wq := hw'' ▸ nq.h
  clear hw'' nq kc kn p0 si sj x4
  go_wp2
  exact bodyPost_ret (v := .bool (decide (a = b))) (by simp [results, Tryz.results24, go_sem] <;> rw [Bool.eq_iff_iff] <;> simp) rfl ⟨rfl, bl_via HW.out hq⟩

/-- Do the triangles of an edge lie on one side? -/
def crS (L : List (Int × Int × Int)) (sd : Nat → Int) (e : Int × Int × Int × Int) : Bool := (List.range L.length).all fun i => (List.range L.length).all fun j => !(hasT (L.getD i (0, 0, 0)) e && hasT (L.getD j (0, 0, 0)) e) || decide (sd i = sd j)
theorem crS_is {L : List (Int × Int × Int)} {sd : Nat → Int} {e : Int × Int × Int × Int} (hnd : L.Nodup) (hk : ∀ t ∈ L, Kd t) {i j : Nat} (hi : i < L.length) (hj : j < L.length) (hne : j ≠ i) (h1 : hasT L[i] e = true) (h2 : hasT L[j] e = true) : crS L sd e = decide (sd i = sd j) := by
  have gd : ∀ k (h : k < L.length), L.getD k (0, 0, 0) = L[k] := fun k h => by
    rw [List.getD_eq_getElem?_getD, List.getElem?_eq_getElem h]
    rfl
  have two : ∀ k (h : k < L.length), hasT L[k] e = true → k = i ∨ k = j := fun k h h3 => by
    by_cases e1 : k = i
    · exact Or.inl e1
    · refine Or.inr (nodup_atH hnd h hj ?_)
      have a1 := acr_is (hk _ (List.getElem_mem hi)) (hk _ (List.getElem_mem h)) h1 h3 (fun q => e1 (nodup_atH hnd h hi q))
      have a2 := acr_is (hk _ (List.getElem_mem hi)) (hk _ (List.getElem_mem hj)) h1 h2 (fun q => hne (nodup_atH hnd hj hi q))
      rw [a1, a2]
  rw [Bool.eq_iff_iff, decide_eq_true_eq]
  unfold crS
  simp only [List.all_eq_true, List.mem_range, Bool.or_eq_true, Bool.not_eq_true', Bool.and_eq_false_iff, decide_eq_true_eq]
  constructor
  · intro h
    have := h i hi j hj
    rw [gd i hi, gd j hj, h1, h2] at this
    simpa using this
  · intro h x hx y hy
    rw [gd x hx, gd y hy]
    cases q1 : hasT L[x] e
    · exact Or.inl (Or.inl rfl)
    · cases q2 : hasT L[y] e
      · exact Or.inl (Or.inr rfl)
      · refine Or.inr ?_
        rcases two x hx q1 with rfl | rfl <;> rcases two y hy q2 with rfl | rfl
        · rfl
        · exact h
        · exact h.symm
        · rfl
set_option maxRecDepth 100000 in
set_option maxHeartbeats 3200000 in
theorem pieces_no (W H v l : Int) (a c mp sp : Option Addr) (zl ca n cc mn mc sn sc : Nat) (w : World) (CO : Hid (∀ V : World, Below w.heap.size w V → Calls Tryz.prog 22 #[.agg #[.int .i64 W, .int .i64 H, .slice a zl ca, .slice c n cc, .slice mp mn mc, .slice sp sn sc]] V fun e w' => ∃ z0 k0 d0 m1 m2 z3 k3 d3 z4 k4 d4 f, e = .returned (.tuple #[.agg #[.slice z0 k0 d0, .map m1, .map m2, .slice z3 k3 d3, .slice z4 k4 d4], f, .bool false]) ∧ Below V.heap.size V w')) :
    Calls Tryz.prog 6 #[.agg #[.int .i64 W, .int .i64 H, .slice a zl ca, .slice c n cc, .slice mp mn mc, .slice sp sn sc], .agg #[.int .i64 v, .int .i64 l]] w fun e w' => e = .returned (.tuple #[.slice none 0 0, .int .i64 10]) ∧ Below w.heap.size w w' := by
  go_enter Tryz.func6, Tryz.ntmps6
  go_upto_region 1 with fail
  refine wp_named (fun W0 hW0 => ?_)
  have hw0 : Below w.heap.size w W0 := by rw [hW0]; exact bl_alloc (bl_alloc (bl_refl _))
  have x0 : W0.cell? ⟨w.heap.size, 0, none⟩ = some (.int .i64 W) := by rw [hW0]; simp [go_sem]
  have x1 : W0.cell? ⟨w.heap.size, 1, none⟩ = some (.int .i64 H) := by rw [hW0]; simp [go_sem]
  have x2 : W0.cell? ⟨w.heap.size, 2, none⟩ = some (.slice a zl ca) := by rw [hW0]; simp [go_sem]
  have x3 : W0.cell? ⟨w.heap.size, 3, none⟩ = some (.slice c n cc) := by rw [hW0]; simp [go_sem]
  have x4 : W0.cell? ⟨w.heap.size, 4, none⟩ = some (.slice mp mn mc) := by rw [hW0]; simp [go_sem]
  have x5 : W0.cell? ⟨w.heap.size, 5, none⟩ = some (.slice sp sn sc) := by rw [hW0]; simp [go_sem]
  have y0 : W0.cell? ⟨w.heap.size + 1, 0, none⟩ = some (.int .i64 v) := by rw [hW0]; simp [go_sem]
  have y1 : W0.cell? ⟨w.heap.size + 1, 1, none⟩ = some (.int .i64 l) := by rw [hW0]; simp [go_sem]
  clear hW0
  go_wp2_with (go_at_call 22; refine (CO.out _ hw0).mono ?_; rintro e w1 ⟨z0, k0, d0, m1, m2, z3, k3, d3, z4, k4, d4, f, rfl, hb1⟩; have HB1 : Hid (Below w.heap.size w w1) := bl_via hw0 hb1; clear hb1)
  refine bodyPost_ret (v := .tuple #[.slice none 0 0, .int .i64 10]) (by simp [results, Tryz.results6, go_sem]) rfl ⟨rfl, ?_⟩
  have := HB1.out.size
  with_reducible repeat (first | exact HB1.out | refine bl_alloc ?_ | refine bl_set ?_ ?_)
  all_goals first | exact HB1.out | (dsimp only; omega)
set_option maxRecDepth 100000 in
set_option maxHeartbeats 3200000 in
theorem pieces_line (W H v l : Int) (a c mp sp : Option Addr) (zl ca n cc mn mc sn sc : Nat) (nn : Nat) (L : List (Int × Int × Int)) (kd : Int × Int × Int × Int → Int) (P : (Nat → M6) → Prop) (w : World) (hnn : nn = L.length) (h0 : 0 < nn) (hlen : nn ≤ 300) (hl : lineB v l = false) (CO : Hid (∀ V : World, Below w.heap.size w V → Calls Tryz.prog 22 #[.agg #[.int .i64 W, .int .i64 H, .slice a zl ca, .slice c n cc, .slice mp mn mc, .slice sp sn sc]] V fun e w' => ∃ M ad k ra rk gm cm pa pc f, e = .returned (.tuple #[.agg #[.slice ad nn k, .map (some ra), .map (some rk), .slice (some ⟨gm, 0, none⟩) nn cm, .slice pa nn pc], f, .bool true]) ∧ PileAt w' ad k ra rk gm cm pa pc L kd M ∧ P M ∧ Below V.heap.size V w')) :
    Calls Tryz.prog 6 #[.agg #[.int .i64 W, .int .i64 H, .slice a zl ca, .slice c n cc, .slice mp mn mc, .slice sp sn sc], .agg #[.int .i64 v, .int .i64 l]] w fun e w' => e = .returned (.tuple #[.slice none 0 0, .int .i64 3]) ∧ Below w.heap.size w w' := by
  have HN : Hid (nn = L.length) := hnn
  have HL : Hid (lineB v l = false) := hl
  clear hnn hl
  go_enter Tryz.func6, Tryz.ntmps6
  go_upto_region 1 with fail
  refine wp_named (fun W0 hW0 => ?_)
  have hw0 : Below w.heap.size w W0 := by rw [hW0]; exact bl_alloc (bl_alloc (bl_refl _))
  have x0 : W0.cell? ⟨w.heap.size, 0, none⟩ = some (.int .i64 W) := by rw [hW0]; simp [go_sem]
  have x1 : W0.cell? ⟨w.heap.size, 1, none⟩ = some (.int .i64 H) := by rw [hW0]; simp [go_sem]
  have x2 : W0.cell? ⟨w.heap.size, 2, none⟩ = some (.slice a zl ca) := by rw [hW0]; simp [go_sem]
  have x3 : W0.cell? ⟨w.heap.size, 3, none⟩ = some (.slice c n cc) := by rw [hW0]; simp [go_sem]
  have x4 : W0.cell? ⟨w.heap.size, 4, none⟩ = some (.slice mp mn mc) := by rw [hW0]; simp [go_sem]
  have x5 : W0.cell? ⟨w.heap.size, 5, none⟩ = some (.slice sp sn sc) := by rw [hW0]; simp [go_sem]
  have y0 : W0.cell? ⟨w.heap.size + 1, 0, none⟩ = some (.int .i64 v) := by rw [hW0]; simp [go_sem]
  have y1 : W0.cell? ⟨w.heap.size + 1, 1, none⟩ = some (.int .i64 l) := by rw [hW0]; simp [go_sem]
  clear hW0
  go_upto_region 2 with (go_at_call 22; refine (CO.out _ hw0).mono ?_; rintro e w1 ⟨M, ad, k, ra, rk, gm, cm, pa, pc, f, rfl, hp1, hP1, hb1⟩; have HB1 : Hid (Below w.heap.size w w1 ∧ Below W0.heap.size W0 w1 ∧ PileAt w1 ad k ra rk gm cm pa pc L kd M ∧ P M) := ⟨bl_via hw0 hb1, hb1, hp1, hP1⟩; have u0 := cl_kept hb1 y0; have u1 := cl_kept hb1 y1; have zu : w.heap.size + 1 < w1.heap.size := World.block_lt_of_cell? _ _ u0; clear hb1 hp1 hP1)
  refine wp_named (fun W2 hW2 => ?_)
  obtain ⟨G, hG⟩ : ∃ G, G = w1.heap.size := ⟨_, rfl⟩
  have hb2 : Below w1.heap.size w1 W2 := by
    rw [hW2]
    with_reducible repeat (first | exact bl_refl _ | refine bl_alloc ?_ | refine bl_set ?_ ?_)
    all_goals (dsimp only; omega)
  have q4 : W2.cell? ⟨G, 4, none⟩ = some (.slice pa nn pc) := by rw [hW2, hG]; simp [go_sem]
  rw [← hG]
  replace u0 := cl_kept hb2 u0
  replace u1 := cl_kept hb2 u1
  have HB2 : Hid (Below w.heap.size w W2 ∧ TRow W2 pa (pls L M L.length)) := ⟨bl_via HB1.out.1 hb2, HB1.out.2.2.1.pl.kept hb2⟩
  have zq : G < W2.heap.size := World.block_lt_of_cell? _ _ q4
  have zv : w.heap.size + 1 < W2.heap.size := World.block_lt_of_cell? _ _ u0
  have CS : Hid (Calls Tryz.prog 23 #[.agg #[.int .i64 v, .int .i64 l], .slice pa nn pc] W2 fun e w' => e = .returned (.tuple #[.slice none 0 0, .int .i64 3]) ∧ Below W2.heap.size W2 w') := by
    have := sidesOf_out v l pa pc (pls L M L.length) W2 HB2.out.2 (by rw [pls_len, ← HN.out]; exact h0) (by rw [pls_len, ← HN.out]; exact hlen) HL.out
    rw [pls_len, ← HN.out] at this
    exact this
  clear hW2 hG hb2 x0 x1 x2 x3 x4 x5 y0 y1 hw0
  go_wp2_with (go_at_call 23; refine CS.out.mono ?_; rintro e w3 ⟨rfl, hb3⟩; have HB3 : Hid (Below w.heap.size w w3) := bl_via HB2.out.1 hb3; clear hb3)
  refine bodyPost_ret (v := .tuple #[.slice none 0 0, .int .i64 3]) (by simp [results, Tryz.results6, go_sem]) rfl ⟨rfl, ?_⟩
  have := HB3.out.size
  with_reducible repeat (first | exact HB3.out | refine bl_alloc ?_ | refine bl_set ?_ ?_)
  all_goals first | exact HB3.out | (dsimp only; omega)

/-- A row of rows, read. -/
def NRe (w : World) (a : Option Addr) (F : List (List (Int × Int × Int))) : Prop := ∀ m (h : m < F.length), ∃ g a' c', a = some ⟨g, 0, none⟩ ∧ w.cell? ⟨g, m, none⟩ = some (.slice a' F[m].length c') ∧ TRow w a' F[m]
theorem NRe.kept {w wx : World} {a : Option Addr} {F : List (List (Int × Int × Int))} (h : NRe w a F) (hb : Below w.heap.size w wx) : NRe wx a F := fun m hm => by
  obtain ⟨g, a', c', e, h1, h2⟩ := h m hm
  exact ⟨g, a', c', e, cl_kept hb h1, h2.kept hb⟩
theorem Nest.readE {w : World} {base : Nat} {v : Value} {F : List (List (Int × Int × Int))} (h : Nest w base v F) : ∃ a c, v = .slice a F.length c ∧ NRe w a F := by
  obtain ⟨vs, hv⟩ := h
  obtain ⟨a, c, rfl, hg⟩ := own_form hv.2.1
  refine ⟨a, c, rfl, fun m hm => ?_⟩
  obtain ⟨g, rfl⟩ := hg (by omega)
  have hm2 : m < vs.length := by rw [hv.1]; exact hm
  obtain ⟨a', c', e, hT⟩ := own_tris (hv.2.2.1 m hm2 hm)
  exact ⟨g, a', c', rfl, by rw [hv.2.1.cellAt m (by omega), List.getElem?_eq_getElem hm2, e], hT⟩

set_option maxRecDepth 100000 in
set_option maxHeartbeats 3200000 in
theorem samePieces_yes (a c : Option Addr) (ca cc : Nat) (F : List (List (Int × Int × Int))) (w : World) (hF : F.length ≤ 300) (hf : ∀ f ∈ F, f.length ≤ 300) (ha : NRe w a F) (hc : NRe w c F) :
    Calls Tryz.prog 10 #[.slice a F.length ca, .slice c F.length cc] w fun e w' => e = .returned (.bool true) ∧ Below w.heap.size w w' := by
  have HR : Hid (NRe w a F ∧ NRe w c F ∧ ∀ f ∈ F, f.length ≤ 300) := ⟨ha, hc, hf⟩
  obtain ⟨n, hn⟩ : ∃ n, n = F.length := ⟨_, rfl⟩
  have HN : Hid (n = F.length) := hn
  rw [← hn] at hF ⊢
  clear ha hc hf hn
  go_enter Tryz.func10, Tryz.ntmps10
  go_wp2
  go_loopg [5] n (fun gk s5 wx => ∃ i : Nat, i ≤ n ∧ gk = n - i ∧ s5 = .int .i64 (i : Int) ∧ Below w.heap.size w wx)
  case atStart => exact ⟨0, by omega, rfl, rfl, bl_refl _⟩
  case round =>
    obtain ⟨i, hi, rfl, rfl, hB⟩ := hrel
    have HB : Hid (Below w.heap.size w wr) := hB
    clear hB
    by_cases h1 : i < n
    · have i1 : (i : Int) < (n : Int) := by omega
      have i0 : (0 : Int) ≤ (i : Int) := by omega
      have hiF : i < F.length := by rw [← HN.out]; exact h1
      obtain ⟨g1, a1, c1, e1, x1, T1⟩ := (HR.out.1.kept HB.out) i hiF
      obtain ⟨g2, a2, c2, e2, x2, T2⟩ := (HR.out.2.1.kept HB.out) i hiF
      subst e1 e2
      obtain ⟨f, hf⟩ : ∃ f, f = F[i] := ⟨_, rfl⟩
      rw [← hf] at x1 x2 T1 T2
      have hfl : f.length ≤ 300 := by rw [hf]; exact HR.out.2.2 _ (List.getElem_mem hiF)
      have CS : Hid (∀ V : World, Below wr.heap.size wr V → Calls Tryz.prog 15 #[.slice a1 f.length c1, .slice a2 f.length c2] V fun e w' => e = .returned (.bool true) ∧ Below V.heap.size V w') := fun V hV => sameTris_yes a1 a2 c1 c2 f V hfl (T1.kept hV) (T2.kept hV)
      obtain ⟨fl, hfn⟩ : ∃ m, m = f.length := ⟨_, rfl⟩
      rw [← hfn] at x1 x2 CS
      have z1 : g1 < wr.heap.size := World.block_lt_of_cell? _ _ x1
      have z2 : g2 < wr.heap.size := World.block_lt_of_cell? _ _ x2
      clear hf hfl T1 T2 hfn
      have kc := Kin.cells wr
      have kn : Nonempty (Kin wr) := ⟨⟨wr, bl_refl _⟩⟩
      go_upto_region 6 with fail
      refine wp_region_kin (by kernel_rfl) (by kernel_rfl) ?_
      repeat (go_big_quiet_step ((go_at_call 15; exact kin_of (CS.out _ (Kin.h _)))))
      refine wpQuiet_nil ?_
      intro wq hw'
      obtain ⟨nq, hw''⟩ := hw'
      have hq : Below wr.heap.size wr wq := hw'' ▸ nq.h
      clear hw'' nq kc kn x1 x2
      go_wp2
      go_roundg (n - (i + 1))
      case measure => omega
      case rel => exact ⟨i + 1, by omega, rfl, by go_num, bl_via HB.out hq⟩
    · have i1 : ¬ (i : Int) < (n : Int) := by omega
      go_wp2
      go_ret
      exact ⟨rfl, HB.out⟩

set_option maxRecDepth 100000 in
set_option maxHeartbeats 3200000 in
theorem pieces_ok (W H v l : Int) (a c mp sp : Option Addr) (zl ca n cc mn mc sn sc : Nat) (nn : Nat) (L : List (Int × Int × Int)) (kd : Int × Int × Int × Int → Int) (P : (Nat → M6) → Prop) (w : World) (hnn : nn = L.length) (h0 : 0 < nn) (hlen : nn ≤ 300) (hl : lineB v l = true) (hs : Steps w) (hnd : L.Nodup) (hbd : ∀ t ∈ L, (0 ≤ t.1 ∧ t.1 ≤ 8) ∧ (0 ≤ t.2.1 ∧ t.2.1 ≤ 8) ∧ (0 ≤ t.2.2 ∧ t.2.2 ≤ 3)) (hPt : ∀ M, P M → ∀ t ∈ pls L M L.length, triB t.1 t.2.1 t.2.2 = true) (CO : Hid (∀ V : World, Below w.heap.size w V → Calls Tryz.prog 22 #[.agg #[.int .i64 W, .int .i64 H, .slice a zl ca, .slice c n cc, .slice mp mn mc, .slice sp sn sc]] V fun e w' => ∃ M ad k ra rk gm cm pa pc f, e = .returned (.tuple #[.agg #[.slice ad nn k, .map (some ra), .map (some rk), .slice (some ⟨gm, 0, none⟩) nn cm, .slice pa nn pc], f, .bool true]) ∧ PileAt w' ad k ra rk gm cm pa pc L kd M ∧ P M ∧ Below V.heap.size V w')) :
    Calls Tryz.prog 6 #[.agg #[.int .i64 W, .int .i64 H, .slice a zl ca, .slice c n cc, .slice mp mn mc, .slice sp sn sc], .agg #[.int .i64 v, .int .i64 l]] w fun e w' => ∃ M u part, P M ∧ e = .returned (.tuple #[u, .int .i64 0]) ∧ PartsOk (crS L (sdN v l (pls L M L.length))) L part ∧ Nest w' w.heap.size u (fcs L part L.length) ∧ Below w.heap.size w w' := by
  have HN : Hid (nn = L.length ∧ L.Nodup ∧ (∀ t ∈ L, (0 ≤ t.1 ∧ t.1 ≤ 8) ∧ (0 ≤ t.2.1 ∧ t.2.1 ≤ 8) ∧ (0 ≤ t.2.2 ∧ t.2.2 ≤ 3)) ∧ Steps w) := ⟨hnn, hnd, hbd, hs⟩
  have HL : Hid (lineB v l = true ∧ ∀ M, P M → ∀ t ∈ pls L M L.length, triB t.1 t.2.1 t.2.2 = true) := ⟨hl, hPt⟩
  clear hnn hl hs hnd hbd hPt
  have hmf := make_fun
  go_enter Tryz.func6, Tryz.ntmps6
  go_upto_region 1 with fail
  refine wp_named (fun W0 hW0 => ?_)
  have hw0 : Below w.heap.size w W0 := by rw [hW0]; exact bl_alloc (bl_alloc (bl_refl _))
  have x0 : W0.cell? ⟨w.heap.size, 0, none⟩ = some (.int .i64 W) := by rw [hW0]; simp [go_sem]
  have x1 : W0.cell? ⟨w.heap.size, 1, none⟩ = some (.int .i64 H) := by rw [hW0]; simp [go_sem]
  have x2 : W0.cell? ⟨w.heap.size, 2, none⟩ = some (.slice a zl ca) := by rw [hW0]; simp [go_sem]
  have x3 : W0.cell? ⟨w.heap.size, 3, none⟩ = some (.slice c n cc) := by rw [hW0]; simp [go_sem]
  have x4 : W0.cell? ⟨w.heap.size, 4, none⟩ = some (.slice mp mn mc) := by rw [hW0]; simp [go_sem]
  have x5 : W0.cell? ⟨w.heap.size, 5, none⟩ = some (.slice sp sn sc) := by rw [hW0]; simp [go_sem]
  have y0 : W0.cell? ⟨w.heap.size + 1, 0, none⟩ = some (.int .i64 v) := by rw [hW0]; simp [go_sem]
  have y1 : W0.cell? ⟨w.heap.size + 1, 1, none⟩ = some (.int .i64 l) := by rw [hW0]; simp [go_sem]
  clear hW0
  go_upto_region 2 with (go_at_call 22; refine (CO.out _ hw0).mono ?_; rintro e w1 ⟨M, ad, k, ra, rk, gm, cm, pa, pc, f, rfl, hp1, hP1, hb1⟩; have HB1 : Hid (Below w.heap.size w w1 ∧ Below W0.heap.size W0 w1 ∧ PileAt w1 ad k ra rk gm cm pa pc L kd M ∧ P M) := ⟨bl_via hw0 hb1, hb1, hp1, hP1⟩; have u0 := cl_kept hb1 y0; have u1 := cl_kept hb1 y1; have zu : w.heap.size + 1 < w1.heap.size := World.block_lt_of_cell? _ _ u0; clear hb1 hp1 hP1)
  refine wp_named (fun W2 hW2 => ?_)
  obtain ⟨G, hG⟩ : ∃ G, G = w1.heap.size := ⟨_, rfl⟩
  have hb2 : Below w1.heap.size w1 W2 := by
    rw [hW2]
    with_reducible repeat (first | exact bl_refl _ | refine bl_alloc ?_ | refine bl_set ?_ ?_)
    all_goals (dsimp only; omega)
  have q0 : W2.cell? ⟨G, 0, none⟩ = some (.slice ad nn k) := by rw [hW2, hG]; simp [go_sem]
  have q1 : W2.cell? ⟨G, 1, none⟩ = some (.map (some ra)) := by rw [hW2, hG]; simp [go_sem]
  have q2 : W2.cell? ⟨G, 2, none⟩ = some (.map (some rk)) := by rw [hW2, hG]; simp [go_sem]
  have q3 : W2.cell? ⟨G, 3, none⟩ = some (.slice (some ⟨gm, 0, none⟩) nn cm) := by rw [hW2, hG]; simp [go_sem]
  have q4 : W2.cell? ⟨G, 4, none⟩ = some (.slice pa nn pc) := by rw [hW2, hG]; simp [go_sem]
  rw [← hG]
  replace u0 := cl_kept hb2 u0
  replace u1 := cl_kept hb2 u1
  have HB2 : Hid (Below w.heap.size w W2 ∧ PileAt W2 ad k ra rk gm cm pa pc L kd M ∧ P M) := ⟨bl_via HB1.out.1 hb2, HB1.out.2.2.1.kept hb2, HB1.out.2.2.2⟩
  have zq : G < W2.heap.size := World.block_lt_of_cell? _ _ q4
  have zv : w.heap.size + 1 < W2.heap.size := World.block_lt_of_cell? _ _ u0
  have CS : Hid (Calls Tryz.prog 23 #[.agg #[.int .i64 v, .int .i64 l], .slice pa nn pc] W2 fun e w' => ∃ g q, e = .returned (.tuple #[.slice (some ⟨g, 0, none⟩) nn q, .int .i64 0]) ∧ ZRow w' g nn (sdN v l (pls L M L.length)) ∧ W2.heap.size ≤ g ∧ Below W2.heap.size W2 w') := by
    have := sidesOf_in v l pa pc (pls L M L.length) W2 HB2.out.2.1.pl (by rw [pls_len, ← HN.out.1]; exact h0) (by rw [pls_len, ← HN.out.1]; exact hlen) HL.out.1 (HL.out.2 M HB2.out.2.2) (HN.out.2.2.2.kept HB2.out.1)
    rw [pls_len, ← HN.out.1] at this
    exact HN.out.1 ▸ this
  clear hW2 hG hb2 x0 x1 x2 x3 x4 x5 y0 y1 hw0 HB1
  go_upto_region 5 with (go_at_call 23; refine CS.out.mono ?_; rintro e w3 ⟨g, q, rfl, hz3, hg3, hb3⟩; have HB3 : Hid (Below w.heap.size w w3 ∧ PileAt w3 ad k ra rk gm cm pa pc L kd M ∧ ZRow w3 g nn (sdN v l (pls L M L.length))) := ⟨bl_via HB2.out.1 hb3, HB2.out.2.1.kept hb3, hz3⟩; replace q0 := cl_kept hb3 q0; replace q1 := cl_kept hb3 q1; replace q2 := cl_kept hb3 q2; have z3 : G < w3.heap.size := World.block_lt_of_cell? _ _ q0; clear hz3 hg3 hb3)
  refine wp_named (fun W4 hW4 => ?_)
  obtain ⟨B, hB⟩ : ∃ B, B = w3.heap.size := ⟨_, rfl⟩
  have hb4 : Below w3.heap.size w3 W4 := by
    rw [hW4]
    with_reducible repeat (first | exact bl_refl _ | refine bl_alloc ?_ | refine bl_set ?_ ?_)
    all_goals (dsimp only; omega)
  have p0 : W4.cell? ⟨B, 0, none⟩ = some (.slice (some ⟨g, 0, none⟩) nn q) := by rw [hW4, hB]; simp [go_sem]
  rw [← hB]
  replace q0 := cl_kept hb4 q0
  replace q1 := cl_kept hb4 q1
  replace q2 := cl_kept hb4 q2
  have zG : G < W4.heap.size := World.block_lt_of_cell? _ _ q0
  have zB : B < W4.heap.size := World.block_lt_of_cell? _ _ p0
  have HB4 : Hid (Below w.heap.size w W4 ∧ PileAt W4 ad k ra rk gm cm pa pc L kd M ∧ ZRow W4 g nn (sdN v l (pls L M L.length)) ∧ W4.cell? ⟨B, 0, none⟩ = some (.slice (some ⟨g, 0, none⟩) nn q)) := ⟨bl_via HB3.out.1 hb4, HB3.out.2.1.kept hb4, HB3.out.2.2.kept hb4, p0⟩
  clear hW4 hB hb4 CS HB3 q3 q4 u0 u1
  have CP : Hid (∀ V : World, Below W4.heap.size W4 V → Calls Tryz.prog 26 #[.agg #[.slice ad nn k, .map (some ra), .map (some rk)], .func (.func 24) #[] #[.pointer (some ⟨B, 0, none⟩)]] V fun e w' => ∃ g' part, e = .returned (.slice (some ⟨g', 0, none⟩) nn nn) ∧ ZRow w' g' nn part ∧ PartsOk (crS L (sdN v l (pls L M L.length))) L part ∧ Below V.heap.size V w') := fun V hV => by
    have := parts_c V k ra rk ad L B (crS L (sdN v l (pls L M L.length))) (HN.out.2.2.2.kept (bl_via HB4.out.1 hV)) ((HB4.out.2.1.kept hV).tr) (by rw [← HN.out.1]; exact hlen) HN.out.2.1 HN.out.2.2.1 (fun i j hi hj r0 r1 r2 r3 V' hne e1 e2 hV' => by
      rw [crS_is HN.out.2.1 (fun t ht => (HN.out.2.2.1 t ht).2.2) hi hj hne e1 e2]
      exact piecesCl_any V' B g q nn i j _ r0 r1 r2 r3 (by rw [HN.out.1]; exact hi) (by rw [HN.out.1]; exact hj) hlen (cl_kept (bl_via hV hV') HB4.out.2.2.2) (HB4.out.2.2.1.kept (bl_via hV hV')))
    rw [← HN.out.1] at this
    exact this.mono fun e w' ⟨g', part, he, h1, h2, _, h4⟩ => ⟨g', part, he, h1, by rw [HN.out.1] at h2; exact h2, h4⟩
  have CG : Hid (∀ (V : World) (g' : Nat) (part : Nat → Int), Below W4.heap.size W4 V → ZRow V g' nn part → NumOk part L.length → Calls Tryz.prog 25 #[.agg #[.slice ad nn k, .map (some ra), .map (some rk)], .slice (some ⟨g', 0, none⟩) nn nn] V fun e w' => ∃ u, e = .returned u ∧ Nest w' V.heap.size u (fcs L part L.length) ∧ Below V.heap.size V w') := fun V g' part hV hz hnm => by
    have := gathered_any V k ra rk g' nn ad L part (HB4.out.2.1.kept hV).tr.1 (by rw [← HN.out.1]; exact hz) hnm (by rw [← HN.out.1]; exact hlen)
    rw [← HN.out.1] at this
    exact HN.out.1 ▸ this
  clear p0
  go_upto_region 8 with fail
  go_region_held3 (fun w' => w'.cell? ⟨G, 0, none⟩ = some (.slice ad nn k) ∧ w'.cell? ⟨G, 1, none⟩ = some (.map (some ra)) ∧ w'.cell? ⟨G, 2, none⟩ = some (.map (some rk)))
    ((refine ⟨?_, ?_, ?_⟩ <;> (with_reducible repeat (first | assumption | refine dr_old ?_ | refine cl_kept hb5 ?_ | refine cl_kept hb6 ?_))))
    (first
      | (go_at_call 26; refine (CP.out _ (by with_reducible repeat (first | exact bl_refl _ | refine bl_drew ?_))).mono ?_; rintro e w5 ⟨g5, part, rfl, hz5, hp5, hb5⟩; have H5 : Hid (ZRow w5 g5 nn part ∧ PartsOk (crS L (sdN v l (pls L M L.length))) L part ∧ Below W4.heap.size W4 w5) := ⟨hz5, hp5, bl_via (by with_reducible repeat (first | exact bl_refl _ | refine bl_drew ?_)) hb5⟩; clear hz5 hp5)
      | (go_at_call 25; refine (CG.out _ g5 part (bl_via H5.out.2.2 (by with_reducible repeat (first | exact bl_refl _ | refine bl_drew ?_))) (H5.out.1.kept (by with_reducible repeat (first | exact bl_refl _ | refine bl_drew ?_))) H5.out.2.1.num).mono ?_; rintro e w6 ⟨u6, rfl, hn6, hb6⟩; have H6 : Hid (Nest w6 w.heap.size u6 (fcs L part L.length) ∧ Below w.heap.size w w6) := ⟨hn6.mono (bl_via (bl_via HB4.out.1 H5.out.2.2) (by with_reducible repeat (first | exact bl_refl _ | refine bl_drew ?_))).size, bl_via (bl_via (bl_via HB4.out.1 H5.out.2.2) (by with_reducible repeat (first | exact bl_refl _ | refine bl_drew ?_))) hb6⟩; clear hn6))
  all_goals
    go_wp2
    exact bodyPost_ret (v := .tuple #[u6, .int .i64 0]) (by simp [results, Tryz.results6, go_sem]) rfl ⟨M, u6, part, HB2.out.2.2, rfl, H5.out.2.1, H6.out.1, H6.out.2⟩
end Go.Proofs.YtmjhfdohcghhoaaGreatDoor
