/- A part of the proof of cutPunches_holds. -/
import Derived.Test.YtmjhfdohcghhoaaGreatDoorQlaw
import Derived.Test.YtmjhfdohcghhoaaGreatDoorQlai
import Derived.Test.YtmjhfdohcghhoaaGreatDoorQlbl
import Derived.Test.YtmjhfdohcghhoaaGreatDoorQlad
import Derived.Test.YtmjhfdohcghhoaaGreatDoorQlaq
import Derived.Test.YtmjhfdohcghhoaaGreatDoorQlbc
import Derived.Test.YtmjhfdohcghhoaaGreatDoorQlbi
namespace Go.Proofs.YtmjhfdohcghhoaaGreatDoor
open Go.RowKit Go.ChangeMaps

/-- Do the triangles of an edge lie on one side? -/
def crS (L : List (Int × Int × Int)) (sd : Nat → Int) (e : Int × Int × Int × Int) : Bool := (List.range L.length).all fun i => (List.range L.length).all fun j => !(hasT (L.getD i (0, 0, 0)) e && hasT (L.getD j (0, 0, 0)) e) || decide (sd i = sd j)
theorem crS_is {L : List (Int × Int × Int)} {sd : Nat → Int} {e : Int × Int × Int × Int} (hnd : L.Nodup) (hk : ∀ t ∈ L, Kd t) {i j : Nat} (hi : i < L.length) (hj : j < L.length) (hne : j ≠ i) (h1 : hasT L[i] e = true) (h2 : hasT L[j] e = true) : crS L sd e = decide (sd i = sd j) := by
  have gd : ∀ k (h : k < L.length), L.getD k (0, 0, 0) = L[k] := fun k h => by
    rw [List.getD_eq_getElem?_getD, List.getElem?_eq_getElem h]
    rfl
  have two : ∀ k (h : k < L.length), hasT L[k] e = true → k = i ∨ k = j := fun k h h3 => by
    by_cases e1 : k = i
    · exact Or.inl e1
    · refine Or.inr (nodup_atH hnd h hj ?_)
      have a1 := acr_is (hk _ (List.getElem_mem hi)) (hk _ (List.getElem_mem h)) h1 h3 (fun q => e1 (nodup_atH hnd h hi q))
      have a2 := acr_is (hk _ (List.getElem_mem hi)) (hk _ (List.getElem_mem hj)) h1 h2 (fun q => hne (nodup_atH hnd hj hi q))
      rw [a1, a2]
  rw [Bool.eq_iff_iff, decide_eq_true_eq]
  unfold crS
  simp only [List.all_eq_true, List.mem_range, Bool.or_eq_true, Bool.not_eq_true', Bool.and_eq_false_iff, decide_eq_true_eq]
  constructor
  · intro h
    have := h i hi j hj
    rw [gd i hi, gd j hj, h1, h2] at this
    simpa using this
  · intro h x hx y hy
    rw [gd x hx, gd y hy]
    cases q1 : hasT L[x] e
    · exact Or.inl (Or.inl rfl)
    · cases q2 : hasT L[y] e
      · exact Or.inl (Or.inr rfl)
      · refine Or.inr ?_
        rcases two x hx q1 with rfl | rfl <;> rcases two y hy q2 with rfl | rfl
        · rfl
        · exact h
        · exact h.symm
        · rfl

theorem mem_selP {L : List (Int × Int × Int)} {part : Nat → Int} {c : Int} {t : Int × Int × Int} : ∀ k, t ∈ selP L part c k ↔ ∃ j, j < k ∧ part j = c ∧ t = L.getD j (0, 0, 0)
  | 0 => by simp [selP]
  | k + 1 => by
    have ih := mem_selP (L := L) (part := part) (c := c) (t := t) k
    unfold selP
    by_cases e : part k = c
    · rw [if_pos e, List.mem_append, ih]
      constructor
      · rintro (⟨j, h1, h2, h3⟩ | h)
        · exact ⟨j, by omega, h2, h3⟩
        · exact ⟨k, by omega, e, by simpa using h⟩
      · rintro ⟨j, h1, h2, h3⟩
        by_cases q : j = k
        · subst q
          exact Or.inr (by simpa using h3)
        · exact Or.inl ⟨j, by omega, h2, h3⟩
    · rw [if_neg e, ih]
      constructor
      · rintro ⟨j, h1, h2, h3⟩
        exact ⟨j, by omega, h2, h3⟩
      · rintro ⟨j, h1, h2, h3⟩
        refine ⟨j, ?_, h2, h3⟩
        have : j ≠ k := fun q => e (q ▸ h2)
        omega
/-- The faces hold the triangles by their numbers. -/
def FacesOk (L : List (Int × Int × Int)) (part : Nat → Int) (F : List (List (Int × Int × Int))) : Prop :=
  (∀ j, j < L.length → 0 ≤ part j ∧ part j < (F.length : Int)) ∧ (∀ i (hi : i < F.length) k (hk : k < F[i].length), ∃ j, ∃ hj : j < L.length, F[i][k] = L[j] ∧ part j = (i : Int)) ∧
  (∀ j (hj : j < L.length) i (hi : i < F.length), part j = (i : Int) → ∃ k, ∃ hk : k < F[i].length, F[i][k] = L[j]) ∧ ∀ c : Nat, c < F.length → ∃ b, b < L.length ∧ part b = (c : Int)
theorem faces_ok {cr : Int × Int × Int × Int → Bool} {L : List (Int × Int × Int)} {part : Nat → Int} (hP : PartsOk cr L part) : FacesOk L part (fcs L part L.length) := by
  have h1 := fcs_has L part hP.num L.length (Nat.le_refl _)
  have h2 := fcs_eq (L := L) hP.num L.length (Nat.le_refl _)
  have h3 := fcs_come L part hP.num L.length (Nat.le_refl _)
  obtain ⟨F, hF⟩ : ∃ F, F = fcs L part L.length := ⟨_, rfl⟩
  rw [← hF] at h1 h2 h3 ⊢
  obtain ⟨m, hm⟩ : ∃ m, m = F.length := ⟨_, rfl⟩
  rw [← hm] at h2
  have hg : ∀ i (hi : i < F.length), F[i] = selP L part (i : Int) L.length := fun i hi => by
    have e : F[i]? = some (selP L part (i : Int) L.length) := by
      rw [h2, List.getElem?_map, List.getElem?_range (by omega)]
      rfl
    rw [List.getElem?_eq_getElem hi] at e
    exact Option.some.inj e
  refine ⟨fun j hj => ⟨hP.1 j hj, h1.1 j hj⟩, fun i hi k hk => ?_, fun j hj i hi e => ?_, fun c hc => h3 c hc⟩
  · have hm : F[i][k] ∈ selP L part (i : Int) L.length := by rw [← hg i hi]; exact List.getElem_mem hk
    obtain ⟨j, h5, h6, h7⟩ := (mem_selP _).1 hm
    exact ⟨j, h5, by rw [h7, List.getD_eq_getElem?_getD, List.getElem?_eq_getElem h5]; rfl, h6⟩
  · have hm : L[j] ∈ F[i] := by
      rw [hg i hi]
      exact (mem_selP _).2 ⟨j, hj, e, by rw [List.getD_eq_getElem?_getD, List.getElem?_eq_getElem hj]; rfl⟩
    obtain ⟨k, hk, e2⟩ := List.getElem_of_mem hm
    exact ⟨k, hk, e2⟩
/-- A row of rows, read. -/
def NRe (w : World) (a : Option Addr) (F : List (List (Int × Int × Int))) : Prop := ∀ m (h : m < F.length), ∃ g a' c', a = some ⟨g, 0, none⟩ ∧ w.cell? ⟨g, m, none⟩ = some (.slice a' F[m].length c') ∧ TRow w a' F[m]
theorem NRe.kept {w wx : World} {a : Option Addr} {F : List (List (Int × Int × Int))} (h : NRe w a F) (hb : Below w.heap.size w wx) : NRe wx a F := fun m hm => by
  obtain ⟨g, a', c', e, h1, h2⟩ := h m hm
  exact ⟨g, a', c', e, cl_kept hb h1, h2.kept hb⟩
theorem Nest.readE {w : World} {base : Nat} {v : Value} {F : List (List (Int × Int × Int))} (h : Nest w base v F) : ∃ a c, v = .slice a F.length c ∧ NRe w a F := by
  obtain ⟨vs, hv⟩ := h
  obtain ⟨a, c, rfl, hg⟩ := own_form hv.2.1
  refine ⟨a, c, rfl, fun m hm => ?_⟩
  obtain ⟨g, rfl⟩ := hg (by omega)
  have hm2 : m < vs.length := by rw [hv.1]; exact hm
  obtain ⟨a', c', e, hT⟩ := own_tris (hv.2.2.1 m hm2 hm)
  exact ⟨g, a', c', rfl, by rw [hv.2.1.cellAt m (by omega), List.getElem?_eq_getElem hm2, e], hT⟩

set_option maxRecDepth 100000 in
set_option maxHeartbeats 3200000 in
theorem samePieces_yes (a c : Option Addr) (ca cc : Nat) (F : List (List (Int × Int × Int))) (w : World) (hF : F.length ≤ 300) (hf : ∀ f ∈ F, f.length ≤ 300) (ha : NRe w a F) (hc : NRe w c F) :
    Calls Tryz.prog 10 #[.slice a F.length ca, .slice c F.length cc] w fun e w' => e = .returned (.bool true) ∧ Below w.heap.size w w' := by
  have HR : Hid (NRe w a F ∧ NRe w c F ∧ ∀ f ∈ F, f.length ≤ 300) := ⟨ha, hc, hf⟩
  obtain ⟨n, hn⟩ : ∃ n, n = F.length := ⟨_, rfl⟩
  have HN : Hid (n = F.length) := hn
  rw [← hn] at hF ⊢
  clear ha hc hf hn
  go_enter Tryz.func10, Tryz.ntmps10
  go_wp2
  go_loopg [5] n (fun gk s5 wx => ∃ i : Nat, i ≤ n ∧ gk = n - i ∧ s5 = .int .i64 (i : Int) ∧ Below w.heap.size w wx)
  case atStart => exact ⟨0, by omega, rfl, rfl, bl_refl _⟩
  case round =>
    obtain ⟨i, hi, rfl, rfl, hB⟩ := hrel
    have HB : Hid (Below w.heap.size w wr) := hB
    clear hB
    by_cases h1 : i < n
    · have i1 : (i : Int) < (n : Int) := by omega
      have i0 : (0 : Int) ≤ (i : Int) := by omega
      have hiF : i < F.length := by rw [← HN.out]; exact h1
      obtain ⟨g1, a1, c1, e1, x1, T1⟩ := (HR.out.1.kept HB.out) i hiF
      obtain ⟨g2, a2, c2, e2, x2, T2⟩ := (HR.out.2.1.kept HB.out) i hiF
      subst e1 e2
      obtain ⟨f, hf⟩ : ∃ f, f = F[i] := ⟨_, rfl⟩
      rw [← hf] at x1 x2 T1 T2
      have hfl : f.length ≤ 300 := by rw [hf]; exact HR.out.2.2 _ (List.getElem_mem hiF)
      have CS : Hid (∀ V : World, Below wr.heap.size wr V → Calls Tryz.prog 15 #[.slice a1 f.length c1, .slice a2 f.length c2] V fun e w' => e = .returned (.bool true) ∧ Below V.heap.size V w') := fun V hV => sameTris_yes a1 a2 c1 c2 f V hfl (T1.kept hV) (T2.kept hV)
      obtain ⟨fl, hfn⟩ : ∃ m, m = f.length := ⟨_, rfl⟩
      rw [← hfn] at x1 x2 CS
      have z1 : g1 < wr.heap.size := World.block_lt_of_cell? _ _ x1
      have z2 : g2 < wr.heap.size := World.block_lt_of_cell? _ _ x2
      clear hf hfl T1 T2 hfn
      have kc := Kin.cells wr
      have kn : Nonempty (Kin wr) := ⟨⟨wr, bl_refl _⟩⟩
      go_upto_region 6 with fail
      refine wp_region_kin (by kernel_rfl) (by kernel_rfl) ?_
      repeat (go_big_quiet_step ((go_at_call 15; exact kin_of (CS.out _ (Kin.h _)))))
      refine wpQuiet_nil ?_
      intro wq hw'
      obtain ⟨nq, hw''⟩ := hw'
      have hq : Below wr.heap.size wr wq := hw'' ▸ nq.h
      clear hw'' nq kc kn x1 x2
      go_wp2
      go_roundg (n - (i + 1))
      case measure => omega
      case rel => exact ⟨i + 1, by omega, rfl, by go_num, bl_via HB.out hq⟩
    · have i1 : ¬ (i : Int) < (n : Int) := by omega
      go_wp2
      go_ret
      exact ⟨rfl, HB.out⟩

/-- The triangles, of the first n, that lie at a place. -/
def lyL (L pl : List (Int × Int × Int)) (p : Int × Int × Int) (n : Nat) : List (Int × Int × Int) := (List.range n).flatMap fun i => if pl.getD i (0, 0, 0) = p then [L.getD i (0, 0, 0)] else []
theorem lyL_succ (L pl : List (Int × Int × Int)) (p : Int × Int × Int) (n : Nat) : lyL L pl p (n + 1) = lyL L pl p n ++ if pl.getD n (0, 0, 0) = p then [L.getD n (0, 0, 0)] else [] := by
  unfold lyL
  rw [List.range_succ, List.flatMap_append]
  simp
theorem lyL_len (L pl : List (Int × Int × Int)) (p : Int × Int × Int) : ∀ n, (lyL L pl p n).length ≤ n
  | 0 => by simp [lyL]
  | n + 1 => by
    have := lyL_len L pl p n
    rw [lyL_succ, List.length_append]
    split <;> simp <;> omega
set_option maxRecDepth 100000 in
set_option maxHeartbeats 3200000 in
theorem lyingAt_any (x y c : Int) (ad pa : Option Addr) (k pc : Nat) (v1 v2 v3 : Value) (L pl : List (Int × Int × Int)) (n : Nat) (w : World) (hL : TRow w ad L) (hP : TRow w pa pl) (hn : n = L.length) (hn' : n = pl.length) (hlen : n ≤ 300) :
    Calls Tryz.prog 38 #[.agg #[.slice ad n k, v1, v2, v3, .slice pa n pc], .agg #[.int .i64 x, .int .i64 y, .int .i64 c]] w fun e w' => ∃ u, e = .returned u ∧ w'.ownsRow w.heap.size 43 3 u (lyL L pl (x, y, c) n).length (flatV (lyL L pl (x, y, c) n)) ∧ Below w.heap.size w w' := by
  have HR : Hid (TRow w ad L ∧ TRow w pa pl ∧ n = L.length ∧ n = pl.length) := ⟨hL, hP, hn, hn'⟩
  obtain ⟨i0, hi, hz0, hz1, hz2⟩ := info_parts inf23
  have HI : Hid (Tryz.prog.info? 43 = some i0 ∧ i0.zero = some (.agg #[.int .i64 0, .int .i64 0, .int .i64 0]) ∧ i0.size = 3 ∧ i0.bytes = 24) := ⟨hi, hz0, hz1, hz2⟩
  clear hL hP hn hn' hi hz0 hz1 hz2
  go_enter Tryz.func38, Tryz.ntmps38
  go_upto_region 1 with fail
  refine wp_named (fun W0 hW0 => ?_)
  have hw0 : Below w.heap.size w W0 := by
    rw [hW0]
    with_reducible repeat (first | exact bl_refl _ | refine bl_alloc ?_)
  have x0 : W0.cell? ⟨w.heap.size, 0, none⟩ = some (.slice ad n k) := by rw [hW0]; simp [go_sem]
  have x4 : W0.cell? ⟨w.heap.size, 4, none⟩ = some (.slice pa n pc) := by rw [hW0]; simp [go_sem]
  have y0 : W0.cell? ⟨w.heap.size + 1, 0, none⟩ = some (.int .i64 x) := by rw [hW0]; simp [go_sem]
  have y1 : W0.cell? ⟨w.heap.size + 1, 1, none⟩ = some (.int .i64 y) := by rw [hW0]; simp [go_sem]
  have y2 : W0.cell? ⟨w.heap.size + 1, 2, none⟩ = some (.int .i64 c) := by rw [hW0]; simp [go_sem]
  have HW : Hid (Below w.heap.size w W0) := hw0
  clear hW0 hw0
  go_wp2
  go_loopg [5, 11] n (fun gk s5 s11 wx => ∃ (i : Nat) (u : Value), i ≤ n ∧ gk = n - i ∧ u = s5 ∧ s11 = .int .i64 (i : Int) ∧ wx.ownsRow W0.heap.size 43 3 u (lyL L pl (x, y, c) i).length (flatV (lyL L pl (x, y, c) i)) ∧ Below W0.heap.size W0 wx)
  case atStart => exact ⟨0, _, by omega, rfl, rfl, rfl, by simpa [lyL, flatV] using World.ownsRow_nil _ _ _ _, bl_refl _⟩
  case round =>
    obtain ⟨i, u, hi, rfl, rfl, rfl, hO, hB⟩ := hrel
    have HO : Hid (wr.ownsRow W0.heap.size 43 3 u (lyL L pl (x, y, c) i).length (flatV (lyL L pl (x, y, c) i)) ∧ Below W0.heap.size W0 wr ∧ Below w.heap.size w wr) := ⟨hO, hB, bl_via HW.out hB⟩
    replace x0 := cl_kept hB x0
    replace x4 := cl_kept hB x4
    replace y0 := cl_kept hB y0
    replace y1 := cl_kept hB y1
    replace y2 := cl_kept hB y2
    have zb : w.heap.size + 1 < wr.heap.size := World.block_lt_of_cell? _ _ y0
    have zb0 : w.heap.size < wr.heap.size := World.block_lt_of_cell? _ _ x0
    have zw : W0.heap.size ≤ wr.heap.size := hB.size
    clear hO hB
    by_cases h1 : i < n
    · have i1 : (i : Int) < (n : Int) := by omega
      have i0' : (0 : Int) ≤ (i : Int) := by omega
      have hil : i < pl.length := by rw [← HR.out.2.2.2]; exact h1
      have hiL : i < L.length := by rw [← HR.out.2.2.1]; exact h1
      obtain ⟨gp, ep, t0, t1, t2⟩ := (HR.out.2.1.kept HO.out.2.2) i hil
      obtain ⟨gq, eq, s0, s1, s2⟩ := (HR.out.1.kept HO.out.2.2) i hiL
      subst ep
      subst eq
      obtain ⟨px, py, pk, hti⟩ : ∃ x y k, pl[i] = (x, y, k) := ⟨_, _, _, rfl⟩
      obtain ⟨qx, qy, qk, hsi⟩ : ∃ x y k, L[i] = (x, y, k) := ⟨_, _, _, rfl⟩
      have HT : Hid (pl.getD i (0, 0, 0) = (px, py, pk) ∧ L.getD i (0, 0, 0) = (qx, qy, qk)) := by
        refine ⟨?_, ?_⟩
        · rw [List.getD_eq_getElem?_getD, List.getElem?_eq_getElem hil, hti]; rfl
        · rw [List.getD_eq_getElem?_getD, List.getElem?_eq_getElem hiL, hsi]; rfl
      rw [hti] at t0 t1 t2
      rw [hsi] at s0 s1 s2
      dsimp only at t0 t1 t2 s0 s1 s2
      have zp : gp < wr.heap.size := World.block_lt_of_cell? _ _ t0
      have zq : gq < wr.heap.size := World.block_lt_of_cell? _ _ s0
      clear hti hsi hil hiL
      by_cases he : px = x ∧ py = y ∧ pk = c
      · obtain ⟨rfl, rfl, rfl⟩ := he
        have HE : Hid (lyL L pl (px, py, pk) (i + 1) = lyL L pl (px, py, pk) i ++ [(qx, qy, qk)]) := by
          show lyL L pl (px, py, pk) (i + 1) = lyL L pl (px, py, pk) i ++ [(qx, qy, qk)]
          rw [lyL_succ, HT.out.1, HT.out.2, if_pos rfl]
        have hll : (lyL L pl (px, py, pk) i).length + 1 ≤ 1000 := by
          have := lyL_len L pl (px, py, pk) i
          omega
        go_wp2_with (at_builtin; refine wpList_append_own _ rfl (.tmp 19) (.tmp 26) 44 rfl W0.heap.size 43 i0 (.agg #[.int .i64 0, .int .i64 0, .int .i64 0]) 3 24 Tryz.underlying44 HI.out.1 HI.out.2.1 HI.out.2.2.1 HI.out.2.2.2 rfl (by decide) u (lyL L pl (px, py, pk) i).length (flatV (lyL L pl (px, py, pk) i)) rfl ?own ⟨(wr.alloc (.cells #[.int .i64 px, .int .i64 py, .int .i64 pk] 43)).heap.size, 0, none⟩ 1 1 [.int .i64 qx, .int .i64 qy, .int .i64 qk] (by simp [go_sem]) rfl ?c1 ?c2 ?b1 ?b2 ?b3 ?grow)
        case own => exact own_below HO.out.1 (bl_alloc (bl_alloc (bl_refl _)))
        case c1 => exact cell_three_new _ _ _ _
        case c2 =>
          intro z hz
          simp at hz
          rcases hz with rfl | rfl | rfl <;> rfl
        case b1 =>
          unfold maxLen
          omega
        case b2 => omega
        case b3 => simp; omega
        case grow =>
          intro v' w3 hown hgrow _
          have HO3 : Hid (w3.ownsRow W0.heap.size 43 3 v' (lyL L pl (px, py, pk) (i + 1)).length (flatV (lyL L pl (px, py, pk) (i + 1))) ∧ Below W0.heap.size W0 w3) := by
            refine ⟨?_, ?_⟩
            · rw [HE.out, List.length_append, flatV_add]
              exact hown
            · exact (bl_alloc (bl_alloc HO.out.2.1)).grown hgrow (bl_alloc (bl_alloc HO.out.2.1)).size (fun k hk => own_base HO.out.1 k hk)
          clear hown hgrow
          go_wp2
          go_roundg (n - (i + 1))
          case measure => omega
          case rel => exact ⟨i + 1, _, by omega, rfl, rfl, by go_num, HO3.out.1, HO3.out.2⟩
      · have HE : Hid (lyL L pl (x, y, c) (i + 1) = lyL L pl (x, y, c) i) := by
          show lyL L pl (x, y, c) (i + 1) = lyL L pl (x, y, c) i
          rw [lyL_succ, HT.out.1, if_neg (by intro h; apply he; simpa using h), List.append_nil]
        go_wp2
        all_goals
          go_roundg (n - (i + 1))
          case measure => omega
          case rel => exact ⟨i + 1, u, by omega, rfl, rfl, by go_num, by rw [HE.out]; exact own_below HO.out.1 (bl_alloc (bl_refl _)), bl_alloc HO.out.2.1⟩
    · have i1 : ¬ (i : Int) < (n : Int) := by omega
      obtain rfl : i = n := by omega
      go_wp2
      go_ret
      exact ⟨u, rfl, World_own_le HO.out.1 HW.out.size, HO.out.2.2⟩

theorem Tlookt27 {T E : TypeId} {z : Value} (ht : Tryz.prog.underlying T = some (.map 43 E)) (hz : ∀ u : World, (zeroValue E).run Tryz.prog u = .ok z u) {w : World} {r : Nat} {ls : List ((Int × Int × Int) × Value × Nat)} {clock : Nat} (h : TEM w r ls clock) (hg : TGood ls clock) (k : Int × Int × Int) :
    (Instr.lookup T (.map (some r)) (Tek k) true).run Tryz.prog w = .ok (.tuple #[(Tlk ls k).getD z, .bool (Tlk ls k).isSome]) w := by
  unfold TEM at h
  have hf := fun em => Tcheck27 em k w
  rcases Tfind27 k w ls 0 with ⟨h1, h2⟩ | ⟨j, x, h1, h2, h3⟩
  · rw [Tlk_not h2]
    have h1' : (Instr.findKey 43 (Tek k) (ls.map TtoE)).run Tryz.prog w = .ok none w := (TfindKey27 _ _ _).trans h1
    simp [Instr.lookup, run_underlying ht, MapKept.run_getObj_map h, hf, h1', hz, Result.andThen]
  · rw [Tlk_at hg.1 h2 h3]
    have h1' : (Instr.findKey 43 (Tek k) (ls.map TtoE)).run Tryz.prog w = .ok (some (j, x.2.1)) w := (TfindKey27 _ _ _).trans (by simpa using h1)
    simp [Instr.lookup, run_underlying ht, MapKept.run_getObj_map h, hf, h1', Result.andThen]
/-- What is asked of the map of those that fell. -/
def FL (w : World) (r : Nat) (f : Int × Int × Int → Bool) : Prop := ∀ (t : Int × Int × Int) (wx : World), Below w.heap.size w wx → (Instr.lookup 143 (.map (some r)) (Tek t) true).run Tryz.prog wx = .ok (.tuple #[.agg #[], .bool (f t)]) wx
theorem FL.kept {w w' : World} {r : Nat} {f : Int × Int × Int → Bool} (h : FL w r f) (hb : Below w.heap.size w w') : FL w' r f := fun t wx hx => h t wx (bl_via hb hx)
set_option maxRecDepth 100000 in
set_option maxHeartbeats 1600000 in
theorem fell_any (w : World) (r B : Nat) (f : Int × Int × Int → Bool) (x y k : Int) (hF : FL w r f) (hc : w.cell? ⟨B, 0, none⟩ = some (.map (some r))) :
    Calls Tryz.prog 71 #[.agg #[.int .i64 x, .int .i64 y, .int .i64 k], .pointer (some ⟨B, 0, none⟩)] w fun e w' => e = .returned (.bool (f (x, y, k))) ∧ Below w.heap.size w w' := by
  have hl := hF (x, y, k) (w.alloc (.cells #[.int .i64 x, .int .i64 y, .int .i64 k] 43)) (bl_alloc (bl_refl _))
  simp only [Tek] at hl
  have zB : B < w.heap.size := World.block_lt_of_cell? _ _ hc
  clear hF
  go_enter Tryz.func71, Tryz.ntmps71
  go_wp2
  go_ret
  refine ⟨rfl, ?_⟩
  with_reducible repeat (first | exact bl_refl _ | refine bl_alloc ?_ | refine bl_set ?_ ?_)
end Go.Proofs.YtmjhfdohcghhoaaGreatDoor
