/- A part of the proof of viewTells_holds. -/
import Derived.Test.YtnpboeodhpenmaaGreatDoorQlaw
import Derived.Test.YtnpboeodhpenmaaGreatDoorQlar
import Derived.Test.YtnpboeodhpenmaaGreatDoorQlax
import Derived.Test.YtnpboeodhpenmaaGreatDoorQlaa
import Derived.Test.YtnpboeodhpenmaaGreatDoorQlap
import Derived.Test.YtnpboeodhpenmaaGreatDoorQlaf
import Derived.Test.YtnpboeodhpenmaaGreatDoorQlao
import Derived.Test.YtnpboeodhpenmaaGreatDoorQlaq
namespace Go.Proofs.YtnpboeodhpenmaaGreatDoor
open Go.RowKit

def kdT (vx vy : Int) : Int := if vx = 1 then 1 else if vx = -1 then 3 else if vy = -1 then 0 else 2
/-- The triangle to which t comes. -/
def mvt (m : M6) (t : Int × Int × Int) : Int × Int × Int :=
  ((m.1 * (2 * t.1 + 1) + m.2.1 * (2 * t.2.1 + 1) + m.2.2.2.2.1 - 1) / 2, (m.2.2.1 * (2 * t.1 + 1) + m.2.2.2.1 * (2 * t.2.1 + 1) + m.2.2.2.2.2 - 1) / 2,
    kdT (m.1 * outX t.2.2 + m.2.1 * outY t.2.2) (m.2.2.1 * outX t.2.2 + m.2.2.2.1 * outY t.2.2))
theorem map_even {a b c d e f : Int} (h : mapB a b c d e f = true) : e % 2 = 0 ∧ f % 2 = 0 := by
  unfold mapB at h
  simp only [Bool.and_eq_true, evenB, decide_eq_true_eq] at h
  omega
theorem k_four {k : Int} (h : 0 ≤ k ∧ k ≤ 3) : k = 0 ∨ k = 1 ∨ k = 2 ∨ k = 3 := by omega

theorem out_one {K K' : Int} (h : 0 ≤ K ∧ K ≤ 3) (h' : 0 ≤ K' ∧ K' ≤ 3) (hx : outX K = outX K') (hy : outY K = outY K') : K = K' := by
  rcases k_four h with rfl | rfl | rfl | rfl <;> rcases k_four h' with rfl | rfl | rfl | rfl <;> simp [outX, outY] at hx hy ⊢
/-- ref.LessTri. -/
theorem lessTri_any (a b c p q r : Int) (w : World) : Calls Tryz.prog 52 #[.agg #[.int .i64 a, .int .i64 b, .int .i64 c], .agg #[.int .i64 p, .int .i64 q, .int .i64 r]] w fun e w' => e = .returned (.bool (ltB (a, b, c) (p, q, r))) ∧ Below w.heap.size w w' := by
  by_cases h1 : b = q
  · subst h1
    have q1 : (b != b) = false := by simp
    by_cases h2 : a = p
    · subst h2
      have q2 : (a != a) = false := by simp
      go_enter Tryz.func52, Tryz.ntmps52
      go_wp2
      go_ret
      exact ⟨ret_bool (by simp [ltB]), bl_alloc (bl_alloc (bl_refl _))⟩
    · have q2 : (a != p) = true := by simpa using h2
      have HE : Hid (ltB (a, b, c) (p, b, r) = decide (a < p)) := by
        have : ltB (a, b, c) (p, b, r) = decide (a < p) := by
          rw [Bool.eq_iff_iff]
          simp [ltB, h2]
        exact this
      clear h2
      go_enter Tryz.func52, Tryz.ntmps52
      go_wp2
      go_ret
      exact ⟨ret_bool HE.out.symm, bl_alloc (bl_alloc (bl_refl _))⟩
  · have q1 : (b != q) = true := by simpa using h1
    have HE : Hid (ltB (a, b, c) (p, q, r) = decide (b < q)) := by
      have : ltB (a, b, c) (p, q, r) = decide (b < q) := by
        rw [Bool.eq_iff_iff]
        simp [ltB, h1]
      exact this
    clear h1
    go_enter Tryz.func52, Tryz.ntmps52
    go_wp2
    go_ret
    exact ⟨ret_bool HE.out.symm, bl_alloc (bl_alloc (bl_refl _))⟩

theorem mvt_gen {a b c d e f x y k : Int} (h1 : mapB a b c d e f = true) (hx : 0 ≤ x ∧ x ≤ 8) (hy : 0 ≤ y ∧ y ≤ 8) (hk : 0 ≤ k ∧ k ≤ 3) {X Y K : Int} (hX : (X, Y, K) = mvt (a, b, c, d, e, f) (x, y, k)) :
    dot a b (2 * x + 1) (2 * y + 1) + e = 2 * X + 1 ∧ dot c d (2 * x + 1) (2 * y + 1) + f = 2 * Y + 1 ∧ (0 ≤ K ∧ K ≤ 3) ∧ dot a b (outX k) (outY k) = outX K ∧ dot c d (outX k) (outY k) = outY K ∧ triB x y k = true := by
  have he := map_even h1
  simp only [mvt, Prod.mk.injEq] at hX
  obtain ⟨eX, eY, eK⟩ := hX
  rcases map_lin h1 with ⟨ha, rfl, rfl, hd⟩ | ⟨rfl, hb, hc, rfl⟩
  · rcases ha with rfl | rfl <;> rcases hd with rfl | rfl <;> rcases k_four hk with rfl | rfl | rfl | rfl <;> simp [outX, outY, kdT, dot, triB] at * <;> (subst eK; simp; omega)
  · rcases hb with rfl | rfl <;> rcases hc with rfl | rfl <;> rcases k_four hk with rfl | rfl | rfl | rfl <;> simp [outX, outY, kdT, dot, triB] at * <;> (subst eK; simp; omega)
/-- May the place of a triangle be? -/
def triT (t : Int × Int × Int) : Bool := triB t.1 t.2.1 t.2.2
/-- grid.Move, of a map that may be, to a place that may be. -/
theorem Move_in (m : M6) (t : Int × Int × Int) (w : World) (hm : mapM m = true) (hb : (0 ≤ t.1 ∧ t.1 ≤ 8) ∧ (0 ≤ t.2.1 ∧ t.2.1 ≤ 8) ∧ (0 ≤ t.2.2 ∧ t.2.2 ≤ 3)) (hs : Steps w) (ht : triT (mvt m t) = true) :
    Calls Tryz.prog 34 #[.agg #[.int .i64 m.1, .int .i64 m.2.1, .int .i64 m.2.2.1, .int .i64 m.2.2.2.1, .int .i64 m.2.2.2.2.1, .int .i64 m.2.2.2.2.2], .agg #[.int .i64 t.1, .int .i64 t.2.1, .int .i64 t.2.2]] w fun r w' => r = .returned (.tuple #[.agg #[.int .i64 (mvt m t).1, .int .i64 (mvt m t).2.1, .int .i64 (mvt m t).2.2], .int .i64 0]) ∧ Below w.heap.size w w' := by
  obtain ⟨a, b, c, d, e, f⟩ := m
  obtain ⟨x, y, k⟩ := t
  obtain ⟨h1, h2, h3, h4, h5, h7⟩ := mvt_gen hm hb.1 hb.2.1 hb.2.2 (X := (mvt (a, b, c, d, e, f) (x, y, k)).1) (Y := (mvt (a, b, c, d, e, f) (x, y, k)).2.1) (K := (mvt (a, b, c, d, e, f) (x, y, k)).2.2) rfl
  exact Move_yes a b c d e f x y k _ _ _ w hm h7 h1 h2 h3 h4 h5 ht hs
/-- ref.MoveOf, of a map that may be. -/
theorem MoveOf_gen (m : M6) (t : Int × Int × Int) (w : World) (hm : mapM m = true) (hb : (0 ≤ t.1 ∧ t.1 ≤ 8) ∧ (0 ≤ t.2.1 ∧ t.2.1 ≤ 8) ∧ (0 ≤ t.2.2 ∧ t.2.2 ≤ 3)) :
    Calls Tryz.prog 54 #[.agg #[.int .i64 m.1, .int .i64 m.2.1, .int .i64 m.2.2.1, .int .i64 m.2.2.2.1, .int .i64 m.2.2.2.2.1, .int .i64 m.2.2.2.2.2], .agg #[.int .i64 t.1, .int .i64 t.2.1, .int .i64 t.2.2]] w fun r w' => r = .returned (.agg #[.int .i64 (mvt m t).1, .int .i64 (mvt m t).2.1, .int .i64 (mvt m t).2.2]) ∧ Below w.heap.size w w' := by
  obtain ⟨a, b, c, d, e, f⟩ := m
  obtain ⟨x, y, k⟩ := t
  obtain ⟨h1, h2, h3, h4, h5, h7⟩ := mvt_gen hm hb.1 hb.2.1 hb.2.2 (X := (mvt (a, b, c, d, e, f) (x, y, k)).1) (Y := (mvt (a, b, c, d, e, f) (x, y, k)).2.1) (K := (mvt (a, b, c, d, e, f) (x, y, k)).2.2) rfl
  obtain ⟨X, Y, K, q1, q2, r1, r2, g1, g2, g3, g4, g5, g6, g7, g8, g9, g10⟩ := move_data a b c d e f x y k hm h7
  have e1 : (mvt (a, b, c, d, e, f) (x, y, k)).1 = X := by have := h1.symm.trans g1; omega
  have e2 : (mvt (a, b, c, d, e, f) (x, y, k)).2.1 = Y := by have := h2.symm.trans g2; omega
  have e3 : (mvt (a, b, c, d, e, f) (x, y, k)).2.2 = K := out_one h3 g3 (h4.symm.trans g4) (h5.symm.trans g5)
  obtain ⟨hsm, hef, _⟩ := map_bd hm
  have := moveOf_any a b c d e f x y k X Y K q1 q2 r1 r2 w hsm hef h7 ⟨⟨g1, g2⟩, by have := hb.1; dsimp only at this; omega, by have := hb.2.1; dsimp only at this; omega⟩ g6 g7 g8 g9 g10
  rw [e1, e2, e3]
  exact this

theorem cmpT_lt0 (a b c p q r : Int) : cmpT a b c p q r < 0 ↔ ltT (a, b, c) (p, q, r) := by
  unfold cmpT or2 cmp3 ltT
  dsimp only
  constructor
  · intro h
    repeat' split at h
    all_goals first | omega | (exfalso; omega)
  · intro h
    repeat' split
    all_goals first | omega | (exfalso; omega)
theorem cmpT_eq0 (a b c p q r : Int) : cmpT a b c p q r = 0 ↔ (a, b, c) = (p, q, r) := by
  unfold cmpT or2 cmp3
  simp only [Prod.mk.injEq]
  constructor
  · intro h
    repeat' split at h
    all_goals first | omega | (exfalso; omega)
  · rintro ⟨rfl, rfl, rfl⟩
    simp
/-- A triangle's number, if it is there. -/
def NumTo (L : List (Int × Int × Int)) (t : Int × Int × Int) (w w' : World) (e : Ending) : Prop := ∃ (i : Nat) (b : Bool), e = .returned (.tuple #[.int .i64 (i : Int), .bool b]) ∧ i ≤ L.length ∧ (b = true ↔ t ∈ L) ∧ (b = true → ∃ h : i < L.length, L[i] = t) ∧ Below w.heap.size w w'
set_option maxRecDepth 100000 in
set_option maxHeartbeats 3200000 in
theorem search_any (w : World) (ad : Option Addr) (cc : Nat) (L : List (Int × Int × Int)) (x y k : Int) (hT : TRow w ad L) (hup : L.Pairwise ltT) (hL : L.length ≤ 300) :
    Calls Tryz.prog 150 #[.slice ad L.length cc, .agg #[.int .i64 x, .int .i64 y, .int .i64 k], .func (.func 151) #[] #[]] w fun e w' => NumTo L (x, y, k) w w' e := by
  have HT : Hid (TRow w ad L ∧ L.Pairwise ltT) := ⟨hT, hup⟩
  clear hT hup
  go_enter Tryz.func150, Tryz.ntmps150
  go_wp2
  go_loopg [9, 10] L.length (fun gk s9 s10 wx => ∃ i j : Nat, i ≤ j ∧ j ≤ L.length ∧ gk = j - i ∧ s9 = .int .i64 (i : Int) ∧ s10 = .int .i64 (j : Int) ∧ (∀ m (h : m < L.length), m < i → ltT L[m] (x, y, k)) ∧ (∀ m (h : m < L.length), j ≤ m → ¬ ltT L[m] (x, y, k)) ∧ Below (w.alloc (.cells #[.int .i64 x, .int .i64 y, .int .i64 k] 51)).heap.size (w.alloc (.cells #[.int .i64 x, .int .i64 y, .int .i64 k] 51)) wx)
  case atStart => exact ⟨0, L.length, by omega, by omega, by omega, rfl, rfl, fun m _ h => by omega, fun m h1 h2 => by omega, bl_refl _⟩
  case round =>
    obtain ⟨i, j, hij, hjL, rfl, rfl, rfl, hlo, hhi, hB⟩ := hrel
    have HR : Hid ((∀ m (h : m < L.length), m < i → ltT L[m] (x, y, k)) ∧ (∀ m (h : m < L.length), j ≤ m → ¬ ltT L[m] (x, y, k))) := ⟨hlo, hhi⟩
    have HB : Hid (Below w.heap.size w wr ∧ Below (w.alloc (.cells #[.int .i64 x, .int .i64 y, .int .i64 k] 51)).heap.size (w.alloc (.cells #[.int .i64 x, .int .i64 y, .int .i64 k] 51)) wr) := ⟨bl_via (bl_alloc (bl_refl _)) hB, hB⟩
    have b0 : wr.cell? ⟨w.heap.size, 0, none⟩ = some (.int .i64 x) := cl_kept hB (by simp [go_sem])
    have b1 : wr.cell? ⟨w.heap.size, 1, none⟩ = some (.int .i64 y) := cl_kept hB (by simp [go_sem])
    have b2 : wr.cell? ⟨w.heap.size, 2, none⟩ = some (.int .i64 k) := cl_kept hB (by simp [go_sem])
    have zb : w.heap.size < wr.heap.size := World.block_lt_of_cell? _ _ b0
    clear hlo hhi hB
    by_cases h1 : i < j
    · have i1 : (i : Int) < (j : Int) := by omega
      obtain ⟨m, hm⟩ : ∃ m, m = (i + j) / 2 := ⟨_, rfl⟩
      have hm1 : m < L.length := by omega
      have m1 : (m : Int) < (L.length : Int) := by omega
      have m0 : (0 : Int) ≤ (m : Int) := by omega
      obtain ⟨g, rfl, t0, t1, t2⟩ := (HT.out.1.kept HB.out.1) m hm1
      have zg : g < wr.heap.size := World.block_lt_of_cell? _ _ t0
      have HMID : Hid (((i : Int) + (j : Int)) / 2 = (m : Int)) := by
        have : ((i : Int) + (j : Int)) / 2 = (m : Int) := by omega
        exact this
      have hmi : i ≤ m := by omega
      have hmj : m < j := by omega
      clear hm
      obtain ⟨p, q, r, hpq⟩ : ∃ p q r, L[m] = (p, q, r) := ⟨_, _, _, rfl⟩
      rw [hpq] at t0 t1 t2
      dsimp only at t0 t1 t2
      obtain ⟨c, hc⟩ : ∃ c, c = cmpT p q r x y k := ⟨_, rfl⟩
      have HC : Hid (∀ W : World, Calls Tryz.prog 151 #[.agg #[.int .i64 p, .int .i64 q, .int .i64 r], .agg #[.int .i64 x, .int .i64 y, .int .i64 k]] W fun e w' => e = .returned (.int .i64 c) ∧ Below W.heap.size W w') := fun W => hc ▸ compareTris_any p q r x y k W
      have HL : Hid (c < 0 ↔ ltT L[m] (x, y, k)) := by
        have : c < 0 ↔ ltT L[m] (x, y, k) := by rw [hc, hpq]; exact cmpT_lt0 _ _ _ _ _ _
        exact this
      clear hc hpq
      go_upto_region 5 with fail
      rw [HMID.out]
      have kc := Kin.cells wr
      have kn : Nonempty (Kin wr) := ⟨⟨wr, bl_refl _⟩⟩
      refine wp_region_kin (by kernel_rfl) (by kernel_rfl) ?_
      repeat (go_big_quiet_step ((go_at_call 151; exact kin_of (HC.out _))))
      refine wpQuiet_nil ?_
      intro wq hw'
      obtain ⟨nq, hw''⟩ := hw'
      have hq : Below wr.heap.size wr wq := hw'' ▸ nq.h
      clear hw'' nq kc kn t0 t1 t2 b0 b1 b2
      by_cases hc0 : c < 0
      · go_wp2
        go_roundg (j - (m + 1))
        case measure => omega
        case rel =>
          refine ⟨m + 1, j, by omega, by omega, rfl, by go_num, rfl, fun n hn hnm => ?_, HR.out.2, bl_via HB.out.2 hq⟩
          have h2 := HL.out.1 hc0
          by_cases e : n = m
          · subst e
            exact h2
          · have := (List.pairwise_iff_getElem.1 HT.out.2) n m hn hm1 (by omega)
            exact ltT_trans _ _ _ this h2
      · go_wp2
        go_roundg (m - i)
        case measure => omega
        case rel =>
          refine ⟨i, m, by omega, by omega, rfl, rfl, rfl, HR.out.1, fun n hn hnm h3 => ?_, bl_via HB.out.2 hq⟩
          by_cases e : n = m
          · subst e
            exact absurd (HL.out.2 h3) (by omega)
          · have := (List.pairwise_iff_getElem.1 HT.out.2) m n hm1 hn (by omega)
            exact absurd (HL.out.2 (ltT_trans _ _ _ this h3)) (by omega)
    · have i1 : ¬ (i : Int) < (j : Int) := by omega
      have eij : i = j := by omega
      subst eij
      by_cases h2 : i < L.length
      · have i2 : (i : Int) < (L.length : Int) := by omega
        have i0 : (0 : Int) ≤ (i : Int) := by omega
        obtain ⟨g, rfl, t0, t1, t2⟩ := (HT.out.1.kept HB.out.1) i h2
        have zg : g < wr.heap.size := World.block_lt_of_cell? _ _ t0
        obtain ⟨p, q, r, hpq⟩ : ∃ p q r, L[i] = (p, q, r) := ⟨_, _, _, rfl⟩
        rw [hpq] at t0 t1 t2
        dsimp only at t0 t1 t2
        obtain ⟨c, hc⟩ : ∃ c, c = cmpT p q r x y k := ⟨_, rfl⟩
        have HC : Hid (∀ W : World, Calls Tryz.prog 151 #[.agg #[.int .i64 p, .int .i64 q, .int .i64 r], .agg #[.int .i64 x, .int .i64 y, .int .i64 k]] W fun e w' => e = .returned (.int .i64 c) ∧ Below W.heap.size W w') := fun W => hc ▸ compareTris_any p q r x y k W
        have HL : Hid (c = 0 ↔ L[i] = (x, y, k)) := by
          have : c = 0 ↔ L[i] = (x, y, k) := by rw [hc, hpq]; exact cmpT_eq0 _ _ _ _ _ _
          exact this
        clear hc hpq
        go_upto_region 8 with fail
        have kc := Kin.cells wr
        have kn : Nonempty (Kin wr) := ⟨⟨wr, bl_refl _⟩⟩
        refine wp_region_kin (by kernel_rfl) (by kernel_rfl) ?_
        repeat (go_big_quiet_step ((go_at_call 151; exact kin_of (HC.out _))))
        refine wpQuiet_nil ?_
        intro wq hw'
        obtain ⟨nq, hw''⟩ := hw'
        have hq : Below wr.heap.size wr wq := hw'' ▸ nq.h
        clear hw'' nq kc kn t0 t1 t2 b0 b1 b2
        go_wp2
        refine bodyPost_ret (v := .tuple #[.int .i64 (i : Int), .bool (c == 0)]) (by simp [results, Tryz.results150, go_sem]) rfl ⟨i, c == 0, rfl, by omega, ?_, fun h => ?_, bl_via HB.out.1 hq⟩
        · rw [beq_iff_eq, HL.out]
          constructor
          · intro e
            rw [← e]
            exact List.getElem_mem h2
          · intro hm
            obtain ⟨n, hn, e⟩ := List.getElem_of_mem hm
            by_cases e1 : n = i
            · subst e1
              exact e
            · by_cases e2 : n < i
              · have := HR.out.1 n hn e2
                rw [e] at this
                exact absurd this (ltT_irr _)
              · have h3 := (List.pairwise_iff_getElem.1 HT.out.2) i n h2 hn (by omega)
                rw [e] at h3
                exact absurd h3 (HR.out.2 i h2 (Nat.le_refl _))
        · exact ⟨h2, HL.out.1 (by simpa using h)⟩
      · have i2 : ¬ (i : Int) < (L.length : Int) := by omega
        go_upto_region 8 with fail
        have kc := Kin.cells wr
        have kn : Nonempty (Kin wr) := ⟨⟨wr, bl_refl _⟩⟩
        refine wp_region_kin (by kernel_rfl) (by kernel_rfl) ?_
        repeat (go_big_quiet_step (fail))
        refine wpQuiet_nil ?_
        intro wq hw'
        obtain ⟨nq, hw''⟩ := hw'
        have hq : Below wr.heap.size wr wq := hw'' ▸ nq.h
        clear hw'' nq kc kn b0 b1 b2
        go_wp2
        refine bodyPost_ret (v := .tuple #[.int .i64 (i : Int), .bool false]) (by simp [results, Tryz.results150, go_sem]) rfl ⟨i, false, rfl, by omega, ?_, (fun h => by cases h), bl_via HB.out.1 hq⟩
        simp only [Bool.false_eq_true, false_iff]
        intro hm
        obtain ⟨n, hn, e⟩ := List.getElem_of_mem hm
        have := HR.out.1 n hn (by omega)
        rw [e] at this
        exact ltT_irr _ this
/-- paper.Number. -/
theorem number_any (w : World) (ad : Option Addr) (cc : Nat) (m1 m2 : Value) (L : List (Int × Int × Int)) (x y k : Int) (hT : TRow w ad L) (hup : L.Pairwise ltT) (hL : L.length ≤ 300) :
    Calls Tryz.prog 71 #[.agg #[.slice ad L.length cc, m1, m2], .agg #[.int .i64 x, .int .i64 y, .int .i64 k]] w fun e w' => NumTo L (x, y, k) w w' e := by
  have CS : Hid (∀ W : World, Below w.heap.size w W → Calls Tryz.prog 150 #[.slice ad L.length cc, .agg #[.int .i64 x, .int .i64 y, .int .i64 k], .func (.func 151) #[] #[]] W fun e w' => NumTo L (x, y, k) W w' e) := fun W hW => search_any W ad cc L x y k (hT.kept hW) hup hL
  clear hT hup
  go_enter Tryz.func71, Tryz.ntmps71
  go_wp2_with (go_at_call 150; refine (CS.out _ (bl_alloc (bl_alloc (bl_refl _)))).mono ?_; rintro e w2 ⟨i, b, rfl, h1, h2, h3, hb⟩; have HR : Hid ((b = true ↔ (x, y, k) ∈ L) ∧ (b = true → ∃ h : i < L.length, L[i] = (x, y, k)) ∧ Below w.heap.size w w2) := ⟨h2, h3, bl_via (bl_alloc (bl_alloc (bl_refl _))) hb⟩; clear h2 h3 hb)
  exact bodyPost_ret (v := .tuple #[.int .i64 (i : Int), .bool b]) (by simp [results, Tryz.results71, go_sem]) rfl ⟨i, b, rfl, h1, HR.out.1, HR.out.2.1, HR.out.2.2⟩
end Go.Proofs.YtnpboeodhpenmaaGreatDoor
