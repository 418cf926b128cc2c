/- The edges between two points. -/
import Derived.Test.YtehmoacggikfmaaGreatDoorQlbe
import Derived.Test.YtehmoacggikfmaaGreatDoorQlbf
namespace Go.Proofs.YtehmoacggikfmaaGreatDoor
open Go.RowKit

/-- Edges, number by number. -/
def flE (l : List E4) : List Value := l.flatMap fun e => [.int .i64 e.1, .int .i64 e.2.1, .int .i64 e.2.2.1, .int .i64 e.2.2.2]
theorem flE_add (l m : List E4) : flE (l ++ m) = flE l ++ flE m := by simp [flE]
theorem inf53 : (Tryz.prog.info? 53).map (fun i => (i.zero, i.size, i.bytes)) = some (some (.agg #[.int .i64 0, .int .i64 0, .int .i64 0, .int .i64 0]), 4, 32) := by kernel_rfl
def sameP (x y X Y : Int) : Bool := decide (x = X ∧ y = Y)
theorem eql51 (x y X Y : Int) (w : World) : (binOp .eql 51 (.agg #[.int .i64 x, .int .i64 y]) (.agg #[.int .i64 X, .int .i64 Y])).run Tryz.prog w = .ok (.bool (sameP x y X Y)) w := by
  unfold sameP
  by_cases h1 : x = X <;> by_cases h2 : y = Y <;> simp [go_sem, h1, h2]
theorem neq51 (x y X Y : Int) (w : World) : (binOp .neq 51 (.agg #[.int .i64 x, .int .i64 y]) (.agg #[.int .i64 X, .int .i64 Y])).run Tryz.prog w = .ok (.bool (!sameP x y X Y)) w := by
  unfold sameP
  by_cases h1 : x = X <;> by_cases h2 : y = Y <;> simp [go_sem, h1, h2]
/-- How many edges. -/
def stN (a b c d : Int) : Nat := if (stT a b c d).1 = 0 then ((d - b) / 2).toNat else ((c - a) / (stT a b c d).1).toNat
theorem egU_bt {a b c d : Int} (h : stT a b c d ≠ (0, 0)) : egU a b c d = bt (stN a b c d) a b (stT a b c d).1 (stT a b c d).2 := by
  unfold egU stN
  rw [if_neg h]
theorem stT_bd (a b c d : Int) : -1 ≤ (stT a b c d).1 ∧ (stT a b c d).1 ≤ 2 ∧ -1 ≤ (stT a b c d).2 ∧ (stT a b c d).2 ≤ 2 := by
  unfold stT
  repeat' split
  all_goals simp
theorem stN_end {a b c d : Nat} (h1 : a % 2 = b % 2) (h2 : c % 2 = d % 2) (h : stT a b c d ≠ (0, 0)) : (c : Int) = a + stN a b c d * (stT a b c d).1 ∧ (d : Int) = b + stN a b c d * (stT a b c d).2 ∧ ((stT a b c d).1 ≠ 0 ∨ (stT a b c d).2 ≠ 0) := by
  unfold stN
  revert h
  unfold stT
  split
  · intro _
    simp
    omega
  · split
    · intro _
      simp
      omega
    · split
      · intro _
        simp
        omega
      · split
        · intro _
          simp
          omega
        · intro h
          exact absurd rfl h
theorem cmpP_pos (a b c d : Int) : 0 < cmpP a b c d ↔ ltPt c d a b = true := by
  unfold cmpP or2 cmp3 ltPt
  simp only [Bool.or_eq_true, Bool.and_eq_true, decide_eq_true_eq]
  repeat' split
  all_goals omega
theorem grown_co {w wx : World} {row : Option Nat} {A i : Nat} {v : Value} (hg : w.grownBy wx row) (hne : some A ≠ row) (h : w.cell? ⟨A, i, none⟩ = some v) : wx.cell? ⟨A, i, none⟩ = some v := by
  have hlt := World.block_lt_of_cell? _ _ h
  have := hg.block A hlt hne
  unfold World.cell? at *
  rw [this]
  exact h
theorem grown_fo {w wx : World} {row : Option Nat} {A i : Nat} {b : Bool} (hg : w.grownBy wx row) (hne : some A ≠ row) (hlt : A < w.heap.size) (h : w.frozen? ⟨A, i, none⟩ = b) : wx.frozen? ⟨A, i, none⟩ = b := by
  have := hg.block A hlt hne
  unfold World.frozen? at *
  rw [this]
  exact h
/-- What the walk from point to point keeps in memory. -/
structure BT (w wx : World) (g5 : Nat) (p1 p2 q1 q2 u v : Int) (sl : Value) (l : List E4) : Prop where
  own : wx.ownsRow (g5 + 1) 53 4 sl l.length (flE l)
  c0 : wx.cell? ⟨w.heap.size, 0, none⟩ = some (.int .i64 p1)
  c1 : wx.cell? ⟨w.heap.size, 1, none⟩ = some (.int .i64 p2)
  d0 : wx.cell? ⟨w.heap.size + 1, 0, none⟩ = some (.int .i64 q1)
  d1 : wx.cell? ⟨w.heap.size + 1, 1, none⟩ = some (.int .i64 q2)
  e0 : wx.cell? ⟨g5, 0, none⟩ = some (.int .i64 u)
  e1 : wx.cell? ⟨g5, 1, none⟩ = some (.int .i64 v)
  f0 : wx.frozen? ⟨w.heap.size, 0, none⟩ = false
  f1 : wx.frozen? ⟨w.heap.size, 1, none⟩ = false
  b : Below w.heap.size w wx
  g : w.heap.size + 1 < g5
  s : g5 + 1 ≤ wx.heap.size
theorem mulk_bd (k : Nat) (u : Int) (hk : k ≤ 1000) (h1 : -1 ≤ u) (h2 : u ≤ 2) : -1000 ≤ (k : Int) * u ∧ (k : Int) * u ≤ 2000 := by
  have : u = -1 ∨ u = 0 ∨ u = 1 ∨ u = 2 := by omega
  rcases this with rfl | rfl | rfl | rfl <;> omega
theorem stN_le {a b c d : Nat} (ha : a < 1000) (hb : b < 1000) (hc : c < 1000) (hd : d < 1000) : stN a b c d ≤ 1000 := by
  unfold stN stT
  repeat' split
  all_goals first | (simp at *; done) | (simp at *; omega)
theorem k_end {k n : Nat} {u v : Int} (h : u ≠ 0 ∨ v ≠ 0) (h1 : (k : Int) * u = n * u) (h2 : (k : Int) * v = n * v) : k = n := by
  rcases h with h | h
  · have := Int.eq_of_mul_eq_mul_right h h1
    omega
  · have := Int.eq_of_mul_eq_mul_right h h2
    omega
theorem four_new (w : World) (p q r s : Int) (g : Nat) (hg : g = w.heap.size) : ∀ j x, ([Value.int .i64 p, .int .i64 q, .int .i64 r, .int .i64 s])[j]? = some x → (w.alloc (.cells #[.int .i64 p, .int .i64 q, .int .i64 r, .int .i64 s] 53)).cell? ((⟨g, 0, none⟩ : Addr).add j) = some x := by
  subst hg
  intro j x hx
  match j, hx with
  | 0, hx => simp at hx; subst hx; simp [go_sem, Addr.add]
  | 1, hx => simp at hx; subst hx; simp [go_sem, Addr.add]
  | 2, hx => simp at hx; subst hx; simp [go_sem, Addr.add]
  | 3, hx => simp at hx; subst hx; simp [go_sem, Addr.add]
theorem four_one (p q r s : Int) : ∀ x ∈ [Value.int .i64 p, .int .i64 q, .int .i64 r, .int .i64 s], x.oneCell' = true := by
  intro x hx
  simp at hx
  rcases hx with rfl | rfl | rfl | rfl <;> rfl
/-- What between answers. -/
def BtTo (w w' : World) (sl : Value) (l : List E4) : Prop := ∃ base, w'.ownsRow base 53 4 sl l.length (flE l) ∧ w.heap.size ≤ base ∧ Below w.heap.size w w'
set_option maxRecDepth 100000 in
set_option maxHeartbeats 6400000 in
theorem between_up (a b c d : Nat) (w : World) (ha : a < 1000) (hb : b < 1000) (hc : c < 1000) (hd : d < 1000) (h1 : a % 2 = b % 2) (h2 : c % 2 = d % 2) (hlt : ltPt c d a b = false) :
    Calls Tryz.prog 48 #[.agg #[.int .i64 (a : Int), .int .i64 (b : Int)], .agg #[.int .i64 (c : Int), .int .i64 (d : Int)]] w fun e w' => ∃ sl, e = .returned sl ∧ BtTo w w' sl (egU a b c d) := by
  have hcp : ¬ 0 < cmpP (a : Int) (b : Int) (c : Int) (d : Int) := by rw [cmpP_pos]; simp [hlt]
  have heq := eql51
  have hne := neq51
  obtain ⟨u, hu⟩ : ∃ u, u = (stT a b c d).1 := ⟨_, rfl⟩
  obtain ⟨v, hv⟩ : ∃ v, v = (stT a b c d).2 := ⟨_, rfl⟩
  have C72 : Hid (∀ W : World, Calls Tryz.prog 72 #[.agg #[.int .i64 (a : Int), .int .i64 (b : Int)], .agg #[.int .i64 (c : Int), .int .i64 (d : Int)]] W fun e w' => e = .returned (.agg #[.int .i64 u, .int .i64 v]) ∧ Below W.heap.size W w') := fun W => by
    rw [hu, hv]
    exact stepTo_any a b c d W ha hb hc hd
  by_cases hz : stT a b c d = (0, 0)
  · have HE : Hid (egU a b c d = []) := by show egU a b c d = []; unfold egU; rw [if_pos hz]
    obtain rfl : u = 0 := by rw [hu, hz]
    obtain rfl : v = 0 := by rw [hv, hz]
    clear hu hv hz h1 h2 hlt
    go_enter Tryz.func48, Tryz.ntmps48
    go_wp2_with (first
      | (go_at_call 56; (with_reducible refine (comparePoints_any _ _ _ _ _).mono ?_); rintro e w1 ⟨rfl, hb⟩; have c0 : w1.cell? ⟨w.heap.size, 0, none⟩ = some (.int .i64 (a : Int)) := cl_kept hb (by simp [go_sem]); have c1 : w1.cell? ⟨w.heap.size, 1, none⟩ = some (.int .i64 (b : Int)) := cl_kept hb (by simp [go_sem]); have d0 : w1.cell? ⟨w.heap.size + 1, 0, none⟩ = some (.int .i64 (c : Int)) := cl_kept hb (by simp [go_sem]); have d1 : w1.cell? ⟨w.heap.size + 1, 1, none⟩ = some (.int .i64 (d : Int)) := cl_kept hb (by simp [go_sem]); have HB1 : Hid (Below w.heap.size w w1) := bl_via (bl_alloc (bl_alloc (bl_refl _))) hb; clear hb)
      | (go_at_call 72; (with_reducible refine (C72.out _).mono ?_); rintro e w2 ⟨rfl, hb⟩; have HB2 : Hid (Below w.heap.size w w2) := bl_via HB1.out hb; clear hb)
      | fail)
    go_ret
    refine ⟨_, rfl, w.heap.size, ?_, Nat.le_refl _, ?_⟩
    · rw [HE.out]
      exact World.ownsRow_nil _ _ _ _
    · repeat' (first | exact HB2.out | (refine bl_set ?_ (by have := HB2.out.size; dsimp only; omega)) | refine bl_alloc ?_ | refine bl_drew ?_)
  · obtain ⟨n, hn⟩ : ∃ n, n = stN a b c d := ⟨_, rfl⟩
    have hend := stN_end h1 h2 hz
    rw [← hn, ← hu, ← hv] at hend
    have HE : Hid (egU a b c d = bt n a b u v) := by show egU a b c d = _; rw [egU_bt hz, hn, hu, hv]
    have hn1 : n ≤ 1000 := by rw [hn]; exact stN_le ha hb hc hd
    have hub := stT_bd a b c d
    rw [← hu, ← hv] at hub
    have hs0 : sameP u v 0 0 = false := by
      unfold sameP
      have := hend.2.2
      simp
      omega
    have HEND : Hid ((c : Int) = a + n * u ∧ (d : Int) = b + n * v ∧ (u ≠ 0 ∨ v ≠ 0)) := hend
    have HUB : Hid (-1 ≤ u ∧ u ≤ 2 ∧ -1 ≤ v ∧ v ≤ 2) := hub
    obtain ⟨i0, hi, hz0, hz1, hz2⟩ := info_parts inf53
    have HI : Hid (Tryz.prog.info? 53 = some i0 ∧ i0.zero = some (.agg #[.int .i64 0, .int .i64 0, .int .i64 0, .int .i64 0]) ∧ i0.size = 4 ∧ i0.bytes = 32) := ⟨hi, hz0, hz1, hz2⟩
    clear hi hz0 hz1 hz2 hu hv hz h1 h2 hlt hn hend hub
    go_enter Tryz.func48, Tryz.ntmps48
    go_wp2_with (first
      | (go_at_call 56; (with_reducible refine (comparePoints_any _ _ _ _ _).mono ?_); rintro e w1 ⟨rfl, hb⟩; have c0 : w1.cell? ⟨w.heap.size, 0, none⟩ = some (.int .i64 (a : Int)) := cl_kept hb (by simp [go_sem]); have c1 : w1.cell? ⟨w.heap.size, 1, none⟩ = some (.int .i64 (b : Int)) := cl_kept hb (by simp [go_sem]); have d0 : w1.cell? ⟨w.heap.size + 1, 0, none⟩ = some (.int .i64 (c : Int)) := cl_kept hb (by simp [go_sem]); have d1 : w1.cell? ⟨w.heap.size + 1, 1, none⟩ = some (.int .i64 (d : Int)) := cl_kept hb (by simp [go_sem]); have f0 : w1.frozen? ⟨w.heap.size, 0, none⟩ = false := (hb.frozen (p := ⟨w.heap.size, 0, none⟩) (by simp; omega)).trans (by simp [go_sem]); have f1 : w1.frozen? ⟨w.heap.size, 1, none⟩ = false := (hb.frozen (p := ⟨w.heap.size, 1, none⟩) (by simp; omega)).trans (by simp [go_sem]); have HB1 : Hid (Below w.heap.size w w1) := bl_via (bl_alloc (bl_alloc (bl_refl _))) hb; clear hb)
      | (go_at_call 72; (with_reducible refine (C72.out _).mono ?_); rintro e w2 ⟨rfl, hb⟩; have k0 := cl_kept hb c0; have k1 := cl_kept hb c1; have m0 := cl_kept hb d0; have m1 := cl_kept hb d1; have l0 : w2.frozen? ⟨w.heap.size, 0, none⟩ = false := (hb.frozen (p := ⟨w.heap.size, 0, none⟩) (World.block_lt_of_cell? _ _ c0)).trans f0; have l1 : w2.frozen? ⟨w.heap.size, 1, none⟩ = false := (hb.frozen (p := ⟨w.heap.size, 1, none⟩) (World.block_lt_of_cell? _ _ c1)).trans f1; have z1 : w.heap.size + 1 < w2.heap.size := World.block_lt_of_cell? _ _ m0; have HB2 : Hid (Below w.heap.size w w2) := bl_via HB1.out hb; clear hb)
      | fail)
    clear c0 c1 d0 d1 f0 f1 C72 hs0
    go_loopg [6] n (fun g s6 wx => ∃ (k : Nat) (p1 p2 : Int), k ≤ n ∧ n - k = g ∧ p1 = a + k * u ∧ p2 = b + k * v ∧ BT w wx w2.heap.size p1 p2 c d u v s6 (bt k a b u v))
    case atStart =>
      refine ⟨0, a, b, by omega, rfl, by simp, by simp, ?_⟩
      exact { own := by simpa [bt, flE] using World.ownsRow_nil _ _ _ _, c0 := cl_kept (bl_alloc (bl_refl _)) k0, c1 := cl_kept (bl_alloc (bl_refl _)) k1, d0 := cl_kept (bl_alloc (bl_refl _)) m0, d1 := cl_kept (bl_alloc (bl_refl _)) m1, e0 := by simp [go_sem], e1 := by simp [go_sem], f0 := ((bl_alloc (bl_refl _)).frozen (p := ⟨w.heap.size, 0, none⟩) (World.block_lt_of_cell? _ _ k0)).trans l0, f1 := ((bl_alloc (bl_refl _)).frozen (p := ⟨w.heap.size, 1, none⟩) (World.block_lt_of_cell? _ _ k1)).trans l1, b := bl_alloc HB2.out, g := z1, s := by simp }
    case round =>
      obtain ⟨k, p1, p2, hk, rfl, hp1, hp2, hT⟩ := hrel
      obtain ⟨va, hva⟩ : ∃ x, x = u6 := ⟨_, rfl⟩
      subst hva
      have HT : Hid (BT w wr w2.heap.size p1 p2 c d u v va (bt k a b u v)) := hT
      have HP : Hid (p1 = a + k * u ∧ p2 = b + k * v) := ⟨hp1, hp2⟩
      clear hT k0 k1 m0 m1 l0 l1
      have q0 := HT.out.c0
      have q1 := HT.out.c1
      have r0 := HT.out.d0
      have r1 := HT.out.d1
      have t0 := HT.out.e0
      have t1 := HT.out.e1
      have f0 := HT.out.f0
      have f1 := HT.out.f1
      have y0 : w.heap.size < wr.heap.size := World.block_lt_of_cell? _ _ q0
      have y1 : w.heap.size + 1 < wr.heap.size := World.block_lt_of_cell? _ _ r0
      have y2 : w2.heap.size < wr.heap.size := World.block_lt_of_cell? _ _ t0
      by_cases hkn : k < n
      · have hsp : sameP p1 p2 c d = false := by
          unfold sameP
          rw [decide_eq_false_iff_not]
          rintro ⟨e1, e2⟩
          have h3 := HEND.out
          exact absurd (k_end (k := k) (n := n) h3.2.2 (by omega) (by omega)) (by omega)
        have bu := mulk_bd k u (by omega) HUB.out.1 HUB.out.2.1
        have bv := mulk_bd k v (by omega) HUB.out.2.2.1 HUB.out.2.2.2
        have ub := HUB.out
        have wA : IntKind.i64.wrap (p1 + u) = p1 + u := by rw [IntKind.wrap_i64]; omega
        have wB : IntKind.i64.wrap (p2 + v) = p2 + v := by rw [IntKind.wrap_i64]; omega
        clear hp1 hp2 bu bv ub
        go_wp2_with (at_builtin; refine wpList_append_own _ rfl (.tmp 34) (.tmp 38) 69 rfl (w2.heap.size + 1) 53 i0 (.agg #[.int .i64 0, .int .i64 0, .int .i64 0, .int .i64 0]) 4 32 Tryz.underlying69 HI.out.1 HI.out.2.1 HI.out.2.2.1 HI.out.2.2.2 rfl (by decide) va (bt k a b u v).length (flE (bt k a b u v)) rfl (own_below HT.out.own (bl_alloc (bl_alloc (bl_refl _)))) ⟨wr.heap.size + 1, 0, none⟩ 1 1 [.int .i64 p1, .int .i64 p2, .int .i64 (p1 + u), .int .i64 (p2 + v)] rfl rfl (four_new _ _ _ _ _ _ (by simp)) (four_one _ _ _ _) (by rw [bt_length]; unfold maxLen; omega) (by rw [bt_length]; omega) (by simp; omega) ?gA)
        case gA =>
          intro v' w3 ho hg _
          have hob : ∀ gg, va.ownBlock = some gg → w2.heap.size + 1 ≤ gg ∧ gg < wr.heap.size := fun gg h => HT.out.own.lt gg h
          have hb2 : Below wr.heap.size wr ((wr.alloc (.cells #[.int .i64 (p1 + u), .int .i64 (p2 + v)] 51)).alloc (.cells #[.int .i64 p1, .int .i64 p2, .int .i64 (p1 + u), .int .i64 (p2 + v)] 53)) := bl_alloc (bl_alloc (bl_refl _))
          have ne0 : some w.heap.size ≠ va.ownBlock := fun h => by have := hob _ h.symm; have := HT.out.g; omega
          have ne1 : some (w.heap.size + 1) ≠ va.ownBlock := fun h => by have := hob _ h.symm; have := HT.out.g; omega
          have ne5 : some w2.heap.size ≠ va.ownBlock := fun h => by have := hob _ h.symm; omega
          have ne7 : some wr.heap.size ≠ va.ownBlock := fun h => by have := hob _ h.symm; omega
          have a0 := grown_co hg ne0 (cl_kept hb2 q0)
          have a1 := grown_co hg ne0 (cl_kept hb2 q1)
          have a2 := grown_co hg ne1 (cl_kept hb2 r0)
          have a3 := grown_co hg ne1 (cl_kept hb2 r1)
          have a4 := grown_co hg ne5 (cl_kept hb2 t0)
          have a5 := grown_co hg ne5 (cl_kept hb2 t1)
          have a6 : w3.cell? ⟨wr.heap.size, 0, none⟩ = some (.int .i64 (p1 + u)) := grown_co hg ne7 (by simp [go_sem])
          have a7 : w3.cell? ⟨wr.heap.size, 1, none⟩ = some (.int .i64 (p2 + v)) := grown_co hg ne7 (by simp [go_sem])
          have g0 : w3.frozen? ⟨w.heap.size, 0, none⟩ = false := grown_fo hg ne0 (by simp; omega) ((hb2.frozen (p := ⟨w.heap.size, 0, none⟩) y0).trans f0)
          have g1 : w3.frozen? ⟨w.heap.size, 1, none⟩ = false := grown_fo hg ne0 (by simp; omega) ((hb2.frozen (p := ⟨w.heap.size, 1, none⟩) y0).trans f1)
          have hsz := hg.size
          simp at hsz
          have HO : Hid (w3.ownsRow (w2.heap.size + 1) 53 4 v' (bt (k + 1) a b u v).length (flE (bt (k + 1) a b u v))) := by
            show w3.ownsRow (w2.heap.size + 1) 53 4 v' (bt (k + 1) a b u v).length (flE (bt (k + 1) a b u v))
            rw [bt_snoc, flE_add, List.length_append, ← HP.out.1, ← HP.out.2, show (a : Int) + (k + 1) * u = p1 + u by rw [HP.out.1, Int.add_mul]; omega, show (b : Int) + (k + 1) * v = p2 + v by rw [HP.out.2, Int.add_mul]; omega]
            exact ho
          have HBW : Hid (Below w.heap.size w w3) := (bl_via HT.out.b hb2).grown hg (bl_via HT.out.b hb2).size (fun gg h => by have := hob _ h; have := HT.out.g; omega)
          have hzz : ¬ w.heap.size = wr.heap.size := by omega
          clear ho hg hb2 q0 q1 r0 r1 t0 t1 f0 f1
          go_wp2
          go_roundg (n - (k + 1))
          case measure => omega
          case rel =>
            refine ⟨k + 1, p1 + u, p2 + v, by omega, rfl, by rw [HP.out.1]; push_cast; rw [Int.add_mul]; omega, by rw [HP.out.2]; push_cast; rw [Int.add_mul]; omega, ?_⟩
            have hgs : w3.grownBy ((w3.setCell ⟨w.heap.size, 0, none⟩ (.int .i64 (p1 + u))).setCell ⟨w.heap.size, 1, none⟩ (.int .i64 (p2 + v))) (some w.heap.size) := gb_then (grown_cell _ w.heap.size 0 _) (grown_cell _ w.heap.size 1 _)
            exact { own := HO.out.kept hgs (by
                      cases hu : v'.ownBlock with
                      | none => exact Or.inl rfl
                      | some gg => exact Or.inr (fun e => by have := (HO.out.lt gg hu).1; simp at e; have := HT.out.g; omega)), c0 := by simp [go_sem, a0], c1 := by simp [go_sem, a1], d0 := by simp [go_sem, a2], d1 := by simp [go_sem, a3], e0 := by have := HT.out.g; exact grown_co hgs (by simp; omega) a4, e1 := by have := HT.out.g; exact grown_co hgs (by simp; omega) a5, f0 := by simp [go_sem, g0], f1 := by simp [go_sem, g1], b := bl_set (bl_set HBW.out (Nat.le_refl _)) (Nat.le_refl _), g := HT.out.g, s := by simp; omega }
      · obtain rfl : k = n := by omega
        have hsp : sameP p1 p2 c d = true := by
          unfold sameP
          rw [decide_eq_true_eq]
          have h3 := HEND.out
          omega
        clear hp1 hp2
        go_wp2
        go_ret
        exact ⟨va, rfl, w2.heap.size + 1, by rw [HE.out]; exact HT.out.own, by have := HT.out.g; omega, HT.out.b⟩
set_option maxRecDepth 100000 in
set_option maxHeartbeats 6400000 in
theorem between_dn (a b c d : Nat) (w : World) (ha : a < 1000) (hb : b < 1000) (hc : c < 1000) (hd : d < 1000) (h1 : a % 2 = b % 2) (h2 : c % 2 = d % 2) (hlt : ltPt c d a b = true) :
    Calls Tryz.prog 48 #[.agg #[.int .i64 (a : Int), .int .i64 (b : Int)], .agg #[.int .i64 (c : Int), .int .i64 (d : Int)]] w fun e w' => ∃ sl, e = .returned sl ∧ BtTo w w' sl (egU c d a b) := by
  have hcp : 0 < cmpP (a : Int) (b : Int) (c : Int) (d : Int) := by rw [cmpP_pos]; exact hlt
  have heq := eql51
  have hne := neq51
  obtain ⟨u, hu⟩ : ∃ u, u = (stT c d a b).1 := ⟨_, rfl⟩
  obtain ⟨v, hv⟩ : ∃ v, v = (stT c d a b).2 := ⟨_, rfl⟩
  have C72 : Hid (∀ W : World, Calls Tryz.prog 72 #[.agg #[.int .i64 (c : Int), .int .i64 (d : Int)], .agg #[.int .i64 (a : Int), .int .i64 (b : Int)]] W fun e w' => e = .returned (.agg #[.int .i64 u, .int .i64 v]) ∧ Below W.heap.size W w') := fun W => by
    rw [hu, hv]
    exact stepTo_any c d a b W hc hd ha hb
  by_cases hz : stT c d a b = (0, 0)
  · have HE : Hid (egU c d a b = []) := by show egU c d a b = []; unfold egU; rw [if_pos hz]
    obtain rfl : u = 0 := by rw [hu, hz]
    obtain rfl : v = 0 := by rw [hv, hz]
    clear hu hv hz h2 h1 hlt
    go_enter Tryz.func48, Tryz.ntmps48
    go_wp2_with (first
      | (go_at_call 56; (with_reducible refine (comparePoints_any _ _ _ _ _).mono ?_); rintro e w1 ⟨rfl, hbb⟩; have c0 : w1.cell? ⟨w.heap.size, 0, none⟩ = some (.int .i64 (a : Int)) := cl_kept hbb (by simp [go_sem]); have c1 : w1.cell? ⟨w.heap.size, 1, none⟩ = some (.int .i64 (b : Int)) := cl_kept hbb (by simp [go_sem]); have d0 : w1.cell? ⟨w.heap.size + 1, 0, none⟩ = some (.int .i64 (c : Int)) := cl_kept hbb (by simp [go_sem]); have d1 : w1.cell? ⟨w.heap.size + 1, 1, none⟩ = some (.int .i64 (d : Int)) := cl_kept hbb (by simp [go_sem]); have f0 : w1.frozen? ⟨w.heap.size, 0, none⟩ = false := (hbb.frozen (p := ⟨w.heap.size, 0, none⟩) (by simp; omega)).trans (by simp [go_sem]); have f1 : w1.frozen? ⟨w.heap.size, 1, none⟩ = false := (hbb.frozen (p := ⟨w.heap.size, 1, none⟩) (by simp; omega)).trans (by simp [go_sem]); have f2 : w1.frozen? ⟨w.heap.size + 1, 0, none⟩ = false := (hbb.frozen (p := ⟨w.heap.size + 1, 0, none⟩) (by simp)).trans (by simp [go_sem]); have f3 : w1.frozen? ⟨w.heap.size + 1, 1, none⟩ = false := (hbb.frozen (p := ⟨w.heap.size + 1, 1, none⟩) (by simp)).trans (by simp [go_sem]); have HB1 : Hid (Below w.heap.size w w1) := bl_via (bl_alloc (bl_alloc (bl_refl _))) hbb; clear hbb)
      | (go_at_call 72; (with_reducible refine (C72.out _).mono ?_); rintro e w2 ⟨rfl, hbb⟩; have k0 : w2.cell? ⟨w.heap.size, 0, none⟩ = some (.int .i64 (c : Int)) := cl_kept hbb (by simp [go_sem, c0]); have k1 : w2.cell? ⟨w.heap.size, 1, none⟩ = some (.int .i64 (d : Int)) := cl_kept hbb (by simp [go_sem, c1]); have m0 : w2.cell? ⟨w.heap.size + 1, 0, none⟩ = some (.int .i64 (a : Int)) := cl_kept hbb (by simp [go_sem, d0]); have m1 : w2.cell? ⟨w.heap.size + 1, 1, none⟩ = some (.int .i64 (b : Int)) := cl_kept hbb (by simp [go_sem, d1]); have y9 : w.heap.size < w1.heap.size := World.block_lt_of_cell? _ _ c0; have l0 : w2.frozen? ⟨w.heap.size, 0, none⟩ = false := (hbb.frozen (p := ⟨w.heap.size, 0, none⟩) (by simpa using y9)).trans (by simp [go_sem, f0]); have l1 : w2.frozen? ⟨w.heap.size, 1, none⟩ = false := (hbb.frozen (p := ⟨w.heap.size, 1, none⟩) (by simpa using y9)).trans (by simp [go_sem, f1]); have z1 : w.heap.size + 1 < w2.heap.size := World.block_lt_of_cell? _ _ m0; have HB2 : Hid (Below w.heap.size w w2) := bl_via (bl_set (bl_set (bl_set (bl_set HB1.out (by dsimp only; omega)) (by dsimp only; omega)) (by dsimp only; omega)) (by dsimp only; omega)) hbb; clear hbb y9)
      | fail)
    go_ret
    refine ⟨_, rfl, w.heap.size, ?_, Nat.le_refl _, ?_⟩
    · rw [HE.out]
      exact World.ownsRow_nil _ _ _ _
    · repeat' (first | exact HB2.out | (refine bl_set ?_ (by have := HB2.out.size; dsimp only; omega)) | refine bl_alloc ?_ | refine bl_drew ?_)
  · obtain ⟨n, hn⟩ : ∃ n, n = stN c d a b := ⟨_, rfl⟩
    have hend := stN_end h2 h1 hz
    rw [← hn, ← hu, ← hv] at hend
    have HE : Hid (egU c d a b = bt n c d u v) := by show egU c d a b = _; rw [egU_bt hz, hn, hu, hv]
    have hn1 : n ≤ 1000 := by rw [hn]; exact stN_le hc hd ha hb
    have hub := stT_bd c d a b
    rw [← hu, ← hv] at hub
    have hs0 : sameP u v 0 0 = false := by
      unfold sameP
      have := hend.2.2
      simp
      omega
    have HEND : Hid ((a : Int) = c + n * u ∧ (b : Int) = d + n * v ∧ (u ≠ 0 ∨ v ≠ 0)) := hend
    have HUB : Hid (-1 ≤ u ∧ u ≤ 2 ∧ -1 ≤ v ∧ v ≤ 2) := hub
    obtain ⟨i0, hi, hz0, hz1, hz2⟩ := info_parts inf53
    have HI : Hid (Tryz.prog.info? 53 = some i0 ∧ i0.zero = some (.agg #[.int .i64 0, .int .i64 0, .int .i64 0, .int .i64 0]) ∧ i0.size = 4 ∧ i0.bytes = 32) := ⟨hi, hz0, hz1, hz2⟩
    clear hi hz0 hz1 hz2 hu hv hz h2 h1 hlt hn hend hub
    go_enter Tryz.func48, Tryz.ntmps48
    go_wp2_with (first
      | (go_at_call 56; (with_reducible refine (comparePoints_any _ _ _ _ _).mono ?_); rintro e w1 ⟨rfl, hbb⟩; have c0 : w1.cell? ⟨w.heap.size, 0, none⟩ = some (.int .i64 (a : Int)) := cl_kept hbb (by simp [go_sem]); have c1 : w1.cell? ⟨w.heap.size, 1, none⟩ = some (.int .i64 (b : Int)) := cl_kept hbb (by simp [go_sem]); have d0 : w1.cell? ⟨w.heap.size + 1, 0, none⟩ = some (.int .i64 (c : Int)) := cl_kept hbb (by simp [go_sem]); have d1 : w1.cell? ⟨w.heap.size + 1, 1, none⟩ = some (.int .i64 (d : Int)) := cl_kept hbb (by simp [go_sem]); have f0 : w1.frozen? ⟨w.heap.size, 0, none⟩ = false := (hbb.frozen (p := ⟨w.heap.size, 0, none⟩) (by simp; omega)).trans (by simp [go_sem]); have f1 : w1.frozen? ⟨w.heap.size, 1, none⟩ = false := (hbb.frozen (p := ⟨w.heap.size, 1, none⟩) (by simp; omega)).trans (by simp [go_sem]); have f2 : w1.frozen? ⟨w.heap.size + 1, 0, none⟩ = false := (hbb.frozen (p := ⟨w.heap.size + 1, 0, none⟩) (by simp)).trans (by simp [go_sem]); have f3 : w1.frozen? ⟨w.heap.size + 1, 1, none⟩ = false := (hbb.frozen (p := ⟨w.heap.size + 1, 1, none⟩) (by simp)).trans (by simp [go_sem]); have HB1 : Hid (Below w.heap.size w w1) := bl_via (bl_alloc (bl_alloc (bl_refl _))) hbb; clear hbb)
      | (go_at_call 72; (with_reducible refine (C72.out _).mono ?_); rintro e w2 ⟨rfl, hbb⟩; have k0 : w2.cell? ⟨w.heap.size, 0, none⟩ = some (.int .i64 (c : Int)) := cl_kept hbb (by simp [go_sem, c0]); have k1 : w2.cell? ⟨w.heap.size, 1, none⟩ = some (.int .i64 (d : Int)) := cl_kept hbb (by simp [go_sem, c1]); have m0 : w2.cell? ⟨w.heap.size + 1, 0, none⟩ = some (.int .i64 (a : Int)) := cl_kept hbb (by simp [go_sem, d0]); have m1 : w2.cell? ⟨w.heap.size + 1, 1, none⟩ = some (.int .i64 (b : Int)) := cl_kept hbb (by simp [go_sem, d1]); have y9 : w.heap.size < w1.heap.size := World.block_lt_of_cell? _ _ c0; have l0 : w2.frozen? ⟨w.heap.size, 0, none⟩ = false := (hbb.frozen (p := ⟨w.heap.size, 0, none⟩) (by simpa using y9)).trans (by simp [go_sem, f0]); have l1 : w2.frozen? ⟨w.heap.size, 1, none⟩ = false := (hbb.frozen (p := ⟨w.heap.size, 1, none⟩) (by simpa using y9)).trans (by simp [go_sem, f1]); have z1 : w.heap.size + 1 < w2.heap.size := World.block_lt_of_cell? _ _ m0; have HB2 : Hid (Below w.heap.size w w2) := bl_via (bl_set (bl_set (bl_set (bl_set HB1.out (by dsimp only; omega)) (by dsimp only; omega)) (by dsimp only; omega)) (by dsimp only; omega)) hbb; clear hbb y9)
      | fail)
    clear c0 c1 d0 d1 f0 f1 f2 f3 C72 hs0
    go_loopg [6] n (fun g s6 wx => ∃ (k : Nat) (p1 p2 : Int), k ≤ n ∧ n - k = g ∧ p1 = c + k * u ∧ p2 = d + k * v ∧ BT w wx w2.heap.size p1 p2 a b u v s6 (bt k c d u v))
    case atStart =>
      refine ⟨0, c, d, by omega, rfl, by simp, by simp, ?_⟩
      exact { own := by simpa [bt, flE] using World.ownsRow_nil _ _ _ _, c0 := cl_kept (bl_alloc (bl_refl _)) k0, c1 := cl_kept (bl_alloc (bl_refl _)) k1, d0 := cl_kept (bl_alloc (bl_refl _)) m0, d1 := cl_kept (bl_alloc (bl_refl _)) m1, e0 := by simp [go_sem], e1 := by simp [go_sem], f0 := ((bl_alloc (bl_refl _)).frozen (p := ⟨w.heap.size, 0, none⟩) (World.block_lt_of_cell? _ _ k0)).trans l0, f1 := ((bl_alloc (bl_refl _)).frozen (p := ⟨w.heap.size, 1, none⟩) (World.block_lt_of_cell? _ _ k1)).trans l1, b := bl_alloc HB2.out, g := z1, s := by simp }
    case round =>
      obtain ⟨k, p1, p2, hk, rfl, hp1, hp2, hT⟩ := hrel
      obtain ⟨va, hva⟩ : ∃ x, x = u6 := ⟨_, rfl⟩
      subst hva
      have HT : Hid (BT w wr w2.heap.size p1 p2 a b u v va (bt k c d u v)) := hT
      have HP : Hid (p1 = c + k * u ∧ p2 = d + k * v) := ⟨hp1, hp2⟩
      clear hT k0 k1 m0 m1 l0 l1
      have q0 := HT.out.c0
      have q1 := HT.out.c1
      have r0 := HT.out.d0
      have r1 := HT.out.d1
      have t0 := HT.out.e0
      have t1 := HT.out.e1
      have f0 := HT.out.f0
      have f1 := HT.out.f1
      have y0 : w.heap.size < wr.heap.size := World.block_lt_of_cell? _ _ q0
      have y1 : w.heap.size + 1 < wr.heap.size := World.block_lt_of_cell? _ _ r0
      have y2 : w2.heap.size < wr.heap.size := World.block_lt_of_cell? _ _ t0
      by_cases hkn : k < n
      · have hsp : sameP p1 p2 a b = false := by
          unfold sameP
          rw [decide_eq_false_iff_not]
          rintro ⟨e1, e2⟩
          have h3 := HEND.out
          exact absurd (k_end (k := k) (n := n) h3.2.2 (by omega) (by omega)) (by omega)
        have bu := mulk_bd k u (by omega) HUB.out.1 HUB.out.2.1
        have bv := mulk_bd k v (by omega) HUB.out.2.2.1 HUB.out.2.2.2
        have ub := HUB.out
        have wA : IntKind.i64.wrap (p1 + u) = p1 + u := by rw [IntKind.wrap_i64]; omega
        have wB : IntKind.i64.wrap (p2 + v) = p2 + v := by rw [IntKind.wrap_i64]; omega
        clear hp1 hp2 bu bv ub
        go_wp2_with (at_builtin; refine wpList_append_own _ rfl (.tmp 34) (.tmp 38) 69 rfl (w2.heap.size + 1) 53 i0 (.agg #[.int .i64 0, .int .i64 0, .int .i64 0, .int .i64 0]) 4 32 Tryz.underlying69 HI.out.1 HI.out.2.1 HI.out.2.2.1 HI.out.2.2.2 rfl (by decide) va (bt k c d u v).length (flE (bt k c d u v)) rfl (own_below HT.out.own (bl_alloc (bl_alloc (bl_refl _)))) ⟨wr.heap.size + 1, 0, none⟩ 1 1 [.int .i64 p1, .int .i64 p2, .int .i64 (p1 + u), .int .i64 (p2 + v)] rfl rfl (four_new _ _ _ _ _ _ (by simp)) (four_one _ _ _ _) (by rw [bt_length]; unfold maxLen; omega) (by rw [bt_length]; omega) (by simp; omega) ?gA)
        case gA =>
          intro v' w3 ho hg _
          have hob : ∀ gg, va.ownBlock = some gg → w2.heap.size + 1 ≤ gg ∧ gg < wr.heap.size := fun gg h => HT.out.own.lt gg h
          have hb2 : Below wr.heap.size wr ((wr.alloc (.cells #[.int .i64 (p1 + u), .int .i64 (p2 + v)] 51)).alloc (.cells #[.int .i64 p1, .int .i64 p2, .int .i64 (p1 + u), .int .i64 (p2 + v)] 53)) := bl_alloc (bl_alloc (bl_refl _))
          have ne0 : some w.heap.size ≠ va.ownBlock := fun h => by have := hob _ h.symm; have := HT.out.g; omega
          have ne1 : some (w.heap.size + 1) ≠ va.ownBlock := fun h => by have := hob _ h.symm; have := HT.out.g; omega
          have ne5 : some w2.heap.size ≠ va.ownBlock := fun h => by have := hob _ h.symm; omega
          have ne7 : some wr.heap.size ≠ va.ownBlock := fun h => by have := hob _ h.symm; omega
          have a0 := grown_co hg ne0 (cl_kept hb2 q0)
          have a1 := grown_co hg ne0 (cl_kept hb2 q1)
          have a2 := grown_co hg ne1 (cl_kept hb2 r0)
          have a3 := grown_co hg ne1 (cl_kept hb2 r1)
          have a4 := grown_co hg ne5 (cl_kept hb2 t0)
          have a5 := grown_co hg ne5 (cl_kept hb2 t1)
          have a6 : w3.cell? ⟨wr.heap.size, 0, none⟩ = some (.int .i64 (p1 + u)) := grown_co hg ne7 (by simp [go_sem])
          have a7 : w3.cell? ⟨wr.heap.size, 1, none⟩ = some (.int .i64 (p2 + v)) := grown_co hg ne7 (by simp [go_sem])
          have g0 : w3.frozen? ⟨w.heap.size, 0, none⟩ = false := grown_fo hg ne0 (by simp; omega) ((hb2.frozen (p := ⟨w.heap.size, 0, none⟩) y0).trans f0)
          have g1 : w3.frozen? ⟨w.heap.size, 1, none⟩ = false := grown_fo hg ne0 (by simp; omega) ((hb2.frozen (p := ⟨w.heap.size, 1, none⟩) y0).trans f1)
          have hsz := hg.size
          simp at hsz
          have HO : Hid (w3.ownsRow (w2.heap.size + 1) 53 4 v' (bt (k + 1) c d u v).length (flE (bt (k + 1) c d u v))) := by
            show w3.ownsRow (w2.heap.size + 1) 53 4 v' (bt (k + 1) c d u v).length (flE (bt (k + 1) c d u v))
            rw [bt_snoc, flE_add, List.length_append, ← HP.out.1, ← HP.out.2, show (c : Int) + (k + 1) * u = p1 + u by rw [HP.out.1, Int.add_mul]; omega, show (d : Int) + (k + 1) * v = p2 + v by rw [HP.out.2, Int.add_mul]; omega]
            exact ho
          have HBW : Hid (Below w.heap.size w w3) := (bl_via HT.out.b hb2).grown hg (bl_via HT.out.b hb2).size (fun gg h => by have := hob _ h; have := HT.out.g; omega)
          have hzz : ¬ w.heap.size = wr.heap.size := by omega
          clear ho hg hb2 q0 q1 r0 r1 t0 t1 f0 f1
          go_wp2
          go_roundg (n - (k + 1))
          case measure => omega
          case rel =>
            refine ⟨k + 1, p1 + u, p2 + v, by omega, rfl, by rw [HP.out.1]; push_cast; rw [Int.add_mul]; omega, by rw [HP.out.2]; push_cast; rw [Int.add_mul]; omega, ?_⟩
            have hgs : w3.grownBy ((w3.setCell ⟨w.heap.size, 0, none⟩ (.int .i64 (p1 + u))).setCell ⟨w.heap.size, 1, none⟩ (.int .i64 (p2 + v))) (some w.heap.size) := gb_then (grown_cell _ w.heap.size 0 _) (grown_cell _ w.heap.size 1 _)
            exact { own := HO.out.kept hgs (by
                      cases hu : v'.ownBlock with
                      | none => exact Or.inl rfl
                      | some gg => exact Or.inr (fun e => by have := (HO.out.lt gg hu).1; simp at e; have := HT.out.g; omega)), c0 := by simp [go_sem, a0], c1 := by simp [go_sem, a1], d0 := by simp [go_sem, a2], d1 := by simp [go_sem, a3], e0 := by have := HT.out.g; exact grown_co hgs (by simp; omega) a4, e1 := by have := HT.out.g; exact grown_co hgs (by simp; omega) a5, f0 := by simp [go_sem, g0], f1 := by simp [go_sem, g1], b := bl_set (bl_set HBW.out (Nat.le_refl _)) (Nat.le_refl _), g := HT.out.g, s := by simp; omega }
      · obtain rfl : k = n := by omega
        have hsp : sameP p1 p2 a b = true := by
          unfold sameP
          rw [decide_eq_true_eq]
          have h3 := HEND.out
          omega
        clear hp1 hp2
        go_wp2
        go_ret
        exact ⟨va, rfl, w2.heap.size + 1, by rw [HE.out]; exact HT.out.own, by have := HT.out.g; omega, HT.out.b⟩
theorem between_any (a b c d : Nat) (w : World) (ha : a < 1000) (hb : b < 1000) (hc : c < 1000) (hd : d < 1000) (h1 : a % 2 = b % 2) (h2 : c % 2 = d % 2) :
    Calls Tryz.prog 48 #[.agg #[.int .i64 (a : Int), .int .i64 (b : Int)], .agg #[.int .i64 (c : Int), .int .i64 (d : Int)]] w fun e w' => ∃ sl, e = .returned sl ∧ BtTo w w' sl (egs a b c d) := by
  cases hlt : ltPt (c : Int) (d : Int) (a : Int) (b : Int) with
  | true =>
    have := between_dn a b c d w ha hb hc hd h1 h2 hlt
    unfold egs
    rw [hlt, if_pos rfl]
    exact this
  | false =>
    have := between_up a b c d w ha hb hc hd h1 h2 hlt
    unfold egs
    rw [hlt, if_neg (by decide)]
    exact this
end Go.Proofs.YtehmoacggikfmaaGreatDoor
