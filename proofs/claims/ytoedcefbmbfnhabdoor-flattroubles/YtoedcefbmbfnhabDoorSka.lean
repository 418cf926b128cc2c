/- A crease is drawn at a point; is paper all around? Stars: paper all around a point, and the creases that go out from it: the mathematics. What lies around a point as a star: its directions and their kinds. The map of points, with the kinds of the creases that go out from each. Stars in memory, while they are gathered. -/
import Derived.Test.YtoedcefbmbfnhabDoorFill
import Derived.Test.YtoedcefbmbfnhabDoorHolm
import Derived.Test.YtoedcefbmbfnhabDoorPkan
import Derived.Test.YtoedcefbmbfnhabDoorPkaj
import Derived.Maps.AppendAt
import Derived.Test.YtoedcefbmbfnhabDoorPntf
import Derived.Maps.RangeRun
import Derived.Maps.RangeWalk
namespace Go.Proofs.YtoedcefbmbfnhabDoor
open Go.RowKit

/-- A kind is put at a direction. -/
def putK (k : Nat → Int) (D : Nat) (v : Int) : Nat → Int := fun d => if d = D then v else k d
theorem AB.setK {w : World} {B : Nat} {b : Nat → Bool} {k : Nat → Int} (h : AB w B b k) {e : Nat} (he : e < 8) (v : Int) : AB (w.setCell ⟨B, e * 2 + 1, none⟩ (.int .i64 v)) B b (putK k e v) := fun d hd => by
  obtain ⟨h0, h1, h2, h3⟩ := h d hd
  refine ⟨?_, ?_, by rw [World.frozen?_setCell]; exact h2, by rw [World.frozen?_setCell]; exact h3⟩
  · rw [World.cell?_setCell_other _ _ _ _ (by simp <;> omega)]
    exact h0
  · unfold putK
    by_cases c : d = e
    · subst c
      rw [World.cell?_setCell_same _ _ _ h1]
      simp
    · rw [World.cell?_setCell_other _ _ _ _ (by simp <;> omega), h1, if_neg c]
set_option maxRecDepth 100000 in
set_option maxHeartbeats 1600000 in
theorem creased_any (b : Nat → Bool) (k : Nat → Int) (D : Nat) (hD : D < 8) (v : Int) (w : World) :
    Calls Tryd.prog 60 #[arv b k, .int .i64 (D : Int), .int .i64 v] w fun e w' => e = .returned (arv b (putK k D v)) ∧ Below w.heap.size w w' := by
  unfold arv
  have HN : Hid (AB (w.alloc (.cells #[.bool (b 0), .int .i64 (k 0), .bool (b 1), .int .i64 (k 1), .bool (b 2), .int .i64 (k 2), .bool (b 3), .int .i64 (k 3), .bool (b 4), .int .i64 (k 4), .bool (b 5), .int .i64 (k 5), .bool (b 6), .int .i64 (k 6), .bool (b 7), .int .i64 (k 7)] 112)) w.heap.size b k) := AB.new w b k
  obtain ⟨kk, hkk⟩ : ∃ f, f = putK k D v := ⟨_, rfl⟩
  have HK : Hid (kk = putK k D v) := hkk
  rw [← hkk]
  clear hkk
  have i1 : (D : Int) < 8 := by omega
  have i0 : (0 : Int) ≤ (D : Int) := by omega
  go_enter Tryd.func60, Tryd.ntmps60
  go_upto_region 1 with (fail)
  refine wp_named (fun W1 hW1 => ?_)
  have HS : Hid (AB W1 w.heap.size b k ∧ AB W1 (w.heap.size + 1) (fun _ => false) (fun _ => 0) ∧ Below w.heap.size w W1) := by
    have hz : (w.alloc (.cells #[.bool (b 0), .int .i64 (k 0), .bool (b 1), .int .i64 (k 1), .bool (b 2), .int .i64 (k 2), .bool (b 3), .int .i64 (k 3), .bool (b 4), .int .i64 (k 4), .bool (b 5), .int .i64 (k 5), .bool (b 6), .int .i64 (k 6), .bool (b 7), .int .i64 (k 7)] 112)).heap.size = w.heap.size + 1 := by simp
    have h2 := AB.new (w.alloc (.cells #[.bool (b 0), .int .i64 (k 0), .bool (b 1), .int .i64 (k 1), .bool (b 2), .int .i64 (k 2), .bool (b 3), .int .i64 (k 3), .bool (b 4), .int .i64 (k 4), .bool (b 5), .int .i64 (k 5), .bool (b 6), .int .i64 (k 6), .bool (b 7), .int .i64 (k 7)] 112)) (fun _ => false) (fun _ => 0)
    rw [hz] at h2
    have : AB W1 w.heap.size b k ∧ AB W1 (w.heap.size + 1) (fun _ => false) (fun _ => 0) ∧ Below w.heap.size w W1 := by
      rw [hW1]
      exact ⟨HN.out.kept (bl_alloc (bl_refl _)), h2, bl_alloc (bl_alloc (bl_refl _))⟩
    exact this
  clear HN hW1
  obtain ⟨_, c1, _, f1⟩ := HS.out.1 D hD
  have z0 : w.heap.size < W1.heap.size := World.block_lt_of_cell? _ _ c1
  go_cut [7, 8] (fun s7 s8 wx => AB wx w.heap.size b kk ∧ AB wx (w.heap.size + 1) (fun _ => false) (fun _ => 0) ∧ Below w.heap.size w wx)
  case first =>
    go_wp2
    go_meet
    case rel =>
      rw [HK.out]
      exact ⟨HS.out.1.setK hD v, HS.out.2.1.far (by simp), bl_set HS.out.2.2 (Nat.le_refl _)⟩
  case rest =>
    obtain ⟨hA, hR, hB⟩ := hcut
    have HB : Hid (Below w.heap.size w wc) := hB
    clear HS c1 f1 z0 hB
    obtain ⟨c0, c1, _, _⟩ := hA 0 (by omega)
    obtain ⟨c2, c3, _, _⟩ := hA 1 (by omega)
    obtain ⟨c4, c5, _, _⟩ := hA 2 (by omega)
    obtain ⟨c6, c7, _, _⟩ := hA 3 (by omega)
    obtain ⟨c8, c9, _, _⟩ := hA 4 (by omega)
    obtain ⟨c10, c11, _, _⟩ := hA 5 (by omega)
    obtain ⟨c12, c13, _, _⟩ := hA 6 (by omega)
    obtain ⟨c14, c15, _, _⟩ := hA 7 (by omega)
    obtain ⟨r0, r1, f0, f1⟩ := hR 0 (by omega)
    obtain ⟨r2, r3, f2, f3⟩ := hR 1 (by omega)
    obtain ⟨r4, r5, f4, f5⟩ := hR 2 (by omega)
    obtain ⟨r6, r7, f6, f7⟩ := hR 3 (by omega)
    obtain ⟨r8, r9, f8, f9⟩ := hR 4 (by omega)
    obtain ⟨r10, r11, f10, f11⟩ := hR 5 (by omega)
    obtain ⟨r12, r13, f12, f13⟩ := hR 6 (by omega)
    obtain ⟨r14, r15, f14, f15⟩ := hR 7 (by omega)
    simp only [Nat.zero_mul, Nat.zero_add, Nat.one_mul, Nat.reduceMul, Nat.reduceAdd] at c0 r0 f0 c1 r1 f1 c2 r2 f2 c3 r3 f3 c4 r4 f4 c5 r5 f5 c6 r6 f6 c7 r7 f7 c8 r8 f8 c9 r9 f9 c10 r10 f10 c11 r11 f11 c12 r12 f12 c13 r13 f13 c14 r14 f14 c15 r15 f15
    have z0 : w.heap.size < wc.heap.size := World.block_lt_of_cell? _ _ c0
    have z1 : w.heap.size + 1 < wc.heap.size := World.block_lt_of_cell? _ _ r0
    clear hA hR
    go_wp2
    refine bodyPost_ret (v := .agg #[.bool (b 0), .int .i64 (kk 0), .bool (b 1), .int .i64 (kk 1), .bool (b 2), .int .i64 (kk 2), .bool (b 3), .int .i64 (kk 3), .bool (b 4), .int .i64 (kk 4), .bool (b 5), .int .i64 (kk 5), .bool (b 6), .int .i64 (kk 6), .bool (b 7), .int .i64 (kk 7)]) (by simp [results, Tryd.results60, go_sem, r0, r1, r2, r3, r4, r5, r6, r7, r8, r9, r10, r11, r12, r13, r14, r15]) rfl ⟨rfl, ?_⟩
    with_reducible repeat (first | exact HB.out | refine bl_set ?_ ?_)
    all_goals (dsimp only; omega)
set_option maxRecDepth 100000 in
set_option maxHeartbeats 1600000 in
theorem within_any (b : Nat → Bool) (k : Nat → Int) (w : World) :
    Calls Tryd.prog 62 #[arv b k] w fun e w' => e = .returned (.bool ((List.range 8).all b)) ∧ Below w.heap.size w w' := by
  obtain ⟨rv, hrv⟩ : ∃ r, r = (List.range 8).all b := ⟨_, rfl⟩
  have HR : Hid (rv = (List.range 8).all b) := hrv
  rw [← hrv]
  clear hrv
  have hx : ∀ (W : World) (i : Nat), i < 8 → (Instr.index 112 (arv b k) (.int .i64 (i : Int))).run Tryd.prog W = .ok (.agg #[.bool (b i), .int .i64 (k i)]) W := fun W i hi => by
    rcases eight hi with rfl | rfl | rfl | rfl | rfl | rfl | rfl | rfl <;> kernel_rfl
  have HX : Hid (∀ (W : World) (i : Nat), i < 8 → (Instr.index 112 (arv b k) (.int .i64 (i : Int))).run Tryd.prog W = .ok (.agg #[.bool (b i), .int .i64 (k i)]) W) := hx
  clear hx
  unfold arv at HX ⊢
  go_enter Tryd.func62, Tryd.ntmps62
  go_wp2
  go_loopg [6] 8 (fun gk s6 wx => ∃ i : Nat, i ≤ 8 ∧ gk = 8 - i ∧ s6 = .int .i64 (i : Int) ∧ Below w.heap.size w wx ∧ ∀ d, d < i → b d = true)
  case atStart => exact ⟨0, by omega, rfl, rfl, bl_alloc (bl_refl _), fun d hd => by omega⟩
  case round =>
    obtain ⟨i, hi, rfl, rfl, hB, hall⟩ := hrel
    have HB : Hid (Below w.heap.size w wr ∧ ∀ d, d < i → b d = true) := ⟨hB, hall⟩
    clear hB hall
    by_cases h1 : i < 8
    · have i1 : (i : Int) < 8 := by omega
      have i0 : (0 : Int) ≤ (i : Int) := by omega
      have hx1 := fun W => HX.out W i h1
      obtain ⟨bi, hbi⟩ : ∃ x, x = b i := ⟨_, rfl⟩
      have HBI : Hid (bi = b i) := hbi
      rw [← hbi] at hx1
      clear hbi
      cases bi
      · go_wp2
        go_ret
        refine ⟨ret_bool ?_, by with_reducible repeat' (first | exact HB.out.1 | refine bl_alloc ?_)⟩
        rw [HR.out]
        symm
        rw [List.all_eq_false]
        exact ⟨i, List.mem_range.2 h1, by rw [← HBI.out]; simp⟩
      · go_wp2
        go_roundg (8 - (i + 1))
        case measure => omega
        case rel =>
          refine ⟨i + 1, by omega, rfl, by go_num, by with_reducible repeat' (first | exact HB.out.1 | refine bl_alloc ?_), fun d hd => ?_⟩
          by_cases hd2 : d < i
          · exact HB.out.2 d hd2
          · have : d = i := by omega
            rw [this]
            exact HBI.out.symm
    · have i1 : ¬ (i : Int) < 8 := by omega
      obtain rfl : i = 8 := by omega
      go_wp2
      go_ret
      refine ⟨ret_bool ?_, HB.out.1⟩
      rw [HR.out]
      symm
      rw [List.all_eq_true]
      exact fun d hd => HB.out.2 d (List.mem_range.1 hd)
end Go.Proofs.YtoedcefbmbfnhabDoor
namespace Go.Proofs.YtoedcefbmbfnhabDoor
open Go.RowKit Go.ChangeMaps

/-- The triangle at a point, in an eighth of the turn. -/
def tA (pt : Int × Int) (d : Nat) : Int × Int × Int :=
  if pt.1 % 2 = 1 then ((pt.1 - 1) / 2, (pt.2 - 1) / 2, ((((d + 3) % 8 / 2 : Nat)) : Int))
  else if d % 2 = 0 then ((pt.1 - stX ((d / 2 : Nat) : Int) - 1) / 2, (pt.2 - stY ((d / 2 : Nat) : Int) - 1) / 2, ((d / 2 : Nat) : Int))
  else ((pt.1 - stX ((((d + 5) % 8 / 2 + 1) % 4 : Nat) : Int) - 1) / 2, (pt.2 - stY ((((d + 5) % 8 / 2 + 1) % 4 : Nat) : Int) - 1) / 2, (((d + 5) % 8 / 2 : Nat) : Int))
/-- Points of the grid. -/
def Gp (pt : Int × Int) : Prop := pt.1 % 2 = pt.2 % 2
theorem cnr_gp {t : Int × Int × Int} {pt : Int × Int} (hk : Kd t) (h : pt ∈ cnr t) : Gp pt := by
  obtain ⟨x, y, k⟩ := t
  obtain ⟨h0, h3⟩ := hk
  simp only at h0 h3
  have h4 : k = 0 ∨ k = 1 ∨ k = 2 ∨ k = 3 := by omega
  simp only [cnr, List.mem_cons, List.not_mem_nil, or_false] at h
  unfold Gp
  rcases h with rfl | rfl | rfl <;> rcases h4 with rfl | rfl | rfl | rfl <;> simp [c1x, c1y, c2x, c2y, stX, stY] <;> omega
theorem fills_iff {t : Int × Int × Int} {pt : Int × Int} {d : Nat} (hk : Kd t) (hg : Gp pt) (hd : d < 8) : bitsOf (tps t) pt d = true ↔ t = tA pt d := by
  obtain ⟨x, y, k⟩ := t
  obtain ⟨p, q⟩ := pt
  obtain ⟨h0, h3⟩ := hk
  simp only at h0 h3
  unfold Gp at hg
  simp only at hg
  have h4 : k = 0 ∨ k = 1 ∨ k = 2 ∨ k = 3 := by omega
  rcases h4 with rfl | rfl | rfl | rfl <;> rcases eight hd with rfl | rfl | rfl | rfl | rfl | rfl | rfl | rfl <;>
    simp [bitsOf, tps, fillJ, tA, c1x, c1y, c2x, c2y, stX, stY, Prod.ext_iff] <;> (try split) <;> (try simp) <;> omega
theorem corner_iff {t : Int × Int × Int} {pt : Int × Int} (hk : Kd t) : pt ∈ cnr t ↔ ∃ d, d < 8 ∧ bitsOf (tps t) pt d = true := by
  obtain ⟨x, y, k⟩ := t
  constructor
  · intro h
    simp only [cnr, List.mem_cons, List.not_mem_nil, or_false] at h
    rcases h with rfl | rfl | rfl
    · exact ⟨(5 + 2 * k.toNat) % 8, by omega, by simp [bitsOf, tps, fillJ]⟩
    · exact ⟨(2 * k.toNat) % 8, by omega, by simp [bitsOf, tps, fillJ]⟩
    · exact ⟨(3 + 2 * k.toNat) % 8, by omega, by simp [bitsOf, tps, fillJ]⟩
  · rintro ⟨d, _, h⟩
    simp only [bitsOf, tps, List.any_cons, List.any_nil, Bool.or_false, Bool.or_eq_true, Bool.and_eq_true, decide_eq_true_eq] at h
    simp only [cnr, List.mem_cons, List.not_mem_nil, or_false]
    rcases h with ⟨h, _⟩ | ⟨h, _⟩ | ⟨h, _⟩
    · exact Or.inl h.symm
    · exact Or.inr (Or.inl h.symm)
    · exact Or.inr (Or.inr h.symm)
theorem bits_flat {L : List (Int × Int × Int)} {pt : Int × Int} {d : Nat} : bitsOf (L.flatMap tps) pt d = true ↔ ∃ t ∈ L, bitsOf (tps t) pt d = true := by
  unfold bitsOf
  simp only [List.any_eq_true, List.mem_flatMap]
  constructor
  · rintro ⟨x, ⟨t, ht, hx⟩, h⟩
    exact ⟨t, ht, x, hx, h⟩
  · rintro ⟨t, ht, x, hx, h⟩
    exact ⟨x, ⟨t, ht, hx⟩, h⟩
theorem bits_iff {L : List (Int × Int × Int)} {pt : Int × Int} {d : Nat} (hL : ∀ t ∈ L, Kd t) (hg : Gp pt) (hd : d < 8) : bitsOf (L.flatMap tps) pt d = true ↔ tA pt d ∈ L := by
  rw [bits_flat]
  constructor
  · rintro ⟨t, ht, h⟩
    rw [← (fills_iff (hL t ht) hg hd).1 h]
    exact ht
  · intro h
    exact ⟨_, h, (fills_iff (hL _ h) hg hd).2 rfl⟩
/-- All triangles around a point. -/
def arnd (pt : Int × Int) : List (Int × Int × Int) := if pt.1 % 2 = 0 then (List.range 8).map (tA pt) else [tA pt 5, tA pt 7, tA pt 1, tA pt 3]
theorem arnd_len (pt : Int × Int) : (arnd pt).length = if pt.1 % 2 = 0 then 8 else 4 := by
  unfold arnd
  split <;> rfl
theorem arnd_mem {pt : Int × Int} {t : Int × Int × Int} : t ∈ arnd pt ↔ ∃ d, d < 8 ∧ t = tA pt d := by
  unfold arnd
  split
  · rw [List.mem_map]
    constructor
    · rintro ⟨d, hd, rfl⟩
      exact ⟨d, List.mem_range.1 hd, rfl⟩
    · rintro ⟨d, hd, rfl⟩
      exact ⟨d, List.mem_range.2 hd, rfl⟩
  · rename_i hp
    have hp : pt.1 % 2 = 1 := by omega
    simp only [List.mem_cons, List.not_mem_nil, or_false]
    constructor
    · rintro (rfl | rfl | rfl | rfl)
      · exact ⟨5, by omega, rfl⟩
      · exact ⟨7, by omega, rfl⟩
      · exact ⟨1, by omega, rfl⟩
      · exact ⟨3, by omega, rfl⟩
    · rintro ⟨d, hd, rfl⟩
      rcases eight hd with rfl | rfl | rfl | rfl | rfl | rfl | rfl | rfl <;> simp [tA, hp]
theorem arnd_nodup {pt : Int × Int} : (arnd pt).Nodup := by
  obtain ⟨p, q⟩ := pt
  unfold arnd
  split
  · rename_i hp
    have hp1 : ¬ p % 2 = 1 := by simp at hp; omega
    simp [List.range_succ, tA, hp1, stX, stY]
    omega
  · rename_i hp
    have hp1 : p % 2 = 1 := by simp at hp; omega
    simp [tA, hp1]
/-- Paper all around a point: as many triangles there as there can be. -/
theorem within_iff {L : List (Int × Int × Int)} {pt : Int × Int} (hn : L.Nodup) (hL : ∀ t ∈ L, Kd t) (hg : Gp pt) : (∀ d, d < 8 → bitsOf (L.flatMap tps) pt d = true) ↔ (L.countP fun t => decide (pt ∈ cnr t)) = if pt.1 % 2 = 0 then 8 else 4 := by
  have hc : (L.countP fun t => decide (pt ∈ cnr t)) = ((arnd pt).filter fun t => decide (t ∈ L)).length := by
    rw [List.countP_eq_length_filter]
    refine same_len (hn.filter _) (arnd_nodup.filter _) (fun t => ?_)
    rw [List.mem_filter, List.mem_filter, decide_eq_true_eq, decide_eq_true_eq, arnd_mem]
    constructor
    · rintro ⟨ht, hc⟩
      obtain ⟨d, hd, hb⟩ := (corner_iff (hL t ht)).1 hc
      exact ⟨⟨d, hd, (fills_iff (hL t ht) hg hd).1 hb⟩, ht⟩
    · rintro ⟨⟨d, hd, e⟩, ht⟩
      exact ⟨ht, (corner_iff (hL t ht)).2 ⟨d, hd, (fills_iff (hL t ht) hg hd).2 e⟩⟩
  rw [hc, ← arnd_len, List.length_filter_eq_length_iff]
  constructor
  · intro h t ht
    obtain ⟨d, hd, rfl⟩ := arnd_mem.1 ht
    rw [decide_eq_true_eq]
    exact (bits_iff hL hg hd).1 (h d hd)
  · intro h d hd
    rw [bits_iff hL hg hd]
    have := h (tA pt d) (arnd_mem.2 ⟨d, hd, rfl⟩)
    rwa [decide_eq_true_eq] at this
/-- From a point in a direction: the other end of the edge. -/
def tw (pt : Int × Int) (d : Nat) : Int × Int := (pt.1 + (if d % 2 = 1 then 1 else 2) * dX d, pt.2 + (if d % 2 = 1 then 1 else 2) * dY d)
theorem tw_inj {pt : Int × Int} {d e : Nat} (hd : d < 8) (he : e < 8) (h : tw pt d = tw pt e) : d = e := by
  obtain ⟨p, q⟩ := pt
  simp only [tw, Prod.mk.injEq] at h
  rcases eight hd with rfl | rfl | rfl | rfl | rfl | rfl | rfl | rfl <;> rcases eight he with rfl | rfl | rfl | rfl | rfl | rfl | rfl | rfl <;> simp [dX, dY] at h <;> first | rfl | omega
/-- The direction from one point to another. -/
def dnum (p q r s : Int) : Nat := if p < r then (if q < s then 1 else if s < q then 7 else 0) else if r < p then (if q < s then 3 else if s < q then 5 else 4) else if q < s then 2 else 6
theorem dnum_lt (p q r s : Int) : dnum p q r s < 8 := by
  unfold dnum
  repeat' split
  all_goals omega
theorem dnum_cmp {p q r s : Int} (h : ¬ (p = r ∧ q = s)) : cmp3 r p = dX (dnum p q r s) ∧ cmp3 s q = dY (dnum p q r s) := by
  unfold dnum cmp3
  repeat' split
  all_goals first | (simp [dX, dY]; done) | omega
/-- The edge between a point and the one in a direction. -/
def eP (pt : Int × Int) (d : Nat) : Int × Int × Int × Int := (eA pt.1 pt.2 (tw pt d).1 (tw pt d).2, eB pt.1 pt.2 (tw pt d).1 (tw pt d).2, eC pt.1 pt.2 (tw pt d).1 (tw pt d).2, eD pt.1 pt.2 (tw pt d).1 (tw pt d).2)
/-- An edge of the grid: from its first end in a direction to its second. -/
def GE (e : Int × Int × Int × Int) : Prop := lessB e.1 e.2.1 e.2.2.1 e.2.2.2 = true ∧ tw (e.1, e.2.1) (dnum e.1 e.2.1 e.2.2.1 e.2.2.2) = (e.2.2.1, e.2.2.2) ∧ tw (e.2.2.1, e.2.2.2) (dnum e.2.2.1 e.2.2.2 e.1 e.2.1) = (e.1, e.2.1)
theorem eP_iff {e : Int × Int × Int × Int} {pt : Int × Int} {d : Nat} (hd : d < 8) (h : GE e) : eP pt d = e ↔ (pt = (e.1, e.2.1) ∧ d = dnum e.1 e.2.1 e.2.2.1 e.2.2.2) ∨ (pt = (e.2.2.1, e.2.2.2) ∧ d = dnum e.2.2.1 e.2.2.2 e.1 e.2.1) := by
  obtain ⟨p, q, r, s⟩ := e
  obtain ⟨h1, h2, h3⟩ := h
  simp only at h1 h2 h3
  have hl : p < r ∨ (p = r ∧ q < s) := by simpa [lessB] using h1
  constructor
  · intro he
    unfold eP eA eB eC eD at he
    by_cases c : lessB (tw pt d).1 (tw pt d).2 pt.1 pt.2 = true
    · simp only [c, if_true, Prod.mk.injEq] at he
      have hp : pt = (r, s) := Prod.ext he.2.2.1 he.2.2.2
      have ht : tw pt d = (p, q) := Prod.ext he.1 he.2.1
      refine Or.inr ⟨hp, ?_⟩
      rw [hp] at ht
      exact tw_inj hd (dnum_lt _ _ _ _) (ht.trans h3.symm)
    · simp only [c, Bool.false_eq_true, if_false, Prod.mk.injEq] at he
      have hp : pt = (p, q) := Prod.ext he.1 he.2.1
      have ht : tw pt d = (r, s) := Prod.ext he.2.2.1 he.2.2.2
      refine Or.inl ⟨hp, ?_⟩
      rw [hp] at ht
      exact tw_inj hd (dnum_lt _ _ _ _) (ht.trans h2.symm)
  · rintro (⟨rfl, rfl⟩ | ⟨rfl, rfl⟩)
    · have c : ¬ lessB r s p q = true := by simp [lessB]; omega
      simp only [eP, h2, eA, eB, eC, eD, c, Bool.false_eq_true, if_false]
    · simp only [eP, h3, eA, eB, eC, eD, h1, if_true]
/-- Kinds of creases at a point, direction by direction, as they are told one after the other. -/
def kc (ks : List Int) : Nat → Int × Int → Nat → Int
  | 0, _, _ => 0
  | i + 1, pt, d => if pt = (ck ks i 2, ck ks i 3) ∧ d = dnum (ck ks i 2) (ck ks i 3) (ck ks i 0) (ck ks i 1) then ck ks i 4 else if pt = (ck ks i 0, ck ks i 1) ∧ d = dnum (ck ks i 0) (ck ks i 1) (ck ks i 2) (ck ks i 3) then ck ks i 4 else kc ks i pt d
theorem kc_kdn {ks : List Int} {n : Nat} (h : ∀ i, i < n → GE (ck ks i 0, ck ks i 1, ck ks i 2, ck ks i 3)) {pt : Int × Int} {d : Nat} (hd : d < 8) : ∀ i, i ≤ n → kc ks i pt d = kdn ks i (eP pt d)
  | 0, _ => rfl
  | i + 1, hi => by
    have ih := kc_kdn h (pt := pt) hd i (by omega)
    have he := eP_iff (pt := pt) hd (h i (by omega))
    unfold kc kdn
    rw [← ih]
    by_cases c : eP pt d = (ck ks i 0, ck ks i 1, ck ks i 2, ck ks i 3)
    · rw [if_pos c]
      rcases he.1 c with e | e
      · split
        · rfl
        · rfl
      · rw [if_pos e]
    · rw [if_neg c, if_neg (fun e => c (he.2 (Or.inr e))), if_neg (fun e => c (he.2 (Or.inl e)))]
/-- The directions of the creases at a point, and their kinds. -/
def sdirs (f : Nat → Int) (m : Nat) : List Int := ((List.range m).filter fun d => decide (f d ≠ 0)).map fun d => ((d : Nat) : Int)
def skinds (f : Nat → Int) (m : Nat) : List Int := ((List.range m).filter fun d => decide (f d ≠ 0)).map f
theorem sdirs_succ (f : Nat → Int) (m : Nat) : sdirs f (m + 1) = if f m ≠ 0 then sdirs f m ++ [(m : Int)] else sdirs f m := by
  unfold sdirs
  rw [List.range_succ, List.filter_append, List.map_append]
  by_cases h : f m = 0 <;> simp [h]
theorem skinds_succ (f : Nat → Int) (m : Nat) : skinds f (m + 1) = if f m ≠ 0 then skinds f m ++ [f m] else skinds f m := by
  unfold skinds
  rw [List.range_succ, List.filter_append, List.map_append]
  by_cases h : f m = 0 <;> simp [h]
theorem sdirs_congr {f g : Nat → Int} (m : Nat) (h : ∀ d, d < m → f d = g d) : sdirs f m = sdirs g m ∧ skinds f m = skinds g m := by
  have : (List.range m).filter (fun d => decide (f d ≠ 0)) = (List.range m).filter (fun d => decide (g d ≠ 0)) := List.filter_congr (fun d hd => by rw [h d (List.mem_range.1 hd)])
  unfold sdirs skinds
  rw [this]
  refine ⟨rfl, List.map_congr_left (fun d hd => h d ?_)⟩
  exact List.mem_range.1 (List.mem_filter.1 hd).1
theorem sdirs_len (f : Nat → Int) (m : Nat) : (sdirs f m).length = (skinds f m).length ∧ (sdirs f m).length ≤ m := by
  unfold sdirs skinds
  rw [List.length_map, List.length_map]
  exact ⟨rfl, by have := List.length_filter_le (fun d => decide (f d ≠ 0)) (List.range m); simpa using this⟩
/-- An edge of a triangle is one of the grid. -/
theorem ge_of {t : Int × Int × Int} {p q r s : Int} (h : hasT t (p, q, r, s) = true) (hk : Kd t) : GE (p, q, r, s) := by
  obtain ⟨x, y, k⟩ := t
  obtain ⟨h0, h3⟩ := hk
  simp only [hasT] at h h0 h3
  rw [hasB_or] at h
  have h4 : k = 0 ∨ k = 1 ∨ k = 2 ∨ k = 3 := by omega
  have key : ((p + 1 = r ∧ q + 1 = s) ∨ (p + 1 = r ∧ q = s + 1)) ∨ ((p = r ∧ q + 2 = s) ∨ (p + 2 = r ∧ q = s)) := by
    rcases h4 with rfl | rfl | rfl | rfl <;> simp only [e0_0, e0_1, e0_2, e0_3, e1_0, e1_1, e1_2, e1_3, e2_0, e2_1, e2_2, e2_3] at h <;> omega
  clear h h4
  unfold GE
  rcases key with (⟨rfl, rfl⟩ | ⟨rfl, rfl⟩) | (⟨rfl, rfl⟩ | ⟨rfl, rfl⟩)
  · have n1 : dnum p q (p + 1) (q + 1) = 1 := by unfold dnum; rw [if_pos (by omega), if_pos (by omega)]
    have n2 : dnum (p + 1) (q + 1) p q = 5 := by unfold dnum; rw [if_neg (by omega), if_pos (by omega), if_neg (by omega), if_pos (by omega)]
    simp only [n1, n2]
    refine ⟨by simp [lessB] <;> omega, by simp [tw, dX, dY], by simp [tw, dX, dY] <;> omega⟩
  · have n1 : dnum p (s + 1) (p + 1) s = 7 := by unfold dnum; rw [if_pos (by omega), if_neg (by omega), if_pos (by omega)]
    have n2 : dnum (p + 1) s p (s + 1) = 3 := by unfold dnum; rw [if_neg (by omega), if_pos (by omega), if_pos (by omega)]
    simp only [n1, n2]
    refine ⟨by simp [lessB] <;> omega, by simp [tw, dX, dY] <;> omega, by simp [tw, dX, dY] <;> omega⟩
  · have n1 : dnum p q p (q + 2) = 2 := by unfold dnum; rw [if_neg (by omega), if_neg (by omega), if_pos (by omega)]
    have n2 : dnum p (q + 2) p q = 6 := by unfold dnum; rw [if_neg (by omega), if_neg (by omega), if_neg (by omega)]
    simp only [n1, n2]
    refine ⟨by simp [lessB] <;> omega, by simp [tw, dX, dY], by simp [tw, dX, dY] <;> omega⟩
  · have n1 : dnum p q (p + 2) q = 0 := by unfold dnum; rw [if_pos (by omega), if_neg (by omega), if_neg (by omega)]
    have n2 : dnum (p + 2) q p q = 4 := by unfold dnum; rw [if_neg (by omega), if_pos (by omega), if_neg (by omega), if_neg (by omega)]
    simp only [n1, n2]
    refine ⟨by simp [lessB] <;> omega, by simp [tw, dX, dY], by simp [tw, dX, dY] <;> omega⟩
end Go.Proofs.YtoedcefbmbfnhabDoor
namespace Go.Proofs.YtoedcefbmbfnhabDoor
open Go.RowKit

def rowZ (l : List Int) : List Value := l.map fun z => Value.int .i64 z
theorem rowZ_add (l m : List Int) : rowZ (l ++ m) = rowZ l ++ rowZ m := by simp [rowZ]
/-- Four cells that may be written. -/
def RZ (w : World) (g : Nat) : Prop := ∀ j, j < 4 → (∃ v, w.cell? ⟨g, j, none⟩ = some v) ∧ w.frozen? ⟨g, j, none⟩ = false
theorem RZ.grown {w w' : World} {g : Nat} {row : Option Nat} (h : RZ w g) (hg : w.grownBy w' row) (hne : some g ≠ row) : RZ w' g := fun j hj => by
  obtain ⟨⟨v, hv⟩, hf⟩ := h j hj
  exact ⟨⟨v, hg.cell hv hne⟩, (World.frozen?_of_block (a := ⟨g, j, none⟩) (hg.block g (World.block_lt_of_cell? _ _ hv) hne)).trans hf⟩
/-- A star in memory while its lists grow; the block ahead of it waits for the answer. -/
structure SS (w wx : World) (B : Nat) (px py : Int) (vD vK : Value) (lD lK : List Int) : Prop where
  c0 : wx.cell? ⟨B, 0, none⟩ = some (.int .i64 px)
  c1 : wx.cell? ⟨B, 1, none⟩ = some (.int .i64 py)
  c2 : wx.cell? ⟨B, 2, none⟩ = some vD
  c3 : wx.cell? ⟨B, 3, none⟩ = some vK
  f2 : wx.frozen? ⟨B, 2, none⟩ = false
  f3 : wx.frozen? ⟨B, 3, none⟩ = false
  d : wx.ownsRow (B + 1) 3 1 vD lD.length (rowZ lD)
  k : wx.ownsRow (B + 1) 3 1 vK lK.length (rowZ lK)
  ne : vD.ownBlock = none ∨ vD.ownBlock ≠ vK.ownBlock
  b : Below w.heap.size w wx
  hB : w.heap.size < B
  r : RZ wx (B - 1)
theorem SS.lt {w wx : World} {B : Nat} {px py : Int} {vD vK : Value} {lD lK : List Int} (h : SS w wx B px py vD vK lD lK) : B < wx.heap.size := World.block_lt_of_cell? _ _ h.c0
theorem fr_kept {w wx : World} {a : Addr} {v : Value} (hb : Below w.heap.size w wx) (h : w.cell? a = some v) (hf : w.frozen? a = false) : wx.frozen? a = false := (hb.frozen (p := a) (World.block_lt_of_cell? _ _ h)).trans hf
theorem SS.kept {w wx w' : World} {B : Nat} {px py : Int} {vD vK : Value} {lD lK : List Int} (h : SS w wx B px py vD vK lD lK) (hb : Below wx.heap.size wx w') : SS w w' B px py vD vK lD lK :=
  ⟨cl_kept hb h.c0, cl_kept hb h.c1, cl_kept hb h.c2, cl_kept hb h.c3, fr_kept hb h.c2 h.f2, fr_kept hb h.c3 h.f3, own_below h.d hb, own_below h.k hb, h.ne, bl_via h.b hb, h.hB, h.r.grown (bl_grown hb) (by simp)⟩
theorem fr_grown {w w' : World} {g o : Nat} {v : Value} {row : Option Nat} (hg : w.grownBy w' row) (hne : some g ≠ row) (h : w.cell? ⟨g, o, none⟩ = some v) (hf : w.frozen? ⟨g, o, none⟩ = false) : w'.frozen? ⟨g, o, none⟩ = false :=
  (World.frozen?_of_block (a := ⟨g, o, none⟩) (hg.block g (World.block_lt_of_cell? _ _ h) hne)).trans hf
/-- A direction more. -/
theorem SS.putD {w wx w3 : World} {B : Nat} {px py : Int} {vD vK v' : Value} {lD lK lD' : List Int} (h : SS w wx B px py vD vK lD lK) (hg : wx.grownBy w3 vD.ownBlock) (ho : w3.ownsRow (B + 1) 3 1 v' lD'.length (rowZ lD')) (hv : v'.ownBlock = vD.ownBlock ∨ v'.ownBlock = some wx.heap.size) :
    SS w (w3.setCell ⟨B, 2, none⟩ v') B px py v' vK lD' lK := by
  have hbD : some B ≠ vD.ownBlock := fun e => by
    have := own_base h.d B e.symm
    omega
  have hbn : ∀ {u : Value} {l : List Int} {n : Nat}, w3.ownsRow (B + 1) 3 1 u n (rowZ l) → u.ownBlock = none ∨ u.ownBlock ≠ some B := fun {u l n} hu => by
    cases e : u.ownBlock with
    | none => exact Or.inl rfl
    | some q =>
      refine Or.inr (fun e1 => ?_)
      have := own_base hu q e
      simp at e1
      omega
  have hk3 : w3.ownsRow (B + 1) 3 1 vK lK.length (rowZ lK) := h.k.kept hg (by
    rcases h.ne with e | e
    · rw [e]
      cases e2 : vK.ownBlock with
      | none => exact Or.inl rfl
      | some q => exact Or.inr (by simp)
    · cases e2 : vK.ownBlock with
      | none => exact Or.inl rfl
      | some q => exact Or.inr (fun e3 => e (by rw [e2, e3])))
  refine ⟨?_, ?_, ?_, ?_, ?_, ?_, ?_, ?_, ?_, ?_, h.hB, ?_⟩
  · rw [World.cell?_setCell_other _ _ _ _ (by simp)]
    exact hg.cell h.c0 hbD
  · rw [World.cell?_setCell_other _ _ _ _ (by simp)]
    exact hg.cell h.c1 hbD
  · exact World.cell?_setCell_same _ _ _ (hg.cell h.c2 hbD)
  · rw [World.cell?_setCell_other _ _ _ _ (by simp)]
    exact hg.cell h.c3 hbD
  · rw [World.frozen?_setCell]
    exact fr_grown hg hbD h.c2 h.f2
  · rw [World.frozen?_setCell]
    exact fr_grown hg hbD h.c3 h.f3
  · exact ho.kept (grown_cell _ _ _ _) (hbn ho)
  · exact hk3.kept (grown_cell _ _ _ _) (hbn hk3)
  · rcases hv with e | e
    · rw [e]
      exact h.ne
    · refine Or.inr (fun e2 => ?_)
      rw [e] at e2
      have := (h.k.lt _ e2.symm).2
      omega
  · exact bl_set (h.b.grown hg h.b.size (fun q hq => by have := own_base h.d q hq; have := h.hB; omega)) (Nat.le_of_lt h.hB)
  · refine (h.r.grown hg (fun e => ?_)).grown (grown_cell _ _ _ _) (fun e => ?_)
    · have := own_base h.d _ e.symm
      omega
    · have := h.hB
      simp at e
      omega
/-- A kind more. -/
theorem SS.putK {w wx w3 : World} {B : Nat} {px py : Int} {vD vK v' : Value} {lD lK lK' : List Int} (h : SS w wx B px py vD vK lD lK) (hg : wx.grownBy w3 vK.ownBlock) (ho : w3.ownsRow (B + 1) 3 1 v' lK'.length (rowZ lK')) (hv : v'.ownBlock = vK.ownBlock ∨ v'.ownBlock = some wx.heap.size) :
    SS w (w3.setCell ⟨B, 3, none⟩ v') B px py vD v' lD lK' := by
  have hbD : some B ≠ vK.ownBlock := fun e => by
    have := own_base h.k B e.symm
    omega
  have hbn : ∀ {u : Value} {l : List Int} {n : Nat}, w3.ownsRow (B + 1) 3 1 u n (rowZ l) → u.ownBlock = none ∨ u.ownBlock ≠ some B := fun {u l n} hu => by
    cases e : u.ownBlock with
    | none => exact Or.inl rfl
    | some q =>
      refine Or.inr (fun e1 => ?_)
      have := own_base hu q e
      simp at e1
      omega
  have hd3 : w3.ownsRow (B + 1) 3 1 vD lD.length (rowZ lD) := h.d.kept hg h.ne
  refine ⟨?_, ?_, ?_, ?_, ?_, ?_, ?_, ?_, ?_, ?_, h.hB, ?_⟩
  · rw [World.cell?_setCell_other _ _ _ _ (by simp)]
    exact hg.cell h.c0 hbD
  · rw [World.cell?_setCell_other _ _ _ _ (by simp)]
    exact hg.cell h.c1 hbD
  · rw [World.cell?_setCell_other _ _ _ _ (by simp)]
    exact hg.cell h.c2 hbD
  · exact World.cell?_setCell_same _ _ _ (hg.cell h.c3 hbD)
  · rw [World.frozen?_setCell]
    exact fr_grown hg hbD h.c2 h.f2
  · rw [World.frozen?_setCell]
    exact fr_grown hg hbD h.c3 h.f3
  · exact hd3.kept (grown_cell _ _ _ _) (hbn hd3)
  · exact ho.kept (grown_cell _ _ _ _) (hbn ho)
  · rcases hv with e | e
    · rw [e]
      exact h.ne
    · rw [e]
      cases e2 : vD.ownBlock with
      | none => exact Or.inl rfl
      | some q =>
        refine Or.inr (fun e3 => ?_)
        have := (h.d.lt _ e2).2
        simp at e3
        omega
  · exact bl_set (h.b.grown hg h.b.size (fun q hq => by have := own_base h.k q hq; have := h.hB; omega)) (Nat.le_of_lt h.hB)
  · refine (h.r.grown hg (fun e => ?_)).grown (grown_cell _ _ _ _) (fun e => ?_)
    · have := own_base h.k _ e.symm
      omega
    · have := h.hB
      simp at e
      omega
theorem own_slice {w : World} {base : Nat} {e size : Nat} {v : Value} {n : Nat} {xs : List Value} (h : w.ownsRow base e size v n xs) : ∃ a c, v = .slice a n c := by
  rcases h.2 with ⟨rfl, h0⟩ | ⟨g, cap, cur, rfl, _⟩
  · exact ⟨none, 0, by rw [h0]⟩
  · exact ⟨_, cap, rfl⟩
theorem own_Row {w : World} {base : Nat} {e : Nat} {v : Value} {n : Nat} {l : List Int} (h : w.ownsRow base e 1 v n (rowZ l)) (hn : n = l.length) : ∃ a c, v = .slice a l.length c ∧ Row w a l := by
  subst hn
  rcases h.2 with ⟨rfl, h0⟩ | ⟨g, cap, cur, rfl, _⟩
  · exact ⟨none, 0, by rw [h0], fun i hi => by omega⟩
  · refine ⟨some ⟨g, 0, none⟩, cap, rfl, fun i hi => ⟨g, 0, rfl, ?_⟩⟩
    have := h.cellAt i (by omega)
    simp [rowZ, hi] at this
    simpa using this
theorem own_set {w : World} {base g o : Nat} {e size : Nat} {v u : Value} {n : Nat} {xs : List Value} (h : w.ownsRow base e size v n xs) (hg : g < base) : (w.setCell ⟨g, o, none⟩ u).ownsRow base e size v n xs := by
  refine h.kept (grown_cell _ _ _ _) ?_
  cases e2 : v.ownBlock with
  | none => exact Or.inl rfl
  | some q =>
    refine Or.inr (fun e1 => ?_)
    have := own_base h q e2
    simp at e1
    omega
theorem own_set4 {w : World} {base g : Nat} {e size : Nat} {v u0 u1 u2 u3 : Value} {n : Nat} {xs : List Value} (h : w.ownsRow base e size v n xs) (hg : g < base) : ((((w.setCell ⟨g, 0, none⟩ u0).setCell ⟨g, 1, none⟩ u1).setCell ⟨g, 2, none⟩ u2).setCell ⟨g, 3, none⟩ u3).ownsRow base e size v n xs :=
  own_set (own_set (own_set (own_set h hg) hg) hg) hg
theorem row_of_own {w : World} {base e c : Nat} {a : Option Addr} {l : List Int} (h : w.ownsRow base e 1 (.slice a l.length c) l.length (rowZ l)) : Row w a l := by
  obtain ⟨a0, _, e0, r0⟩ := own_Row h rfl
  simp only [Value.slice.injEq] at e0
  rw [e0.1]
  exact r0
theorem inf3' : (Tryd.prog.info? 3).map (fun i => (i.zero, i.size, i.bytes)) = some (some (.int .i64 0), 1, 8) := by kernel_rfl
theorem ix8 (b : Nat → Bool) (k : Nat → Int) (W : World) (i : Nat) (hi : i < 8) : (Instr.index 112 (arv b k) (.int .i64 (i : Int))).run Tryd.prog W = .ok (.agg #[.bool (b i), .int .i64 (k i)]) W := by
  rcases eight hi with rfl | rfl | rfl | rfl | rfl | rfl | rfl | rfl <;> kernel_rfl
/-- A star with its lists. -/
def StarR (k : Nat → Int) (px py : Int) (w w' : World) (e : Ending) : Prop := ∃ aD cD aK cK, e = .returned (.agg #[.int .i64 px, .int .i64 py, .slice aD (sdirs k 8).length cD, .slice aK (skinds k 8).length cK]) ∧ Row w' aD (sdirs k 8) ∧ Row w' aK (skinds k 8) ∧ Below w.heap.size w w' ∧ (∀ a : Addr, aD = some a → w.heap.size ≤ a.block) ∧ (∀ a : Addr, aK = some a → w.heap.size ≤ a.block)
set_option maxRecDepth 100000 in
set_option maxHeartbeats 1600000 in
theorem star_any (b : Nat → Bool) (k : Nat → Int) (px py : Int) (w : World) :
    Calls Tryd.prog 61 #[arv b k, .agg #[.int .i64 px, .int .i64 py]] w fun e w' => StarR k px py w w' e := by
  obtain ⟨i3, hI⟩ := info_parts inf3'
  have HI : Hid (Tryd.prog.info? 3 = some i3 ∧ i3.zero = some (.int .i64 0) ∧ i3.size = 1 ∧ i3.bytes = 8) := hI
  clear hI
  have HX : Hid (∀ (W : World) (i : Nat), i < 8 → (Instr.index 112 (arv b k) (.int .i64 (i : Int))).run Tryd.prog W = .ok (.agg #[.bool (b i), .int .i64 (k i)]) W) := ix8 b k
  unfold arv at HX ⊢
  go_enter Tryd.func61, Tryd.ntmps61
  go_wp2
  refine wp_named (fun W1 hW1 => ?_)
  obtain ⟨B, hBB⟩ : ∃ B, B = w.heap.size + 1 + 1 + 1 := ⟨_, rfl⟩
  have HB1 : Hid (B - 1 = w.heap.size + 1 + 1) := by
    have : B - 1 = w.heap.size + 1 + 1 := by omega
    exact this
  have HS : Hid (SS w W1 B px py (.slice none 0 0) (.slice none 0 0) (sdirs k 0) (skinds k 0)) := by
    have hz : W1.heap.size = B + 1 := by
      rw [hW1, hBB]
      simp
    have : SS w W1 B px py (.slice none 0 0) (.slice none 0 0) (sdirs k 0) (skinds k 0) := by
      refine ⟨?_, ?_, ?_, ?_, ?_, ?_, ⟨rfl, Or.inl ⟨rfl, rfl⟩⟩, ⟨rfl, Or.inl ⟨rfl, rfl⟩⟩, Or.inl rfl, ?_, by omega, ?_⟩
      · rw [hW1, hBB]; simp [go_sem]
      · rw [hW1, hBB]; simp [go_sem]
      · rw [hW1, hBB]; simp [go_sem]
      · rw [hW1, hBB]; simp [go_sem]
      · rw [hW1, hBB]; simp [go_sem]
      · rw [hW1, hBB]; simp [go_sem]
      · rw [hW1]
        exact bl_alloc (bl_alloc (bl_alloc (bl_alloc (bl_refl _))))
      · intro j hj
        rw [hW1, HB1.out]
        have h4 : j = 0 ∨ j = 1 ∨ j = 2 ∨ j = 3 := by omega
        rcases h4 with rfl | rfl | rfl | rfl <;> exact ⟨by simp [go_sem], by simp [go_sem]⟩
    exact this
  rw [← hBB]
  clear hW1
  have HBB : Hid (B = w.heap.size + 1 + 1 + 1) := hBB
  clear hBB
  go_wp2
  go_loopg [11] 8 (fun gk s11 wx => ∃ (i : Nat) (vD vK : Value), i ≤ 8 ∧ gk = 8 - i ∧ s11 = .int .i64 (i : Int) ∧ SS w wx B px py vD vK (sdirs k i) (skinds k i))
  case atStart => exact ⟨0, _, _, by omega, rfl, rfl, HS.out⟩
  case round =>
    clear HS
    obtain ⟨i, vD, vK, hi, rfl, rfl, hS⟩ := hrel
    obtain ⟨aD, cD, rfl⟩ := own_slice hS.d
    obtain ⟨aK, cK, rfl⟩ := own_slice hS.k
    have HS : Hid (SS w wr B px py (.slice aD (sdirs k i).length cD) (.slice aK (skinds k i).length cK) (sdirs k i) (skinds k i)) := hS
    have zB : B < wr.heap.size := hS.lt
    by_cases h1 : i < 8
    · have i1 : (i : Int) < 8 := by omega
      have i0 : (0 : Int) ≤ (i : Int) := by omega
      have hx1 := fun W => HX.out W i h1
      obtain ⟨ki, hki⟩ : ∃ x, x = k i := ⟨_, rfl⟩
      have HKI : Hid (ki = k i) := hki
      rw [← hki] at hx1
      clear hki
      have hlD := (sdirs_len k i).2
      have hlK : (skinds k i).length ≤ i := by rw [← (sdirs_len k i).1]; exact hlD
      by_cases q : ki = 0
      · have qb : (ki != 0) = false := by simpa using q
        have HQ : Hid (sdirs k (i + 1) = sdirs k i ∧ skinds k (i + 1) = skinds k i) := by
          have e : k i = 0 := HKI.out.symm.trans q
          have : sdirs k (i + 1) = sdirs k i ∧ skinds k (i + 1) = skinds k i := ⟨by rw [sdirs_succ, if_neg (by simp [e])], by rw [skinds_succ, if_neg (by simp [e])]⟩
          exact this
        clear q hS
        go_wp2
        go_roundg (8 - (i + 1))
        case measure => omega
        case rel =>
          refine ⟨i + 1, .slice aD (sdirs k i).length cD, .slice aK (skinds k i).length cK, by omega, rfl, by go_num, ?_⟩
          rw [HQ.out.1, HQ.out.2]
          exact HS.out.kept (by with_reducible repeat' (first | exact bl_refl _ | refine bl_alloc ?_))
      · have qb : (ki != 0) = true := by simpa using q
        have HQ : Hid (sdirs k (i + 1) = sdirs k i ++ [(i : Int)] ∧ skinds k (i + 1) = skinds k i ++ [ki]) := by
          have e : ¬ k i = 0 := fun h => q (HKI.out.trans h)
          have : sdirs k (i + 1) = sdirs k i ++ [(i : Int)] ∧ skinds k (i + 1) = skinds k i ++ [ki] := ⟨by rw [sdirs_succ, if_pos (by simp [e])], by rw [skinds_succ, if_pos (by simp [e]), HKI.out]⟩
          exact this
        clear q
        have c2 := hS.c2
        clear hS
        have HS2 : Hid (SS w ((wr.alloc (.cells #[.bool (b i), .int .i64 ki] 110)).alloc (.cells #[.int .i64 (i : Int)] 3)) B px py (.slice aD (sdirs k i).length cD) (.slice aK (skinds k i).length cK) (sdirs k i) (skinds k i)) := HS.out.kept (bl_alloc (bl_alloc (bl_refl _)))
        have HC7 : Hid (((wr.alloc (.cells #[.bool (b i), .int .i64 ki] 110)).alloc (.cells #[.int .i64 (i : Int)] 3)).cell? ⟨wr.heap.size, 1, none⟩ = some (.int .i64 ki)) := by
          have : ((wr.alloc (.cells #[.bool (b i), .int .i64 ki] 110)).alloc (.cells #[.int .i64 (i : Int)] 3)).cell? ⟨wr.heap.size, 1, none⟩ = some (.int .i64 ki) := by simp [go_sem]
          exact this
        go_wp2_with (at_builtin; refine wpList_append_own_at _ rfl (.tmp 19) (.tmp 21) 22 rfl (B + 1) 3 i3 (.int .i64 0) 1 8 Tryd.underlying22 HI.out.1 HI.out.2.1 HI.out.2.2.1 HI.out.2.2.2 rfl (by decide) (.slice aD (sdirs k i).length cD) (sdirs k i).length (rowZ (sdirs k i)) rfl HS2.out.d ⟨wr.heap.size + 1, 0, none⟩ 1 1 [.int .i64 (i : Int)] rfl rfl (cell_one _ (by simp [go_sem])) (one_cell _) (by unfold maxLen; omega) (by omega) (by simp; omega) ?growA)
        case growA =>
          intro v' w3 hown hgrow _ hblk
          obtain ⟨a', c', rfl⟩ := own_slice hown
          have hbD : some B ≠ (Value.slice aD (sdirs k i).length cD).ownBlock := fun e => by
            have := own_base HS2.out.d B e.symm
            omega
          have c2 := hgrow.cell HS2.out.c2 hbD
          have f2 := fr_grown hgrow hbD HS2.out.c2 HS2.out.f2
          have z3 : B < w3.heap.size := World.block_lt_of_cell? _ _ c2
          have HS4 : Hid (SS w (w3.setCell ⟨B, 2, none⟩ (.slice a' ((sdirs k i).length + 1) c')) B px py (.slice a' ((sdirs k i).length + 1) c') (.slice aK (skinds k i).length cK) (sdirs k (i + 1)) (skinds k i)) := by
            refine HS2.out.putD hgrow ?_ (hblk.imp id (fun e => e.trans (by simp)))
            rw [HQ.out.1, rowZ_add, List.length_append]
            exact hown
          have HC4 : Hid ((w3.setCell ⟨B, 2, none⟩ (.slice a' ((sdirs k i).length + 1) c')).cell? ⟨wr.heap.size, 1, none⟩ = some (.int .i64 ki)) := by
            have hne : some wr.heap.size ≠ (Value.slice aD (sdirs k i).length cD).ownBlock := fun e => by
              have := (HS.out.d.lt _ e.symm).2
              omega
            have : (w3.setCell ⟨B, 2, none⟩ (.slice a' ((sdirs k i).length + 1) c')).cell? ⟨wr.heap.size, 1, none⟩ = some (.int .i64 ki) := by
              rw [World.cell?_setCell_other _ _ _ _ (by simp <;> omega)]
              exact hgrow.cell HC7.out hne
            exact this
          clear hown hgrow hblk HS2 HC7 hbD
          go_upto_region 7 with (fail)
          refine wp_named (fun W4 hW4 => ?_)
          rw [← hW4] at HS4 HC4
          have c3 := HS4.out.c3
          have z4 : B < W4.heap.size := HS4.out.lt
          have c7 := HC4.out
          have z7 : wr.heap.size < W4.heap.size := World.block_lt_of_cell? _ _ c7
          clear hW4 c2 f2 z3 HC4
          have HS5 : Hid (SS w (W4.alloc (.cells #[.int .i64 ki] 3)) B px py (.slice a' ((sdirs k i).length + 1) c') (.slice aK (skinds k i).length cK) (sdirs k (i + 1)) (skinds k i)) := HS4.out.kept (bl_alloc (bl_refl _))
          go_wp2_with (at_builtin; refine wpList_append_own_at _ rfl (.tmp 25) (.tmp 28) 22 rfl (B + 1) 3 i3 (.int .i64 0) 1 8 Tryd.underlying22 HI.out.1 HI.out.2.1 HI.out.2.2.1 HI.out.2.2.2 rfl (by decide) (.slice aK (skinds k i).length cK) (skinds k i).length (rowZ (skinds k i)) rfl HS5.out.k ⟨W4.heap.size, 0, none⟩ 1 1 [.int .i64 ki] rfl rfl (cell_one _ (by simp [go_sem])) (one_cell _) (by unfold maxLen; omega) (by omega) (by simp; omega) ?growB)
          case growB =>
            intro v2 w5 hown2 hgrow2 _ hblk2
            obtain ⟨a2, c2', rfl⟩ := own_slice hown2
            have hbK : some B ≠ (Value.slice aK (skinds k i).length cK).ownBlock := fun e => by
              have := own_base HS5.out.k B e.symm
              omega
            have c3 := hgrow2.cell HS5.out.c3 hbK
            have f3 := fr_grown hgrow2 hbK HS5.out.c3 HS5.out.f3
            have z5 : B < w5.heap.size := World.block_lt_of_cell? _ _ c3
            have HS6 : Hid (SS w (w5.setCell ⟨B, 3, none⟩ (.slice a2 ((skinds k i).length + 1) c2')) B px py (.slice a' ((sdirs k i).length + 1) c') (.slice a2 ((skinds k i).length + 1) c2') (sdirs k (i + 1)) (skinds k (i + 1))) := by
              refine HS5.out.putK hgrow2 ?_ (hblk2.imp id (fun e => e.trans (by simp)))
              rw [HQ.out.2, rowZ_add, List.length_append]
              exact hown2
            clear hown2 hgrow2 hblk2 HS5 hbK
            go_wp2
            go_roundg (8 - (i + 1))
            case measure => omega
            case rel => exact ⟨i + 1, _, _, by omega, rfl, by go_num, HS6.out⟩
    · have i1 : ¬ (i : Int) < 8 := by omega
      obtain rfl : i = 8 := by omega
      obtain ⟨b0, b1, b2, b3⟩ : (∃ v, wr.cell? ⟨B - 1, 0, none⟩ = some v) ∧ (∃ v, wr.cell? ⟨B - 1, 1, none⟩ = some v) ∧ (∃ v, wr.cell? ⟨B - 1, 2, none⟩ = some v) ∧ (∃ v, wr.cell? ⟨B - 1, 3, none⟩ = some v) := ⟨(hS.r 0 (by omega)).1, (hS.r 1 (by omega)).1, (hS.r 2 (by omega)).1, (hS.r 3 (by omega)).1⟩
      obtain ⟨y0, x0⟩ := b0
      obtain ⟨y1, x1⟩ := b1
      obtain ⟨y2, x2⟩ := b2
      obtain ⟨y3, x3⟩ := b3
      have g0 := (hS.r 0 (by omega)).2
      have g1 := (hS.r 1 (by omega)).2
      have g2 := (hS.r 2 (by omega)).2
      have g3 := (hS.r 3 (by omega)).2
      rw [HB1.out] at x0 x1 x2 x3 g0 g1 g2 g3
      have c0 := hS.c0
      have c1 := hS.c1
      have c2 := hS.c2
      have c3 := hS.c3
      have zr : w.heap.size + 1 + 1 < wr.heap.size := World.block_lt_of_cell? _ _ x0
      have HF : Hid (wr.ownsRow (B + 1) 3 1 (.slice aD (sdirs k 8).length cD) (sdirs k 8).length (rowZ (sdirs k 8)) ∧ wr.ownsRow (B + 1) 3 1 (.slice aK (skinds k 8).length cK) (skinds k 8).length (rowZ (skinds k 8)) ∧ Below w.heap.size w wr) := ⟨hS.d, hS.k, hS.b⟩
      clear hS
      go_wp2
      refine bodyPost_ret (v := .agg #[.int .i64 px, .int .i64 py, .slice aD (sdirs k 8).length cD, .slice aK (skinds k 8).length cK]) (by simp [results, Tryd.results61, go_sem, x0, x1, x2, x3]) rfl ⟨aD, cD, aK, cK, rfl, ?_, ?_, ?_, ?_, ?_⟩
      · exact row_of_own (own_set4 HF.out.1 (by have := HBB.out; omega))
      · exact row_of_own (own_set4 HF.out.2.1 (by have := HBB.out; omega))
      · with_reducible repeat (first | exact HF.out.2.2 | refine bl_set ?_ ?_)
        all_goals (dsimp only; omega)
      · intro a e
        have h1 := HF.out.1
        rw [e] at h1
        have := own_base h1 a.block rfl
        have := HBB.out
        omega
      · intro a e
        have h1 := HF.out.2.1
        rw [e] at h1
        have := own_base h1 a.block rfl
        have := HBB.out
        omega
end Go.Proofs.YtoedcefbmbfnhabDoor
namespace Go.Proofs.YtoedcefbmbfnhabDoor
open Go.RowKit Go.ChangeMaps

def PtK (w wx : World) (rm : Nat) (P : List ((Int × Int) × Nat × Nat)) (f : Int × Int → Nat → Int) : Prop := (∃ ls c, Pm.EM wx rm ls c ∧ Pm.Good ls c ∧ ∀ pt, (Pm.lk ls pt).getD (arv (fun _ => false) (fun _ => 0)) = arv (bitsOf P pt) (f pt)) ∧ Below w.heap.size w wx ∧ w.heap.size ≤ rm
theorem PtM.k {w wx : World} {rm : Nat} {P : List ((Int × Int) × Nat × Nat)} (h : PtM w wx rm P) : PtK w wx rm P (fun _ _ => 0) := by
  obtain ⟨⟨ls, c, h1, h2, h3⟩, h4⟩ := h
  exact ⟨⟨ls, c, h1, h2, fun pt => by rw [h3 pt, pv_getD]⟩, h4⟩
theorem PtK.lt {w wx : World} {rm : Nat} {P : List ((Int × Int) × Nat × Nat)} {f : Int × Int → Nat → Int} (h : PtK w wx rm P f) : rm < wx.heap.size := by
  obtain ⟨ls, c, h1, _⟩ := h.1
  exact (Array.getElem?_eq_some_iff.1 h1).1
theorem PtK.kept {w wx w' : World} {rm : Nat} {P : List ((Int × Int) × Nat × Nat)} {f : Int × Int → Nat → Int} (h : PtK w wx rm P f) (hb : Below wx.heap.size wx w') : PtK w w' rm P f := by
  obtain ⟨⟨ls, c, h1, h2, h3⟩, h4, h5⟩ := h
  exact ⟨⟨ls, c, h1.grown (bl_grown hb) (by simp), h2, h3⟩, bl_via h4 hb, h5⟩
theorem PtK.look {w wx : World} {rm : Nat} {P : List ((Int × Int) × Nat × Nat)} {f : Int × Int → Nat → Int} (h : PtK w wx rm P f) (a b : Int) (wy : World) (hb : Below wx.heap.size wx wy) : (Instr.lookup 67 (.map (some rm)) (.agg #[.int .i64 a, .int .i64 b]) false).run Tryd.prog wy = .ok (arv (bitsOf P (a, b)) (f (a, b))) wy := by
  obtain ⟨⟨ls, c, h1, h2, h3⟩, _, _⟩ := h
  have := Pm.lookup27 Tryd.underlying67 zeroA (h1.grown (bl_grown hb) (by simp)) h2 (a, b)
  rw [h3] at this
  exact this
/-- At one point another list of kinds. -/
def putP (f : Int × Int → Nat → Int) (pt : Int × Int) (g : Nat → Int) : Int × Int → Nat → Int := fun q => if q = pt then g else f q
theorem PtK.update {w wx : World} {rm : Nat} {P : List ((Int × Int) × Nat × Nat)} {f : Int × Int → Nat → Int} (h : PtK w wx rm P f) (a b : Int) (g : Nat → Int) : ∃ W', (Instr.mapUpdate 67 (.map (some rm)) (.agg #[.int .i64 a, .int .i64 b]) (arv (bitsOf P (a, b)) g)).run Tryd.prog wx = .ok () W' ∧ wx.grownBy W' (some rm) ∧ PtK w W' rm P (putP f (a, b) g) := by
  obtain ⟨⟨ls, c, h1, h2, h3⟩, h4, h5⟩ := h
  obtain ⟨ls', c', hu, hg, hl, _⟩ := Pm.update27 Tryd.underlying67 h1 h2 (a, b) (arv (bitsOf P (a, b)) g)
  have hgr : wx.grownBy (setBlock wx rm (.map (ls'.map Pm.toE).toArray c')) (some rm) := grown_set h1 _
  refine ⟨_, hu, hgr, ⟨ls', c', ?_, hg, fun pt => ?_⟩, h4.grown hgr h4.size (fun k hk => by simp at hk; omega), h5⟩
  · unfold Pm.EM
    exact (heap_setBlock_same h1 _)
  · rw [hl pt]
    unfold putP
    by_cases e : pt = (a, b)
    · subst e
      simp
    · rw [if_neg e, if_neg e]
      exact h3 pt
theorem put2 (f : Int × Int → Nat → Int) (p q : Int × Int) (hne : p ≠ q) (D1 D2 : Nat) (v : Int) : putP (putP f p (putK (f p) D1 v)) q (putK (putP f p (putK (f p) D1 v) q) D2 v) = fun pt d => if pt = q ∧ d = D2 then v else if pt = p ∧ d = D1 then v else f pt d := by
  funext pt d
  by_cases e1 : pt = q
  · subst e1
    have hne' : ¬ pt = p := fun h => hne h.symm
    by_cases e2 : d = D2 <;> simp [putP, putK, e2, hne']
  · by_cases e3 : pt = p
    · subst e3
      by_cases e2 : d = D1 <;> simp [putP, putK, e1, e2]
    · simp [putP, e1, e3]
/-- One crease more, at both its ends. -/
theorem kc_put (ks : List Int) (i : Nat) (hne : (ck ks i 0, ck ks i 1) ≠ (ck ks i 2, ck ks i 3)) : putP (putP (kc ks i) (ck ks i 0, ck ks i 1) (putK (kc ks i (ck ks i 0, ck ks i 1)) (dnum (ck ks i 0) (ck ks i 1) (ck ks i 2) (ck ks i 3)) (ck ks i 4))) (ck ks i 2, ck ks i 3) (putK (putP (kc ks i) (ck ks i 0, ck ks i 1) (putK (kc ks i (ck ks i 0, ck ks i 1)) (dnum (ck ks i 0) (ck ks i 1) (ck ks i 2) (ck ks i 3)) (ck ks i 4)) (ck ks i 2, ck ks i 3)) (dnum (ck ks i 2) (ck ks i 3) (ck ks i 0) (ck ks i 1)) (ck ks i 4)) = kc ks (i + 1) := by
  rw [put2 _ _ _ hne]
  rfl
theorem blk_same {w : World} {r : Nat} (h : r < w.heap.size) (o : Obj) : (setBlock w r o).heap[r]? = some o := by
  simp [setBlock, h]
theorem blk_other {w : World} {r i : Nat} (h : i ≠ r) (o : Obj) : (setBlock w r o).heap[i]? = w.heap[i]? := by
  simp [setBlock, Ne.symm h]
theorem blk_grown (w : World) (r : Nat) (o : Obj) : w.grownBy (setBlock w r o) (some r) :=
  ⟨rfl, rfl, rfl, by simp [setBlock], fun k _ hk => blk_other (fun e => hk (by rw [e])) o⟩
def AllCome (ls : List ((Int × Int) × Value × Nat)) (seen : List Nat) : Prop := ∀ x ∈ ls, x.2.2 ∈ seen
def OneCame (ls : List ((Int × Int) × Value × Nat)) (seen : List Nat) (px py : Int) (xv : Value) (st : Nat) : Prop := ((px, py), xv, st) ∈ ls ∧ st ∉ seen
def Stept (w w' : World) (rm r c : Nat) (ls : List ((Int × Int) × Value × Nat)) (seen : List Nat) (st : Nat) : Prop := Pm.EM w' rm ls c ∧ w'.heap[r]? = some (.mapIter (some rm) c (seen ++ [st]).toArray c) ∧ w.grownBy w' (some r)
/-- A step of a range over a map of points: all have come, or one that has not. -/
theorem wpList_next_pm {w : World} {ops : Array Oper} {rest : List Oper} {o : Oper} {a : Act} {Q : Exit → Act → World → Prop} (hg : o.guard = none) (it : Operand) (hop : o.op = Op.next it false) (rm r c : Nat) (ls : List ((Int × Int) × Value × Nat)) (seen : List Nat)
    (hit : a.eval it = .pointer (some ⟨r, 0, none⟩)) (hm : Pm.EM w rm ls c) (hr : w.heap[r]? = some (.mapIter (some rm) c seen.toArray c)) (hG : Pm.Good ls c) (hne : r ≠ rm)
    (hDone : AllCome ls seen → wpList Tryd.prog ops Q rest (a.put o.dst (.tuple #[.bool false])) w)
    (hMore : ∀ (px py : Int) (xv : Value) (st : Nat) (w' : World), OneCame ls seen px py xv st → Stept w w' rm r c ls seen st → (Instr.entry (.pointer (some ⟨r, 0, none⟩))).run Tryd.prog w' = .ok (.tuple #[.agg #[.int .i64 px, .int .i64 py], xv]) w' →
      wpList Tryd.prog ops Q rest (a.put o.dst (.tuple #[.bool true, .agg #[.int .i64 px, .int .i64 py], xv])) w') : wpList Tryd.prog ops Q (o :: rest) a w := by
  refine wpList_plain hg fun K' hK' => ?_
  unfold Oper.wp
  have hold : ∀ x ∈ ((ls.map Pm.toE).toArray).toList, x.born < c := fun x hx => by
    simp only [List.mem_map] at hx
    obtain ⟨y, hy, rfl⟩ := hx
    exact hG.2.2 y hy
  rcases run_next_at (P := Tryd.prog) w o.type r rm c c seen.toArray _ c hr hm hold (Nat.le_refl _) with ⟨h0, hrun⟩ | ⟨e, he, w1, hw1, hrun⟩
  · simp [execOp, hop, hit, hrun, Result.andThen]
    refine hK' _ _ (hDone (fun x hx => ?_))
    have : leftOf (ls.map Pm.toE).toArray seen.toArray = #[] := Array.eq_empty_of_size_eq_zero h0
    unfold leftOf at this
    rw [Array.filter_eq_empty_iff] at this
    have := this (Pm.toE x) (by rw [List.mem_toArray]; exact List.mem_map.2 ⟨x, hx, rfl⟩)
    simpa [Pm.toE] using this
  · have hel : ∃ x ∈ ls, x.2.2 ∉ seen ∧ Pm.toE x = e := by
      unfold leftOf at he
      simp only [Array.toList_filter, List.mem_filter, List.mem_map] at he
      obtain ⟨⟨x, hx, rfl⟩, hs⟩ := he
      exact ⟨x, hx, by simpa [Pm.toE] using hs, rfl⟩
    obtain ⟨x, hx, hxs, rfl⟩ := hel
    have hm1 : Pm.EM w1 rm ls c ∧ w1.heap[r]? = some (.mapIter (some rm) c seen.toArray c) ∧ w.grownBy w1 none := by
      rcases hw1 with rfl | rfl
      · exact ⟨hm, hr, bl_grown (bl_refl _)⟩
      · exact ⟨hm, hr, bl_grown (bl_drew (bl_refl _))⟩
    obtain ⟨m1, r1, g1⟩ := hm1
    simp [execOp, hop, hit, hrun, Result.andThen]
    obtain ⟨⟨px, py⟩, xv, st⟩ := x
    refine hK' _ _ (hMore px py xv st _ ⟨hx, hxs⟩ ⟨?_, ?_, ?_⟩ ?_)
    · exact (blk_other (Ne.symm hne) _).trans m1
    · have := blk_same (w := w1) (Array.getElem?_eq_some_iff.1 r1).1 (.mapIter (some rm) c (seen ++ [st]).toArray c)
      exact this
    · have g2 := blk_grown w1 r (.mapIter (some rm) c (seen ++ [st]).toArray c)
      exact ⟨g2.os.trans g1.os, g2.tape.trans g1.tape, g2.output.trans g1.output, Nat.le_trans g1.size g2.size, fun k hk hne2 => (g2.block k (Nat.lt_of_lt_of_le hk g1.size) hne2).trans (g1.block k hk (by simp))⟩
    · have e1 := run_entry_at (P := Tryd.prog) (setBlock w1 r (.mapIter (some rm) c (seen ++ [st]).toArray c)) r rm c seen.toArray (ls.map Pm.toE).toArray c (Pm.toE ((px, py), xv, st)) (by
        have := blk_same (w := w1) (Array.getElem?_eq_some_iff.1 r1).1 (.mapIter (some rm) c (seen ++ [st]).toArray c)
        rw [this]
        simp [Pm.toE]) ((blk_other (Ne.symm hne) _).trans m1) (by simpa using List.mem_map.2 ⟨_, hx, rfl⟩) (by
        have := hG.2.1
        simpa [List.map_map, Pm.toE, Function.comp_def] using this)
      exact e1
end Go.Proofs.YtoedcefbmbfnhabDoor
namespace Go.Proofs.YtoedcefbmbfnhabDoor
open Go.RowKit Go.ChangeMaps

/-- A star as it lies: its point, and its two lists. -/
abbrev SA := (Int × Int) × Value × Value
def encS (a : SA) : List Value := [.int .i64 a.1.1, .int .i64 a.1.2, a.2.1, a.2.2]
theorem encS_len (A : List SA) : (A.flatMap encS).length = A.length * 4 := by
  induction A with
  | nil => rfl
  | cons a r ih =>
    rw [List.flatMap_cons, List.length_append, ih, List.length_cons]
    simp [encS]
    omega
/-- Its lists are there, behind block r, and not where the stars' own row lies. -/
def StarOK (wx : World) (r : Nat) (own : Option Nat) (f : Int × Int → Nat → Int) (a : SA) : Prop :=
  (∃ g o c, a.2.1 = .slice (some ⟨g, o, none⟩) (sdirs (f a.1) 8).length c ∧ Row wx (some ⟨g, o, none⟩) (sdirs (f a.1) 8) ∧ r < g ∧ g < wx.heap.size ∧ some g ≠ own) ∧
  (∃ g o c, a.2.2 = .slice (some ⟨g, o, none⟩) (skinds (f a.1) 8).length c ∧ Row wx (some ⟨g, o, none⟩) (skinds (f a.1) 8) ∧ r < g ∧ g < wx.heap.size ∧ some g ≠ own)
theorem Row.grown {w w' : World} {g o : Nat} {l : List Int} {row : Option Nat} (h : Row w (some ⟨g, o, none⟩) l) (hg : w.grownBy w' row) (hne : some g ≠ row) : Row w' (some ⟨g, o, none⟩) l := fun i hi => by
  obtain ⟨b, off, e, hc⟩ := h i hi
  refine ⟨b, off, e, ?_⟩
  simp only [Option.some.injEq, Addr.mk.injEq] at e
  obtain ⟨rfl, _⟩ := e
  exact hg.cell hc hne
theorem StarOK.grown {w w' : World} {r : Nat} {own own' row : Option Nat} {f : Int × Int → Nat → Int} {a : SA} (h : StarOK w r own f a) (hg : w.grownBy w' row) (h1 : ∀ g, r < g → g < w.heap.size → some g ≠ own → some g ≠ row) (h2 : ∀ g, g < w.heap.size → some g ≠ own → some g ≠ own') : StarOK w' r own' f a := by
  obtain ⟨⟨g, o, c, e, hr, hl, hz, hn⟩, ⟨g', o', c', e', hr', hl', hz', hn'⟩⟩ := h
  exact ⟨⟨g, o, c, e, hr.grown hg (h1 g hl hz hn), hl, Nat.lt_of_lt_of_le hz hg.size, h2 g hz hn⟩, ⟨g', o', c', e', hr'.grown hg (h1 g' hl' hz' hn'), hl', Nat.lt_of_lt_of_le hz' hg.size, h2 g' hz' hn'⟩⟩
/-- The state of the gathering. -/
structure ST (w wx : World) (rm r c : Nat) (ls : List ((Int × Int) × Value × Nat)) (seen : List Nat) (v : Value) (f : Int × Int → Nat → Int) (A : List SA) : Prop where
  em : Pm.EM wx rm ls c
  it : wx.heap[r]? = some (.mapIter (some rm) c seen.toArray c)
  own : wx.ownsRow (r + 1) 45 4 v A.length (A.flatMap encS)
  ok : ∀ a ∈ A, StarOK wx r v.ownBlock f a
  b : Below w.heap.size w wx
  lo : w.heap.size ≤ rm
  hr : rm < r
theorem ST.lt {w wx : World} {rm r c : Nat} {ls : List ((Int × Int) × Value × Nat)} {seen : List Nat} {v : Value} {f : Int × Int → Nat → Int} {A : List SA} (h : ST w wx rm r c ls seen v f A) : r < wx.heap.size := (Array.getElem?_eq_some_iff.1 h.it).1
theorem ST.kept {w wx w' : World} {rm r c : Nat} {ls : List ((Int × Int) × Value × Nat)} {seen : List Nat} {v : Value} {f : Int × Int → Nat → Int} {A : List SA} (h : ST w wx rm r c ls seen v f A) (hb : Below wx.heap.size wx w') : ST w w' rm r c ls seen v f A :=
  ⟨h.em.grown (bl_grown hb) (by simp), (hb.block r h.lt).trans h.it, own_below h.own hb, fun a ha => (h.ok a ha).grown (bl_grown hb) (fun g _ _ _ => by simp) (fun g _ hn => hn), bl_via h.b hb, h.lo, h.hr⟩
theorem ST.next {w wx w' : World} {rm r c x : Nat} {ls : List ((Int × Int) × Value × Nat)} {seen : List Nat} {v : Value} {f : Int × Int → Nat → Int} {A : List SA} (h : ST w wx rm r c ls seen v f A) (hm : Pm.EM w' rm ls c) (hi : w'.heap[r]? = some (.mapIter (some rm) c (seen ++ [x]).toArray c)) (hg : wx.grownBy w' (some r)) : ST w w' rm r c ls (seen ++ [x]) v f A := by
  refine ⟨hm, hi, h.own.kept hg ?_, fun a ha => (h.ok a ha).grown hg (fun g hl _ _ e => by simp at e; omega) (fun g _ hn => hn), h.b.grown hg h.b.size (fun k hk => by have := h.lo; have := h.hr; simp at hk; omega), h.lo, h.hr⟩
  cases e2 : v.ownBlock with
  | none => exact Or.inl rfl
  | some q =>
    refine Or.inr (fun e1 => ?_)
    have := own_base h.own q e2
    simp at e1
    omega
/-- A star more. -/
theorem ST.more {w wx w3 : World} {rm r c : Nat} {ls : List ((Int × Int) × Value × Nat)} {seen : List Nat} {v v' : Value} {f : Int × Int → Nat → Int} {A : List SA} {a : SA} (h : ST w wx rm r c ls seen v f A) (hg : wx.grownBy w3 v.ownBlock) (ho : w3.ownsRow (r + 1) 45 4 v' (A.length + 1) (A.flatMap encS ++ encS a)) (hv : v'.ownBlock = v.ownBlock ∨ v'.ownBlock = some wx.heap.size) (ha : StarOK wx r v.ownBlock f a) :
    ST w w3 rm r c ls seen v' f (A ++ [a]) := by
  have hb : ∀ q, v.ownBlock = some q → r < q := fun q hq => by
    have := own_base h.own q hq
    omega
  have hn1 : some rm ≠ v.ownBlock := fun e => by
    have := hb rm e.symm
    have := h.hr
    omega
  have hn2 : some r ≠ v.ownBlock := fun e => by
    have := hb r e.symm
    omega
  have hok : ∀ a, StarOK wx r v.ownBlock f a → StarOK w3 r v'.ownBlock f a := fun a ha => ha.grown hg (fun g _ _ hn => hn) (fun g hz hn => by
    rcases hv with e | e
    · rw [e]
      exact hn
    · rw [e]
      simp
      omega)
  refine ⟨h.em.grown hg hn1, (hg.block r h.lt hn2).trans h.it, ?_, fun a' ha' => ?_, h.b.grown hg h.b.size (fun q hq => by have := hb q hq; have := h.hr; have := h.lo; omega), h.lo, h.hr⟩
  · rw [List.length_append, List.flatMap_append]
    simpa using ho
  · rcases List.mem_append.1 ha' with ha' | ha'
    · exact hok a' (h.ok a' ha')
    · simp at ha'
      subst ha'
      exact hok _ ha
theorem four_cells (x y : Int) (d k : Value) (h1 : d.oneCell' = true) (h2 : k.oneCell' = true) : ∀ u ∈ [Value.int .i64 x, .int .i64 y, d, k], u.oneCell' = true := by
  intro u hu
  simp only [List.mem_cons, List.not_mem_nil, or_false] at hu
  rcases hu with rfl | rfl | rfl | rfl
  · rfl
  · rfl
  · exact h1
  · exact h2
theorem infStr : (Tryd.prog.info? 45).map (fun i => (i.zero, i.size, i.bytes)) = some (some (.agg #[.int .i64 0, .int .i64 0, .slice none 0 0, .slice none 0 0]), 4, 64) := by kernel_rfl
/-- Is it one of the stars? -/
def gstar (P : List ((Int × Int) × Nat × Nat)) (f : Int × Int → Nat → Int) (pt : Int × Int) : Bool := decide (0 < (sdirs (f pt) 8).length) && (List.range 8).all (bitsOf P pt)
theorem run_range_pm {w : World} {rm c : Nat} {ls : List ((Int × Int) × Value × Nat)} (h : Pm.EM w rm ls c) : (Instr.range 67 (.map (some rm))).run Tryd.prog w = .ok (.pointer (some ⟨w.heap.size, 0, none⟩)) (w.alloc (.mapIter (some rm) c #[] c)) := by
  unfold Pm.EM at h
  simp [Instr.range, run_underlying Tryd.underlying67, MapKept.run_getObj_map h, Result.andThen]
theorem ST.start {w wx : World} {rm c : Nat} {ls : List ((Int × Int) × Value × Nat)} {f : Int × Int → Nat → Int} (h : Pm.EM wx rm ls c) (hb : Below w.heap.size w wx) (hlo : w.heap.size ≤ rm) : ST w (wx.alloc (.mapIter (some rm) c #[] c)) rm wx.heap.size c ls [] (.slice none 0 0) f [] :=
  ⟨h.grown (bl_grown (bl_alloc (bl_refl _))) (by simp), heap_alloc_new wx _, ⟨rfl, Or.inl ⟨rfl, rfl⟩⟩, fun a ha => (by cases ha), bl_alloc hb, hlo, (Array.getElem?_eq_some_iff.1 h).1⟩
def stamps (vis : List ((Int × Int) × Value × Nat)) : List Nat := vis.map (fun x => x.2.2)
/-- What has come, and the stars among it. -/
def VisOK (P : List ((Int × Int) × Nat × Nat)) (f : Int × Int → Nat → Int) (ls vis : List ((Int × Int) × Value × Nat)) (A : List SA) : Prop := (∀ x ∈ vis, x ∈ ls) ∧ (stamps vis).Nodup ∧ A.map (fun a => a.1) = (vis.filter (fun x => gstar P f x.1)).map (fun x => x.1)
theorem VisOK.nil (P : List ((Int × Int) × Nat × Nat)) (f : Int × Int → Nat → Int) (ls : List ((Int × Int) × Value × Nat)) : VisOK P f ls [] [] := ⟨fun x hx => (by cases hx), List.nodup_nil, rfl⟩
theorem VisOK.len {P : List ((Int × Int) × Nat × Nat)} {f : Int × Int → Nat → Int} {ls vis : List ((Int × Int) × Value × Nat)} {A : List SA} (h : VisOK P f ls vis A) : vis.length ≤ ls.length := by
  have := sub_len (stamps vis) (stamps ls) h.2.1 (fun x hx => by
    obtain ⟨y, hy, rfl⟩ := List.mem_map.1 hx
    exact List.mem_map.2 ⟨y, h.1 y hy, rfl⟩)
  simpa [stamps] using this
theorem stamps_add (vis : List ((Int × Int) × Value × Nat)) (x : (Int × Int) × Value × Nat) : stamps (vis ++ [x]) = stamps vis ++ [x.2.2] := by simp [stamps]
/-- One more has come; it is no star. -/
theorem VisOK.no {P : List ((Int × Int) × Nat × Nat)} {f : Int × Int → Nat → Int} {ls vis : List ((Int × Int) × Value × Nat)} {A : List SA} {px py : Int} {xv : Value} {st : Nat} (h : VisOK P f ls vis A) (ho : OneCame ls (stamps vis) px py xv st) (hg : gstar P f (px, py) = false) : VisOK P f ls (vis ++ [((px, py), xv, st)]) A := by
  refine ⟨fun x hx => ?_, ?_, ?_⟩
  · rcases List.mem_append.1 hx with hx | hx
    · exact h.1 x hx
    · simp at hx
      rw [hx]
      exact ho.1
  · rw [stamps_add, List.nodup_append]
    refine ⟨h.2.1, by simp, fun a ha b hb => ?_⟩
    simp at hb
    subst hb
    exact fun e => ho.2 (e ▸ ha)
  · rw [List.filter_append]
    simp [hg, h.2.2]
theorem VisOK.yes {P : List ((Int × Int) × Nat × Nat)} {f : Int × Int → Nat → Int} {ls vis : List ((Int × Int) × Value × Nat)} {A : List SA} {px py : Int} {xv : Value} {st : Nat} {u v : Value} (h : VisOK P f ls vis A) (ho : OneCame ls (stamps vis) px py xv st) (hg : gstar P f (px, py) = true) : VisOK P f ls (vis ++ [((px, py), xv, st)]) (A ++ [((px, py), u, v)]) := by
  refine ⟨fun x hx => ?_, ?_, ?_⟩
  · rcases List.mem_append.1 hx with hx | hx
    · exact h.1 x hx
    · simp at hx
      rw [hx]
      exact ho.1
  · rw [stamps_add, List.nodup_append]
    refine ⟨h.2.1, by simp, fun a ha b hb => ?_⟩
    simp at hb
    subst hb
    exact fun e => ho.2 (e ▸ ha)
  · rw [List.filter_append, List.map_append, List.map_append, h.2.2]
    simp [hg]
theorem StarOK.of {wx : World} {r m : Nat} {own : Option Nat} {f : Int × Int → Nat → Int} {px py : Int} {aD aK : Option Addr} {cD cK : Nat} (hD : Row wx aD (sdirs (f (px, py)) 8)) (hK : Row wx aK (skinds (f (px, py)) 8)) (h0 : 0 < (sdirs (f (px, py)) 8).length) (lD : ∀ a : Addr, aD = some a → m ≤ a.block) (lK : ∀ a : Addr, aK = some a → m ≤ a.block) (hm : r < m) (ho : ∀ q, own = some q → q < m) :
    StarOK wx r own f ((px, py), .slice aD (sdirs (f (px, py)) 8).length cD, .slice aK (skinds (f (px, py)) 8).length cK) := by
  have h1 : 0 < (skinds (f (px, py)) 8).length := by rw [← (sdirs_len (f (px, py)) 8).1]; exact h0
  obtain ⟨g, o, e, hc⟩ := hD 0 h0
  obtain ⟨g', o', e', hc'⟩ := hK 0 h1
  subst e
  subst e'
  have l1 := lD _ rfl
  have l2 := lK _ rfl
  simp only at l1 l2
  refine ⟨⟨g, o, cD, rfl, hD, by omega, World.block_lt_of_cell? _ _ hc, fun e => ?_⟩, ⟨g', o', cK, rfl, hK, by omega, World.block_lt_of_cell? _ _ hc', fun e => ?_⟩⟩
  · have := ho g e.symm
    omega
  · have := ho g' e.symm
    omega
theorem key_inj {ls : List ((Int × Int) × Value × Nat)} (h : (ls.map (fun x => x.1)).Nodup) : ∀ {a b}, a ∈ ls → b ∈ ls → a.1 = b.1 → a = b := by
  induction ls with
  | nil => intro a b ha; cases ha
  | cons x l ih =>
    intro a b ha hb e
    rw [List.map_cons, List.nodup_cons] at h
    rcases List.mem_cons.1 ha with e1 | ha2
    · rcases List.mem_cons.1 hb with e2 | hb2
      · rw [e1, e2]
      · exact absurd (List.mem_map.2 ⟨b, hb2, by rw [← e, e1]⟩) h.1
    · rcases List.mem_cons.1 hb with e2 | hb2
      · exact absurd (List.mem_map.2 ⟨a, ha2, by rw [e, e2]⟩) h.1
      · exact ih h.2 ha2 hb2 e
theorem VisOK.keys {P : List ((Int × Int) × Nat × Nat)} {f : Int × Int → Nat → Int} {ls vis : List ((Int × Int) × Value × Nat)} {A : List SA} {c : Nat} (h : VisOK P f ls vis A) (hG : Pm.Good ls c) : (A.map (fun a => a.1)).Nodup := by
  have h1 : vis.Pairwise (fun a b => a.1 ≠ b.1) := by
    have h2 : vis.Pairwise (fun a b => a.2.2 ≠ b.2.2) := List.pairwise_map.1 h.2.1
    refine h2.imp_of_mem (fun {a b} ha hb hne e => hne ?_)
    rw [key_inj hG.1 (h.1 a ha) (h.1 b hb) e]
  rw [h.2.2]
  exact List.pairwise_map.2 (h1.filter _)
/-- There are no more stars than corners. -/
theorem VisOK.bound {P : List ((Int × Int) × Nat × Nat)} {f : Int × Int → Nat → Int} {ls vis : List ((Int × Int) × Value × Nat)} {A : List SA} {c : Nat} (h : VisOK P f ls vis A) (hG : Pm.Good ls c) : A.length ≤ P.length := by
  have := sub_len (A.map (fun a => a.1)) (P.map (fun x => x.1)) (h.keys hG) (fun pt hpt => by
    rw [h.2.2] at hpt
    obtain ⟨x, hx, rfl⟩ := List.mem_map.1 hpt
    have hg := (List.mem_filter.1 hx).2
    rw [gstar, Bool.and_eq_true, List.all_eq_true] at hg
    have hb := hg.2 0 (by simp)
    unfold bitsOf at hb
    rw [List.any_eq_true] at hb
    obtain ⟨y, hy, h9⟩ := hb
    rw [Bool.and_eq_true, decide_eq_true_eq] at h9
    exact List.mem_map.2 ⟨y, hy, h9.1⟩)
  simpa using this
theorem cell_four_new (w : World) (a b c d : Value) (T : TypeId) : ∀ j u, ([a, b, c, d])[j]? = some u → (w.alloc (.cells #[a, b, c, d] T)).cell? ((⟨w.heap.size, 0, none⟩ : Addr).add j) = some u := by
  intro j u hu
  match j, hu with
  | 0, hu => simp at hu; subst hu; simp [Addr.add, go_sem]
  | 1, hu => simp at hu; subst hu; simp [Addr.add, go_sem]
  | 2, hu => simp at hu; subst hu; simp [Addr.add, go_sem]
  | 3, hu => simp at hu; subst hu; simp [Addr.add, go_sem]
end Go.Proofs.YtoedcefbmbfnhabDoor
