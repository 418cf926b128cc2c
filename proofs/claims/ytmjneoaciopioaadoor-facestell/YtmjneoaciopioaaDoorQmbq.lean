/- A part of the proof of a law on sheets. -/
import Derived.Test.YtmjneoaciopioaaDoorQmbj
import Derived.Test.YtmjneoaciopioaaDoorQmat
import Derived.Test.YtmjneoaciopioaaDoorQmbb
import Derived.Test.YtmjneoaciopioaaDoorQmbm
namespace Go.Proofs.YtmjneoaciopioaaDoor
open Go.RowKit Go.ChangeMaps

theorem lessE_iff (a b c d p q r s : Int) : lessE a b c d p q r s = true ↔ (a < p ∨ (a = p ∧ b < q) ∨ (a = p ∧ b = q ∧ (c < r ∨ (c = r ∧ d < s)))) := by
  simp only [lessE, lessB, Bool.or_eq_true, Bool.and_eq_true, decide_eq_true_eq]
  omega
theorem cr_less {L : List (Int × Int × Int)} {ks : List Int} {n : Nat} (h : ∀ i, i < n → CrOk L ks i) : ∀ d i, i + d + 1 < n → lessE (ck ks i 0) (ck ks i 1) (ck ks i 2) (ck ks i 3) (ck ks (i + d + 1) 0) (ck ks (i + d + 1) 1) (ck ks (i + d + 1) 2) (ck ks (i + d + 1) 3) = true
  | 0, i, hi => (h (i + 0 + 1) hi).1 (by omega)
  | d + 1, i, hi => by
    have h1 := cr_less h d i (by omega)
    have h2 := (h (i + (d + 1) + 1) hi).1 (by omega)
    have e : i + (d + 1) + 1 - 1 = i + d + 1 := by omega
    rw [e] at h2
    rw [lessE_iff] at h1 h2 ⊢
    omega
theorem cr_one {L : List (Int × Int × Int)} {ks : List Int} {n : Nat} (h : ∀ i, i < n → CrOk L ks i) : CrOne ks n := fun i j hij hj e => by
  have h1 := cr_less h (j - i - 1) i (by omega)
  rw [show i + (j - i - 1) + 1 = j by omega] at h1
  rw [lessE_iff] at h1
  simp only [Prod.mk.injEq] at e
  omega

/-- Lay's answer to a sheet that may not be; the reference's. -/
def LayNo (w : World) (W H : Int) (zs ks : List Int) (n : Nat) : Prop := ∀ (W' : World) (a' c' : Option Addr) (ca' cc' : Nat), Below w.heap.size w W' → Row W' a' zs → Row W' c' ks → Calls Tryd.prog 21 #[.agg #[.int .i64 W, .int .i64 H, .slice a' zs.length ca', .slice c' n cc']] W' fun e w' => e = .returned (.tuple #[.agg #[.slice none 0 0, .map none, .map none], .bool false]) ∧ Below W'.heap.size W' w'
def MayIs (w : World) (W H : Int) (a c : Option Addr) (ca cc : Nat) (zs : List Int) (n : Nat) (bb : Bool) : Prop := ∀ W' : World, Below w.heap.size w W' → Calls Tryd.prog 10 #[.agg #[.int .i64 W, .int .i64 H, .slice a zs.length ca, .slice c n cc]] W' fun e w' => e = .returned (.bool bb) ∧ Below W'.heap.size W' w'

theorem sheet_either (W H : Int) (a c : Option Addr) (ca cc n : Nat) (zs ks : List Int) (w : World) (hz : Row w a zs) (hk : Row w c ks) (hn : ks.length = n * 5) (h2 : n ≤ 3518437208883) (hs : Steps w) :
    (LayNo w W H zs ks n ∧ MayIs w W H a c ca cc zs n false) ∨
    (∃ (Wn Hn b off : Nat), W = (Wn : Int) ∧ H = (Hn : Int) ∧ a = some ⟨b, off, none⟩ ∧ (1 ≤ Wn ∧ Wn ≤ 8) ∧ (1 ≤ Hn ∧ Hn ≤ 8) ∧ zs.length = Wn * Hn ∧ maskB zs = true ∧ Joined (ty zs Wn Hn) ∧ (∀ i, i < n → CrOk (ty zs Wn Hn) ks i) ∧ MayIs w W H a c ca cc zs n true) := by
  cases hc : cellsB W H zs
  · exact Or.inl ⟨fun W' a' c' ca' cc' hb q1 q2 => lay_bad W H a' ca' zs _ W' q1 hc, fun W' hb => sheetMay_bad W H a ca zs _ W' (hz.kept hb) hc⟩
  · simp only [cellsB, Bool.and_eq_true, decide_eq_true_eq, sideB] at hc
    obtain ⟨⟨⟨q1, q2⟩, q3⟩, q4⟩ := hc
    obtain ⟨Wn, rfl⟩ : ∃ m : Nat, W = (m : Int) := ⟨W.toNat, by omega⟩
    obtain ⟨Hn, rfl⟩ : ∃ m : Nat, H = (m : Int) := ⟨H.toNat, by omega⟩
    have hl : zs.length = Wn * Hn := by
      rw [← Int.natCast_mul] at q3
      omega
    have h0 : 0 < zs.length := by
      rw [hl]
      exact Nat.mul_pos (by omega) (by omega)
    have hW : 1 ≤ Wn ∧ Wn ≤ 8 := by omega
    have hH : 1 ≤ Hn ∧ Hn ≤ 8 := by omega
    obtain ⟨b, off, rfl, _⟩ := hz 0 h0
    have hM : ∀ W' : World, Below w.heap.size w W' → Calls Tryd.prog 10 #[.agg #[.int .i64 (Wn : Int), .int .i64 (Hn : Int), .slice (some ⟨b, off, none⟩) zs.length ca, .slice c n cc]] W' fun e w' => ∃ bb : Bool, e = .returned (.bool bb) ∧ (bb = true ↔ ((∀ i, i < n → CrOk (ty zs Wn Hn) ks i) ∧ Joined (ty zs Wn Hn))) ∧ Below W'.heap.size W' w' := fun W' hW' => sheetMay_any Wn Hn b off ca n cc c zs ks W' (hz.kept hW') hW hH hl q4 (hk.kept hW') hn h2
    by_cases hok : (∀ i, i < n → CrOk (ty zs Wn Hn) ks i) ∧ Joined (ty zs Wn Hn)
    · refine Or.inr ⟨Wn, Hn, b, off, rfl, rfl, rfl, hW, hH, hl, q4, hok.2, hok.1, fun W' hb => (hM W' hb).mono ?_⟩
      rintro e w' ⟨bb, rfl, hbb, hb'⟩
      rw [hbb.2 hok]
      exact ⟨rfl, hb'⟩
    · refine Or.inl ⟨fun W' a' c' ca' cc' hb r1 r2 => ?_, fun W' hb => (hM W' hb).mono ?_⟩
      · obtain ⟨ba, oa, rfl, _⟩ := r1 0 h0
        by_cases hJ : Joined (ty zs Wn Hn)
        · exact lay_nocrease Wn Hn ba oa ca' n cc' c' zs ks W' r1 hW hH hl q4 r2 hn h2 (hs.kept hb) hJ (fun h => hok ⟨h, hJ⟩)
        · exact lay_nojoin Wn Hn ba oa ca' n cc' c' zs ks W' r1 hW hH hl q4 r2 hn h2 (hs.kept hb) hJ
      · rintro e w' ⟨bb, rfl, hbb, hb'⟩
        obtain rfl : bb = false := by
          cases bb with
          | false => rfl
          | true => exact absurd (hbb.1 rfl) hok
        exact ⟨rfl, hb'⟩

/-- The triangle at a point, in an eighth of the turn. -/
def tA (pt : Int × Int) (d : Nat) : Int × Int × Int :=
  if pt.1 % 2 = 1 then ((pt.1 - 1) / 2, (pt.2 - 1) / 2, ((((d + 3) % 8 / 2 : Nat)) : Int))
  else if d % 2 = 0 then ((pt.1 - stX ((d / 2 : Nat) : Int) - 1) / 2, (pt.2 - stY ((d / 2 : Nat) : Int) - 1) / 2, ((d / 2 : Nat) : Int))
  else ((pt.1 - stX ((((d + 5) % 8 / 2 + 1) % 4 : Nat) : Int) - 1) / 2, (pt.2 - stY ((((d + 5) % 8 / 2 + 1) % 4 : Nat) : Int) - 1) / 2, (((d + 5) % 8 / 2 : Nat) : Int))
/-- Points of the grid. -/
def Gp (pt : Int × Int) : Prop := pt.1 % 2 = pt.2 % 2
theorem cnr_gp {t : Int × Int × Int} {pt : Int × Int} (hk : Kd t) (h : pt ∈ cnr t) : Gp pt := by
  obtain ⟨x, y, k⟩ := t
  obtain ⟨h0, h3⟩ := hk
  simp only at h0 h3
  have h4 : k = 0 ∨ k = 1 ∨ k = 2 ∨ k = 3 := by omega
  simp only [cnr, List.mem_cons, List.not_mem_nil, or_false] at h
  unfold Gp
  rcases h with rfl | rfl | rfl <;> rcases h4 with rfl | rfl | rfl | rfl <;> simp [c1x, c1y, c2x, c2y, stX, stY] <;> omega
theorem fills_iff {t : Int × Int × Int} {pt : Int × Int} {d : Nat} (hk : Kd t) (hg : Gp pt) (hd : d < 8) : bitsOf (tps t) pt d = true ↔ t = tA pt d := by
  obtain ⟨x, y, k⟩ := t
  obtain ⟨p, q⟩ := pt
  obtain ⟨h0, h3⟩ := hk
  simp only at h0 h3
  unfold Gp at hg
  simp only at hg
  have h4 : k = 0 ∨ k = 1 ∨ k = 2 ∨ k = 3 := by omega
  rcases h4 with rfl | rfl | rfl | rfl <;> rcases eight hd with rfl | rfl | rfl | rfl | rfl | rfl | rfl | rfl <;>
    simp [bitsOf, tps, fillJ, tA, c1x, c1y, c2x, c2y, stX, stY, Prod.ext_iff] <;> (try split) <;> (try simp) <;> omega
theorem corner_iff {t : Int × Int × Int} {pt : Int × Int} (hk : Kd t) : pt ∈ cnr t ↔ ∃ d, d < 8 ∧ bitsOf (tps t) pt d = true := by
  obtain ⟨x, y, k⟩ := t
  constructor
  · intro h
    simp only [cnr, List.mem_cons, List.not_mem_nil, or_false] at h
    rcases h with rfl | rfl | rfl
    · exact ⟨(5 + 2 * k.toNat) % 8, by omega, by simp [bitsOf, tps, fillJ]⟩
    · exact ⟨(2 * k.toNat) % 8, by omega, by simp [bitsOf, tps, fillJ]⟩
    · exact ⟨(3 + 2 * k.toNat) % 8, by omega, by simp [bitsOf, tps, fillJ]⟩
  · rintro ⟨d, _, h⟩
    simp only [bitsOf, tps, List.any_cons, List.any_nil, Bool.or_false, Bool.or_eq_true, Bool.and_eq_true, decide_eq_true_eq] at h
    simp only [cnr, List.mem_cons, List.not_mem_nil, or_false]
    rcases h with ⟨h, _⟩ | ⟨h, _⟩ | ⟨h, _⟩
    · exact Or.inl h.symm
    · exact Or.inr (Or.inl h.symm)
    · exact Or.inr (Or.inr h.symm)
theorem bits_flat {L : List (Int × Int × Int)} {pt : Int × Int} {d : Nat} : bitsOf (L.flatMap tps) pt d = true ↔ ∃ t ∈ L, bitsOf (tps t) pt d = true := by
  unfold bitsOf
  simp only [List.any_eq_true, List.mem_flatMap]
  constructor
  · rintro ⟨x, ⟨t, ht, hx⟩, h⟩
    exact ⟨t, ht, x, hx, h⟩
  · rintro ⟨t, ht, x, hx, h⟩
    exact ⟨x, ⟨t, ht, hx⟩, h⟩
theorem bits_iff {L : List (Int × Int × Int)} {pt : Int × Int} {d : Nat} (hL : ∀ t ∈ L, Kd t) (hg : Gp pt) (hd : d < 8) : bitsOf (L.flatMap tps) pt d = true ↔ tA pt d ∈ L := by
  rw [bits_flat]
  constructor
  · rintro ⟨t, ht, h⟩
    rw [← (fills_iff (hL t ht) hg hd).1 h]
    exact ht
  · intro h
    exact ⟨_, h, (fills_iff (hL _ h) hg hd).2 rfl⟩
/-- All triangles around a point. -/
def arnd (pt : Int × Int) : List (Int × Int × Int) := if pt.1 % 2 = 0 then (List.range 8).map (tA pt) else [tA pt 5, tA pt 7, tA pt 1, tA pt 3]
theorem arnd_len (pt : Int × Int) : (arnd pt).length = if pt.1 % 2 = 0 then 8 else 4 := by
  unfold arnd
  split <;> rfl
theorem arnd_mem {pt : Int × Int} {t : Int × Int × Int} : t ∈ arnd pt ↔ ∃ d, d < 8 ∧ t = tA pt d := by
  unfold arnd
  split
  · rw [List.mem_map]
    constructor
    · rintro ⟨d, hd, rfl⟩
      exact ⟨d, List.mem_range.1 hd, rfl⟩
    · rintro ⟨d, hd, rfl⟩
      exact ⟨d, List.mem_range.2 hd, rfl⟩
  · rename_i hp
    have hp : pt.1 % 2 = 1 := by omega
    simp only [List.mem_cons, List.not_mem_nil, or_false]
    constructor
    · rintro (rfl | rfl | rfl | rfl)
      · exact ⟨5, by omega, rfl⟩
      · exact ⟨7, by omega, rfl⟩
      · exact ⟨1, by omega, rfl⟩
      · exact ⟨3, by omega, rfl⟩
    · rintro ⟨d, hd, rfl⟩
      rcases eight hd with rfl | rfl | rfl | rfl | rfl | rfl | rfl | rfl <;> simp [tA, hp]
theorem arnd_nodup {pt : Int × Int} : (arnd pt).Nodup := by
  obtain ⟨p, q⟩ := pt
  unfold arnd
  split
  · rename_i hp
    have hp1 : ¬ p % 2 = 1 := by simp at hp; omega
    simp [List.range_succ, tA, hp1, stX, stY]
    omega
  · rename_i hp
    have hp1 : p % 2 = 1 := by simp at hp; omega
    simp [tA, hp1]
/-- Paper all around a point: as many triangles there as there can be. -/
theorem within_iff {L : List (Int × Int × Int)} {pt : Int × Int} (hn : L.Nodup) (hL : ∀ t ∈ L, Kd t) (hg : Gp pt) : (∀ d, d < 8 → bitsOf (L.flatMap tps) pt d = true) ↔ (L.countP fun t => decide (pt ∈ cnr t)) = if pt.1 % 2 = 0 then 8 else 4 := by
  have hc : (L.countP fun t => decide (pt ∈ cnr t)) = ((arnd pt).filter fun t => decide (t ∈ L)).length := by
    rw [List.countP_eq_length_filter]
    refine same_len (hn.filter _) (arnd_nodup.filter _) (fun t => ?_)
    rw [List.mem_filter, List.mem_filter, decide_eq_true_eq, decide_eq_true_eq, arnd_mem]
    constructor
    · rintro ⟨ht, hc⟩
      obtain ⟨d, hd, hb⟩ := (corner_iff (hL t ht)).1 hc
      exact ⟨⟨d, hd, (fills_iff (hL t ht) hg hd).1 hb⟩, ht⟩
    · rintro ⟨⟨d, hd, e⟩, ht⟩
      exact ⟨ht, (corner_iff (hL t ht)).2 ⟨d, hd, (fills_iff (hL t ht) hg hd).2 e⟩⟩
  rw [hc, ← arnd_len, List.length_filter_eq_length_iff]
  constructor
  · intro h t ht
    obtain ⟨d, hd, rfl⟩ := arnd_mem.1 ht
    rw [decide_eq_true_eq]
    exact (bits_iff hL hg hd).1 (h d hd)
  · intro h d hd
    rw [bits_iff hL hg hd]
    have := h (tA pt d) (arnd_mem.2 ⟨d, hd, rfl⟩)
    rwa [decide_eq_true_eq] at this
/-- From a point in a direction: the other end of the edge. -/
def tw (pt : Int × Int) (d : Nat) : Int × Int := (pt.1 + (if d % 2 = 1 then 1 else 2) * dX d, pt.2 + (if d % 2 = 1 then 1 else 2) * dY d)
theorem tw_inj {pt : Int × Int} {d e : Nat} (hd : d < 8) (he : e < 8) (h : tw pt d = tw pt e) : d = e := by
  obtain ⟨p, q⟩ := pt
  simp only [tw, Prod.mk.injEq] at h
  rcases eight hd with rfl | rfl | rfl | rfl | rfl | rfl | rfl | rfl <;> rcases eight he with rfl | rfl | rfl | rfl | rfl | rfl | rfl | rfl <;> simp [dX, dY] at h <;> first | rfl | omega
/-- The direction from one point to another. -/
def dnum (p q r s : Int) : Nat := if p < r then (if q < s then 1 else if s < q then 7 else 0) else if r < p then (if q < s then 3 else if s < q then 5 else 4) else if q < s then 2 else 6
theorem dnum_lt (p q r s : Int) : dnum p q r s < 8 := by
  unfold dnum
  repeat' split
  all_goals omega
theorem dnum_cmp {p q r s : Int} (h : ¬ (p = r ∧ q = s)) : cmp3 r p = dX (dnum p q r s) ∧ cmp3 s q = dY (dnum p q r s) := by
  unfold dnum cmp3
  repeat' split
  all_goals first | (simp [dX, dY]; done) | omega
/-- The edge between a point and the one in a direction. -/
def eP (pt : Int × Int) (d : Nat) : Int × Int × Int × Int := (eA pt.1 pt.2 (tw pt d).1 (tw pt d).2, eB pt.1 pt.2 (tw pt d).1 (tw pt d).2, eC pt.1 pt.2 (tw pt d).1 (tw pt d).2, eD pt.1 pt.2 (tw pt d).1 (tw pt d).2)
/-- An edge of the grid: from its first end in a direction to its second. -/
def GE (e : Int × Int × Int × Int) : Prop := lessB e.1 e.2.1 e.2.2.1 e.2.2.2 = true ∧ tw (e.1, e.2.1) (dnum e.1 e.2.1 e.2.2.1 e.2.2.2) = (e.2.2.1, e.2.2.2) ∧ tw (e.2.2.1, e.2.2.2) (dnum e.2.2.1 e.2.2.2 e.1 e.2.1) = (e.1, e.2.1)
theorem eP_iff {e : Int × Int × Int × Int} {pt : Int × Int} {d : Nat} (hd : d < 8) (h : GE e) : eP pt d = e ↔ (pt = (e.1, e.2.1) ∧ d = dnum e.1 e.2.1 e.2.2.1 e.2.2.2) ∨ (pt = (e.2.2.1, e.2.2.2) ∧ d = dnum e.2.2.1 e.2.2.2 e.1 e.2.1) := by
  obtain ⟨p, q, r, s⟩ := e
  obtain ⟨h1, h2, h3⟩ := h
  simp only at h1 h2 h3
  have hl : p < r ∨ (p = r ∧ q < s) := by simpa [lessB] using h1
  constructor
  · intro he
    unfold eP eA eB eC eD at he
    by_cases c : lessB (tw pt d).1 (tw pt d).2 pt.1 pt.2 = true
    · simp only [c, if_true, Prod.mk.injEq] at he
      have hp : pt = (r, s) := Prod.ext he.2.2.1 he.2.2.2
      have ht : tw pt d = (p, q) := Prod.ext he.1 he.2.1
      refine Or.inr ⟨hp, ?_⟩
      rw [hp] at ht
      exact tw_inj hd (dnum_lt _ _ _ _) (ht.trans h3.symm)
    · simp only [c, Bool.false_eq_true, if_false, Prod.mk.injEq] at he
      have hp : pt = (p, q) := Prod.ext he.1 he.2.1
      have ht : tw pt d = (r, s) := Prod.ext he.2.2.1 he.2.2.2
      refine Or.inl ⟨hp, ?_⟩
      rw [hp] at ht
      exact tw_inj hd (dnum_lt _ _ _ _) (ht.trans h2.symm)
  · rintro (⟨rfl, rfl⟩ | ⟨rfl, rfl⟩)
    · have c : ¬ lessB r s p q = true := by simp [lessB]; omega
      simp only [eP, h2, eA, eB, eC, eD, c, Bool.false_eq_true, if_false]
    · simp only [eP, h3, eA, eB, eC, eD, h1, if_true]
/-- Kinds of creases at a point, direction by direction, as they are told one after the other. -/
def kc (ks : List Int) : Nat → Int × Int → Nat → Int
  | 0, _, _ => 0
  | i + 1, pt, d => if pt = (ck ks i 2, ck ks i 3) ∧ d = dnum (ck ks i 2) (ck ks i 3) (ck ks i 0) (ck ks i 1) then ck ks i 4 else if pt = (ck ks i 0, ck ks i 1) ∧ d = dnum (ck ks i 0) (ck ks i 1) (ck ks i 2) (ck ks i 3) then ck ks i 4 else kc ks i pt d
theorem kc_kdn {ks : List Int} {n : Nat} (h : ∀ i, i < n → GE (ck ks i 0, ck ks i 1, ck ks i 2, ck ks i 3)) {pt : Int × Int} {d : Nat} (hd : d < 8) : ∀ i, i ≤ n → kc ks i pt d = kdn ks i (eP pt d)
  | 0, _ => rfl
  | i + 1, hi => by
    have ih := kc_kdn h (pt := pt) hd i (by omega)
    have he := eP_iff (pt := pt) hd (h i (by omega))
    unfold kc kdn
    rw [← ih]
    by_cases c : eP pt d = (ck ks i 0, ck ks i 1, ck ks i 2, ck ks i 3)
    · rw [if_pos c]
      rcases he.1 c with e | e
      · split
        · rfl
        · rfl
      · rw [if_pos e]
    · rw [if_neg c, if_neg (fun e => c (he.2 (Or.inr e))), if_neg (fun e => c (he.2 (Or.inl e)))]
/-- The directions of the creases at a point, and their kinds. -/
def sdirs (f : Nat → Int) (m : Nat) : List Int := ((List.range m).filter fun d => decide (f d ≠ 0)).map fun d => ((d : Nat) : Int)
def skinds (f : Nat → Int) (m : Nat) : List Int := ((List.range m).filter fun d => decide (f d ≠ 0)).map f
theorem sdirs_succ (f : Nat → Int) (m : Nat) : sdirs f (m + 1) = if f m ≠ 0 then sdirs f m ++ [(m : Int)] else sdirs f m := by
  unfold sdirs
  rw [List.range_succ, List.filter_append, List.map_append]
  by_cases h : f m = 0 <;> simp [h]
theorem skinds_succ (f : Nat → Int) (m : Nat) : skinds f (m + 1) = if f m ≠ 0 then skinds f m ++ [f m] else skinds f m := by
  unfold skinds
  rw [List.range_succ, List.filter_append, List.map_append]
  by_cases h : f m = 0 <;> simp [h]
theorem sdirs_congr {f g : Nat → Int} (m : Nat) (h : ∀ d, d < m → f d = g d) : sdirs f m = sdirs g m ∧ skinds f m = skinds g m := by
  have : (List.range m).filter (fun d => decide (f d ≠ 0)) = (List.range m).filter (fun d => decide (g d ≠ 0)) := List.filter_congr (fun d hd => by rw [h d (List.mem_range.1 hd)])
  unfold sdirs skinds
  rw [this]
  refine ⟨rfl, List.map_congr_left (fun d hd => h d ?_)⟩
  exact List.mem_range.1 (List.mem_filter.1 hd).1
theorem sdirs_len (f : Nat → Int) (m : Nat) : (sdirs f m).length = (skinds f m).length ∧ (sdirs f m).length ≤ m := by
  unfold sdirs skinds
  rw [List.length_map, List.length_map]
  exact ⟨rfl, by have := List.length_filter_le (fun d => decide (f d ≠ 0)) (List.range m); simpa using this⟩
/-- An edge of a triangle is one of the grid. -/
theorem ge_of {t : Int × Int × Int} {p q r s : Int} (h : hasT t (p, q, r, s) = true) (hk : Kd t) : GE (p, q, r, s) := by
  obtain ⟨x, y, k⟩ := t
  obtain ⟨h0, h3⟩ := hk
  simp only [hasT] at h h0 h3
  rw [hasB_or] at h
  have h4 : k = 0 ∨ k = 1 ∨ k = 2 ∨ k = 3 := by omega
  have key : ((p + 1 = r ∧ q + 1 = s) ∨ (p + 1 = r ∧ q = s + 1)) ∨ ((p = r ∧ q + 2 = s) ∨ (p + 2 = r ∧ q = s)) := by
    rcases h4 with rfl | rfl | rfl | rfl <;> simp only [e0_0, e0_1, e0_2, e0_3, e1_0, e1_1, e1_2, e1_3, e2_0, e2_1, e2_2, e2_3] at h <;> omega
  clear h h4
  unfold GE
  rcases key with (⟨rfl, rfl⟩ | ⟨rfl, rfl⟩) | (⟨rfl, rfl⟩ | ⟨rfl, rfl⟩)
  · have n1 : dnum p q (p + 1) (q + 1) = 1 := by unfold dnum; rw [if_pos (by omega), if_pos (by omega)]
    have n2 : dnum (p + 1) (q + 1) p q = 5 := by unfold dnum; rw [if_neg (by omega), if_pos (by omega), if_neg (by omega), if_pos (by omega)]
    simp only [n1, n2]
    refine ⟨by simp [lessB] <;> omega, by simp [tw, dX, dY], by simp [tw, dX, dY] <;> omega⟩
  · have n1 : dnum p (s + 1) (p + 1) s = 7 := by unfold dnum; rw [if_pos (by omega), if_neg (by omega), if_pos (by omega)]
    have n2 : dnum (p + 1) s p (s + 1) = 3 := by unfold dnum; rw [if_neg (by omega), if_pos (by omega), if_pos (by omega)]
    simp only [n1, n2]
    refine ⟨by simp [lessB] <;> omega, by simp [tw, dX, dY] <;> omega, by simp [tw, dX, dY] <;> omega⟩
  · have n1 : dnum p q p (q + 2) = 2 := by unfold dnum; rw [if_neg (by omega), if_neg (by omega), if_pos (by omega)]
    have n2 : dnum p (q + 2) p q = 6 := by unfold dnum; rw [if_neg (by omega), if_neg (by omega), if_neg (by omega)]
    simp only [n1, n2]
    refine ⟨by simp [lessB] <;> omega, by simp [tw, dX, dY], by simp [tw, dX, dY] <;> omega⟩
  · have n1 : dnum p q (p + 2) q = 0 := by unfold dnum; rw [if_pos (by omega), if_neg (by omega), if_neg (by omega)]
    have n2 : dnum (p + 2) q p q = 4 := by unfold dnum; rw [if_neg (by omega), if_pos (by omega), if_neg (by omega), if_neg (by omega)]
    simp only [n1, n2]
    refine ⟨by simp [lessB] <;> omega, by simp [tw, dX, dY], by simp [tw, dX, dY] <;> omega⟩
end Go.Proofs.YtmjneoaciopioaaDoor
