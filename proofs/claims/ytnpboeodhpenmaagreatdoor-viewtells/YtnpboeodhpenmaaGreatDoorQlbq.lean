/- pile.Of: a state's paper, if it may be. -/
import Derived.Test.YtnpboeodhpenmaaGreatDoorQlbp
import Derived.Test.YtnpboeodhpenmaaGreatDoorQlbl
import Derived.Test.YtnpboeodhpenmaaGreatDoorQlbk
namespace Go.Proofs.YtnpboeodhpenmaaGreatDoor
open Go.RowKit

theorem by_any (w : World) (a : Option Addr) (n c : Nat) : Calls Tryz.prog 98 #[.slice a n c] w fun e w' => ∃ f, e = .returned f ∧ Below w.heap.size w w' := by
  have hmf := make_func
  go_enter Tryz.func98, Tryz.ntmps98
  go_wp2
  go_ret
  exact ⟨_, rfl, bl_alloc (bl_refl _)⟩
/-- A pile, apart from the row r. -/
structure PX (w0 w : World) (r base ra rk gm : Nat) (ad pa : Option Addr) (k : Nat) (L : List (Int × Int × Int)) (M : Nat → M6) (ks : List Int) (nk : Nat) : Prop where
  pk : PK w0 w base ra rk (.slice ad L.length k) L (gix L) (kf ks nk)
  mr : MRow w gm L.length M
  tr : TRow w pa (pls L M L.length)
  lo : w0.heap.size ≤ r
  n1 : r ≠ ra
  n2 : r ≠ rk
  n3 : r < base
  n4 : gm ≠ r
  n5 : ∀ g, pa = some ⟨g, 0, none⟩ → g ≠ r
theorem PX.kept {w0 w w' : World} {r base ra rk gm : Nat} {ad pa : Option Addr} {k : Nat} {L : List (Int × Int × Int)} {M : Nat → M6} {ks : List Int} {nk : Nat} (h : PX w0 w r base ra rk gm ad pa k L M ks nk) (hb : Below w.heap.size w w') : PX w0 w' r base ra rk gm ad pa k L M ks nk := ⟨h.pk.kept hb, h.mr.kept hb, h.tr.kept hb, h.lo, h.n1, h.n2, h.n3, h.n4, h.n5⟩
theorem PX.dr {w0 w : World} {r base ra rk gm : Nat} {ad pa : Option Addr} {k : Nat} {L : List (Int × Int × Int)} {M : Nat → M6} {ks : List Int} {nk : Nat} (h : PX w0 w r base ra rk gm ad pa k L M ks nk) : PX w0 w.drew r base ra rk gm ad pa k L M ks nk := h.kept (bl_drew (bl_refl _))
theorem PX.set {w0 w : World} {r base ra rk gm : Nat} {ad pa : Option Addr} {k : Nat} {L : List (Int × Int × Int)} {M : Nat → M6} {ks : List Int} {nk : Nat} (h : PX w0 w r base ra rk gm ad pa k L M ks nk) (o : Nat) (u : Value) : PX w0 (w.setCell ⟨r, o, none⟩ u) r base ra rk gm ad pa k L M ks nk := by
  have hg := grown_cell w r o u
  exact ⟨h.pk.grown hg h.lo h.n1 h.n2 h.n3, h.mr.grown hg (by have := h.n4; simpa using this), h.tr.grown hg h.n5, h.lo, h.n1, h.n2, h.n3, h.n4, h.n5⟩
theorem PX.pile {w0 w : World} {r base ra rk gm : Nat} {ad pa : Option Addr} {k cm pc : Nat} {L : List (Int × Int × Int)} {M : Nat → M6} {ks : List Int} {nk : Nat} (h : PX w0 w r base ra rk gm ad pa k L M ks nk) : PileAt w ad k ra rk gm cm pa pc L (kdn ks nk) M := ⟨h.pk.pa, h.pk.kl, h.mr, h.tr⟩
/-- What Of answers where the state may not be. -/
def OfNo (w w' : World) (e : Ending) : Prop := ∃ z0 k0 d0 m1 m2 z3 k3 d3 z4 k4 d4 f, e = .returned (.tuple #[.agg #[.slice z0 k0 d0, .map m1, .map m2, .slice z3 k3 d3, .slice z4 k4 d4], f, .bool false]) ∧ Below w.heap.size w w'
/-- Maps and stacks as they must be. -/
def SOk (kd : Int × Int × Int × Int → Int) (L : List (Int × Int × Int)) (mn : Nat) (M : Nat → M6) (S : List ((Int × Int × Int) × List (Int × Int × Int))) : Prop := mn = L.length ∧ MOk kd L M ∧ StOk L (plF (pls L M L.length)) S
def OfTo (w w' : World) (kd : Int × Int × Int × Int → Int) (L : List (Int × Int × Int)) (mn : Nat) (M : Nat → M6) (S : List ((Int × Int × Int) × List (Int × Int × Int))) (e : Ending) : Prop := (OfNo w w' e ∧ ¬ SOk kd L mn M S) ∨ (SOk kd L mn M S ∧ ∃ ad k ra rk gm cm pa pc f, e = .returned (.tuple #[.agg #[.slice ad L.length k, .map (some ra), .map (some rk), .slice (some ⟨gm, 0, none⟩) L.length cm, .slice pa L.length pc], f, .bool true]) ∧ PileAt w' ad k ra rk gm cm pa pc L kd M ∧ Below w.heap.size w w')
set_option maxRecDepth 100000 in
set_option maxHeartbeats 3200000 in
theorem of_no (W H : Int) (a c mp sp : Option Addr) (zl ca n cc mn mc sn sc : Nat) (w : World) (CL : Hid (∀ V : World, Below w.heap.size w V → Calls Tryz.prog 85 #[.agg #[.int .i64 W, .int .i64 H, .slice a zl ca, .slice c n cc]] V fun e w' => e = .returned (.tuple #[.agg #[.slice none 0 0, .map none, .map none], .bool false]) ∧ Below V.heap.size V w')) :
    Calls Tryz.prog 36 #[.agg #[.int .i64 W, .int .i64 H, .slice a zl ca, .slice c n cc, .slice mp mn mc, .slice sp sn sc]] w fun e w' => OfNo w w' e := by
  go_enter Tryz.func36, Tryz.ntmps36
  go_wp2_with (go_at_call 85; refine (CL.out _ (by with_reducible exact bl_alloc (bl_alloc (bl_refl _)))).mono ?_; rintro e w2 ⟨rfl, hb⟩; have HB2 : Hid (Below w.heap.size w w2) := bl_via (bl_alloc (bl_alloc (bl_refl _))) hb; have d0 : w2.cell? ⟨w.heap.size + 1, 0, none⟩ = some (.slice none 0 0) := cl_kept hb (by simp [go_sem]); have d1 : w2.cell? ⟨w.heap.size + 1, 1, none⟩ = some (.map none) := cl_kept hb (by simp [go_sem]); have d2 : w2.cell? ⟨w.heap.size + 1, 2, none⟩ = some (.map none) := cl_kept hb (by simp [go_sem]); have d3 : w2.cell? ⟨w.heap.size + 1, 3, none⟩ = some (.slice none 0 0) := cl_kept hb (by simp [go_sem]); have d4 : w2.cell? ⟨w.heap.size + 1, 4, none⟩ = some (.slice none 0 0) := cl_kept hb (by simp [go_sem]); have zD : w.heap.size + 1 < w2.heap.size := World.block_lt_of_cell? _ _ d0; have k0 : w2.frozen? ⟨w.heap.size + 1, 0, none⟩ = false := (Below.frozen hb (by simp)).trans (by simp [go_sem]); have k1 : w2.frozen? ⟨w.heap.size + 1, 1, none⟩ = false := (Below.frozen hb (by simp)).trans (by simp [go_sem]); have k2 : w2.frozen? ⟨w.heap.size + 1, 2, none⟩ = false := (Below.frozen hb (by simp)).trans (by simp [go_sem]); have k3 : w2.frozen? ⟨w.heap.size + 1, 3, none⟩ = false := (Below.frozen hb (by simp)).trans (by simp [go_sem]); have k4 : w2.frozen? ⟨w.heap.size + 1, 4, none⟩ = false := (Below.frozen hb (by simp)).trans (by simp [go_sem]); clear hb)
  refine bodyPost_ret (v := .tuple #[.agg #[.slice none 0 0, .map none, .map none, .slice none 0 0, .slice none 0 0], .nilFunc, .bool false]) (by simp [results, Tryz.results36, go_sem, *]) rfl ⟨none, 0, 0, none, none, none, 0, 0, none, 0, 0, _, rfl, ?_⟩
  with_reducible repeat' (first | exact HB2.out | refine bl_set ?_ ?_ | refine bl_alloc ?_)
  all_goals (dsimp only; omega)
theorem ofTo_of {w w' : World} {r base ra rk gm : Nat} {ad pa : Option Addr} {k mc pc : Nat} {L : List (Int × Int × Int)} {M : Nat → M6} {ks : List Int} {nk : Nat} {S : List ((Int × Int × Int) × List (Int × Int × Int))} {bh : Bool} {f : Value} (h1 : bh = true ↔ StOk L (plF (pls L M L.length)) S) (h2 : MOk (kdn ks nk) L M) (hp : PX w w' r base ra rk gm ad pa k L M ks nk) : OfTo w w' (kdn ks nk) L L.length M S (.returned (.tuple #[.agg #[.slice ad L.length k, .map (some ra), .map (some rk), .slice (some ⟨gm, 0, none⟩) L.length mc, .slice pa L.length pc], f, .bool bh])) := by
  have hb : Below w.heap.size w w' := hp.pk.2.2.2.2
  cases bh
  · exact Or.inl ⟨⟨_, _, _, _, _, _, _, _, _, _, _, _, rfl, hb⟩, fun h => by have := h1.2 h.2.2; cases this⟩
  · exact Or.inr ⟨⟨rfl, h2, h1.1 rfl⟩, ad, k, ra, rk, gm, mc, pa, pc, f, rfl, hp.pile, hb⟩
set_option maxRecDepth 100000 in
set_option maxHeartbeats 6400000 in
theorem of_yes (W H : Int) (a c mp sp : Option Addr) (zl ca n cc mn mc sc : Nat) (w : World) (ks : List Int) (nk : Nat) (L : List (Int × Int × Int)) (M : Nat → M6) (S : List ((Int × Int × Int) × List (Int × Int × Int))) (hs : Steps w)
    (CL : Hid (∀ V : World, Below w.heap.size w V → Calls Tryz.prog 85 #[.agg #[.int .i64 W, .int .i64 H, .slice a zl ca, .slice c n cc]] V fun e w' => ∃ ad k base ra rk, e = .returned (.tuple #[.agg #[.slice ad L.length k, .map (some ra), .map (some rk)], .bool true]) ∧ PK V w' base ra rk (.slice ad L.length k) L (gix L) (kf ks nk)))
    (hM : 0 < mn → ∃ gm, mp = some ⟨gm, 0, none⟩ ∧ MRow w gm mn M) (hS : SRow w sp S) (hup : L.Pairwise ltT) (h0 : 0 < L.length) (hL : L.length ≤ 300) (hbd : ∀ t ∈ L, (0 ≤ t.1 ∧ t.1 ≤ 8) ∧ (0 ≤ t.2.1 ∧ t.2.1 ≤ 8) ∧ (0 ≤ t.2.2 ∧ t.2.2 ≤ 3)) (hSl : S.length ≤ 17592186044416) (hSe : ∀ s ∈ S, s.2.length ≤ 17592186044416) :
    Calls Tryz.prog 36 #[.agg #[.int .i64 W, .int .i64 H, .slice a zl ca, .slice c n cc, .slice mp mn mc, .slice sp S.length sc]] w fun e w' => OfTo w w' (kdn ks nk) L mn M S e := by
  have HS : Hid (Steps w ∧ SRow w sp S ∧ L.Pairwise ltT ∧ (∀ t ∈ L, (0 ≤ t.1 ∧ t.1 ≤ 8) ∧ (0 ≤ t.2.1 ∧ t.2.1 ≤ 8) ∧ (0 ≤ t.2.2 ∧ t.2.2 ≤ 3)) ∧ ∀ s ∈ S, s.2.length ≤ 17592186044416) := ⟨hs, hS, hup, hbd, hSe⟩
  have HM : Hid (0 < mn → ∃ gm, mp = some ⟨gm, 0, none⟩ ∧ MRow w gm mn M) := hM
  clear hs hS hup hbd hSe hM
  go_enter Tryz.func36, Tryz.ntmps36
  go_upto_region 4 with (go_at_call 85; refine (CL.out _ (by with_reducible exact bl_alloc (bl_alloc (bl_refl _)))).mono ?_; rintro e w2 ⟨ad, k, base, ra, rk, rfl, hpk⟩; have HB2 : Hid (PK ((w.alloc (.cells #[.int .i64 W, .int .i64 H, .slice a zl ca, .slice c n cc, .slice mp mn mc, .slice sp S.length sc] 29)).alloc (.cells #[.slice none 0 0, .map none, .map none, .slice none 0 0, .slice none 0 0] 100)) w2 base ra rk (.slice ad L.length k) L (gix L) (kf ks nk)) := hpk; clear hpk)
  refine wp_named (fun W3 hW3 => ?_)
  obtain ⟨G, hG⟩ : ∃ G, G = w2.heap.size := ⟨_, rfl⟩
  have hb3 : Below w2.heap.size w2 W3 := by
    rw [hW3]
    with_reducible repeat (first | exact bl_refl _ | refine bl_alloc ?_ | refine bl_set ?_ ?_)
    all_goals (dsimp only; omega)
  have q0 : W3.cell? ⟨G, 0, none⟩ = some (.slice ad L.length k) := by rw [hW3, hG]; simp [go_sem]
  have q1 : W3.cell? ⟨G, 1, none⟩ = some (.map (some ra)) := by rw [hW3, hG]; simp [go_sem]
  have q2 : W3.cell? ⟨G, 2, none⟩ = some (.map (some rk)) := by rw [hW3, hG]; simp [go_sem]
  rw [← hG]
  have HB3 : Hid (Below ((w.alloc (.cells #[.int .i64 W, .int .i64 H, .slice a zl ca, .slice c n cc, .slice mp mn mc, .slice sp S.length sc] 29)).alloc (.cells #[.slice none 0 0, .map none, .map none, .slice none 0 0, .slice none 0 0] 100)).heap.size ((w.alloc (.cells #[.int .i64 W, .int .i64 H, .slice a zl ca, .slice c n cc, .slice mp mn mc, .slice sp S.length sc] 29)).alloc (.cells #[.slice none 0 0, .map none, .map none, .slice none 0 0, .slice none 0 0] 100)) W3 ∧ PK ((w.alloc (.cells #[.int .i64 W, .int .i64 H, .slice a zl ca, .slice c n cc, .slice mp mn mc, .slice sp S.length sc] 29)).alloc (.cells #[.slice none 0 0, .map none, .map none, .slice none 0 0, .slice none 0 0] 100)) W3 base ra rk (.slice ad L.length k) L (gix L) (kf ks nk) ∧ Below w.heap.size w W3) := ⟨bl_via HB2.out.2.2.2.2 hb3, HB2.out.kept hb3, bl_via (bl_alloc (bl_alloc (bl_refl _))) (bl_via HB2.out.2.2.2.2 hb3)⟩
  clear hW3 hG hb3 HB2
  have x4 : W3.cell? ⟨w.heap.size, 4, none⟩ = some (.slice mp mn mc) := cl_kept HB3.out.1 (by simp [go_sem])
  have zq : G < W3.heap.size := World.block_lt_of_cell? _ _ q0
  have zx : w.heap.size < W3.heap.size := World.block_lt_of_cell? _ _ x4
  by_cases hmn : mn = L.length
  · obtain ⟨gm, rfl, hmr⟩ := HM.out (by omega)
    subst hmn
    have CS : Hid (∀ V : World, Below W3.heap.size W3 V → Calls Tryz.prog 96 #[.agg #[.slice ad L.length k, .map (some ra), .map (some rk)], .slice (some ⟨gm, 0, none⟩) L.length mc] V fun e w' => SprTo V w' ad k ra rk gm mc L (kdn ks nk) M e) := fun V hV => spread_gen V k ra rk gm mc ad L (kdn ks nk) M (HS.out.1.kept (bl_via HB3.out.2.2 hV)) (HB3.out.2.1.pa.kept hV) (HB3.out.2.1.kl.kept hV) hL HS.out.2.2.2.1 (hmr.kept (bl_via HB3.out.2.2 hV))
    clear HM
    go_upto_region 5 with (go_at_call 96; refine (CS.out _ (bl_refl _)).mono ?_; rintro e w4 h4; have H4 : Hid (SprTo W3 w4 ad k ra rk gm mc L (kdn ks nk) M e) := h4; clear h4; rcases H4.out with ⟨z0, k0, d0, m1, m2, z3, k3, d3, z4, k4, d4, rfl, hno, hb4⟩ | ⟨pa, pc, rfl, hok, hT4, hb4⟩)
    · have HB4 : Hid (Below ((w.alloc (.cells #[.int .i64 W, .int .i64 H, .slice a zl ca, .slice c n cc, .slice (some ⟨gm, 0, none⟩) L.length mc, .slice sp S.length sc] 29)).alloc (.cells #[.slice none 0 0, .map none, .map none, .slice none 0 0, .slice none 0 0] 100)).heap.size ((w.alloc (.cells #[.int .i64 W, .int .i64 H, .slice a zl ca, .slice c n cc, .slice (some ⟨gm, 0, none⟩) L.length mc, .slice sp S.length sc] 29)).alloc (.cells #[.slice none 0 0, .map none, .map none, .slice none 0 0, .slice none 0 0] 100)) w4 ∧ ¬ MOk (kdn ks nk) L M) := ⟨bl_via HB3.out.1 hb4, hno⟩
      clear hno hb4 q0 q1 q2 x4 zq zx H4 CS hmr
      have e0 : w4.cell? ⟨w.heap.size + 1, 0, none⟩ = some (.slice none 0 0) := cl_kept HB4.out.1 (by simp [go_sem])
      have e1 : w4.cell? ⟨w.heap.size + 1, 1, none⟩ = some (.map none) := cl_kept HB4.out.1 (by simp [go_sem])
      have e2 : w4.cell? ⟨w.heap.size + 1, 2, none⟩ = some (.map none) := cl_kept HB4.out.1 (by simp [go_sem])
      have e3 : w4.cell? ⟨w.heap.size + 1, 3, none⟩ = some (.slice none 0 0) := cl_kept HB4.out.1 (by simp [go_sem])
      have e4 : w4.cell? ⟨w.heap.size + 1, 4, none⟩ = some (.slice none 0 0) := cl_kept HB4.out.1 (by simp [go_sem])
      have zD : w.heap.size + 1 < w4.heap.size := World.block_lt_of_cell? _ _ e0
      have f0 : w4.frozen? ⟨w.heap.size + 1, 0, none⟩ = false := (Below.frozen HB4.out.1 (by simp)).trans (by simp [go_sem])
      have f1 : w4.frozen? ⟨w.heap.size + 1, 1, none⟩ = false := (Below.frozen HB4.out.1 (by simp)).trans (by simp [go_sem])
      have f2 : w4.frozen? ⟨w.heap.size + 1, 2, none⟩ = false := (Below.frozen HB4.out.1 (by simp)).trans (by simp [go_sem])
      have f3 : w4.frozen? ⟨w.heap.size + 1, 3, none⟩ = false := (Below.frozen HB4.out.1 (by simp)).trans (by simp [go_sem])
      have f4 : w4.frozen? ⟨w.heap.size + 1, 4, none⟩ = false := (Below.frozen HB4.out.1 (by simp)).trans (by simp [go_sem])
      go_wp2
      refine bodyPost_ret (v := .tuple #[.agg #[.slice none 0 0, .map none, .map none, .slice none 0 0, .slice none 0 0], .nilFunc, .bool false]) (by simp [results, Tryz.results36, go_sem, *]) rfl (Or.inl ⟨⟨none, 0, 0, none, none, none, 0, 0, none, 0, 0, _, rfl, ?_⟩, fun h => HB4.out.2 h.2.1⟩)
      with_reducible repeat' (first | exact bl_via (bl_alloc (bl_alloc (bl_refl _))) HB4.out.1 | refine bl_set ?_ ?_ | refine bl_alloc ?_)
      all_goals (dsimp only; omega)
    · have hd0 : w4.cell? ⟨w.heap.size + 1, 0, none⟩ = some (.slice none 0 0) := cl_kept (bl_via HB3.out.1 hb4) (by simp [go_sem])
      have HB4 : Hid (Below ((w.alloc (.cells #[.int .i64 W, .int .i64 H, .slice a zl ca, .slice c n cc, .slice (some ⟨gm, 0, none⟩) L.length mc, .slice sp S.length sc] 29)).alloc (.cells #[.slice none 0 0, .map none, .map none, .slice none 0 0, .slice none 0 0] 100)).heap.size ((w.alloc (.cells #[.int .i64 W, .int .i64 H, .slice a zl ca, .slice c n cc, .slice (some ⟨gm, 0, none⟩) L.length mc, .slice sp S.length sc] 29)).alloc (.cells #[.slice none 0 0, .map none, .map none, .slice none 0 0, .slice none 0 0] 100)) w4 ∧ MOk (kdn ks nk) L M ∧ PX w w4 (w.heap.size + 1) base ra rk gm ad pa k L M ks nk) := by
        obtain ⟨_, _, _, ⟨a1, a2, a3, a4, a5, a6, a7⟩, _⟩ := HB3.out.2.1
        simp only [World.size_alloc] at a1 a2 a3 a4 a5 a6 a7
        have hgm := World.block_lt_of_cell? _ _ (hmr 0 h0).1.1
        dsimp only at hgm
        exact ⟨bl_via HB3.out.1 hb4, hok, (HB3.out.2.1.base (bl_alloc (bl_alloc (bl_refl _)))).kept hb4, (hmr.kept HB3.out.2.2).kept hb4, hT4, by omega, by omega, by omega, by omega, by omega, hT4.not_at (by rw [pls_len]; exact h0) hd0⟩
      clear hd0
      clear hok hT4 hb4 q0 q1 q2 x4 zq zx H4 CS HB3 hmr
      go_upto_region 7 with fail
      refine wp_named (fun W5 hW5 => ?_)
      obtain ⟨G2, hG2⟩ : ∃ G, G = w4.heap.size := ⟨_, rfl⟩
      have hb5 : Below w4.heap.size w4 W5 := by
        rw [hW5]
        with_reducible repeat (first | exact bl_refl _ | refine bl_alloc ?_ | refine bl_set ?_ ?_)
        all_goals (dsimp only; omega)
      have q0 : W5.cell? ⟨G2, 0, none⟩ = some (.slice ad L.length k) := by rw [hW5, hG2]; simp [go_sem]
      have q1 : W5.cell? ⟨G2, 1, none⟩ = some (.map (some ra)) := by rw [hW5, hG2]; simp [go_sem]
      have q2 : W5.cell? ⟨G2, 2, none⟩ = some (.map (some rk)) := by rw [hW5, hG2]; simp [go_sem]
      have q3 : W5.cell? ⟨G2, 3, none⟩ = some (.slice (some ⟨gm, 0, none⟩) L.length mc) := by rw [hW5, hG2]; simp [go_sem]
      have q4 : W5.cell? ⟨G2, 4, none⟩ = some (.slice pa L.length pc) := by rw [hW5, hG2]; simp [go_sem]
      rw [← hG2]
      have HB5 : Hid (Below ((w.alloc (.cells #[.int .i64 W, .int .i64 H, .slice a zl ca, .slice c n cc, .slice (some ⟨gm, 0, none⟩) L.length mc, .slice sp S.length sc] 29)).alloc (.cells #[.slice none 0 0, .map none, .map none, .slice none 0 0, .slice none 0 0] 100)).heap.size ((w.alloc (.cells #[.int .i64 W, .int .i64 H, .slice a zl ca, .slice c n cc, .slice (some ⟨gm, 0, none⟩) L.length mc, .slice sp S.length sc] 29)).alloc (.cells #[.slice none 0 0, .map none, .map none, .slice none 0 0, .slice none 0 0] 100)) W5 ∧ MOk (kdn ks nk) L M ∧ PX w W5 (w.heap.size + 1) base ra rk gm ad pa k L M ks nk) := ⟨bl_via HB4.out.1 hb5, HB4.out.2.1, HB4.out.2.2.kept hb5⟩
      clear hW5 hG2 hb5 HB4
      have x5 : W5.cell? ⟨w.heap.size, 5, none⟩ = some (.slice sp S.length sc) := cl_kept HB5.out.1 (by simp [go_sem])
      have zq : G2 < W5.heap.size := World.block_lt_of_cell? _ _ q0
      have zx : w.heap.size < W5.heap.size := World.block_lt_of_cell? _ _ x5
      have CH : Hid (∀ V : World, Below W5.heap.size W5 V → Calls Tryz.prog 97 #[.agg #[.slice ad L.length k, .map (some ra), .map (some rk), .slice (some ⟨gm, 0, none⟩) L.length mc, .slice pa L.length pc], .slice sp S.length sc] V fun e w' => HgTo L (pls L M L.length) S V w' e) := fun V hV => heights_any V L.length k pc sc ra rk gm mc ad pa sp L (pls L M L.length) S (HB5.out.2.2.pk.pa.1.kept hV) (HB5.out.2.2.tr.kept hV) (HS.out.2.1.kept (bl_via HB5.out.2.2.pk.2.2.2.2 hV)) rfl (pls_len _ _ _) HS.out.2.2.1 h0 hL hSl HS.out.2.2.2.2
      go_upto_region 8 with (go_at_call 97; refine (CH.out _ (bl_refl _)).mono ?_; rintro e w6 ⟨ha, hn', hc, bh, rfl, hbh, hb6⟩; have HB6 : Hid (Below ((w.alloc (.cells #[.int .i64 W, .int .i64 H, .slice a zl ca, .slice c n cc, .slice (some ⟨gm, 0, none⟩) L.length mc, .slice sp S.length sc] 29)).alloc (.cells #[.slice none 0 0, .map none, .map none, .slice none 0 0, .slice none 0 0] 100)).heap.size ((w.alloc (.cells #[.int .i64 W, .int .i64 H, .slice a zl ca, .slice c n cc, .slice (some ⟨gm, 0, none⟩) L.length mc, .slice sp S.length sc] 29)).alloc (.cells #[.slice none 0 0, .map none, .map none, .slice none 0 0, .slice none 0 0] 100)) w6 ∧ Below W5.heap.size W5 w6 ∧ (bh = true ↔ StOk L (plF (pls L M L.length)) S)) := ⟨bl_via HB5.out.1 hb6, hb6, hbh⟩; replace q0 := cl_kept hb6 q0; replace q1 := cl_kept hb6 q1; replace q2 := cl_kept hb6 q2; replace q3 := cl_kept hb6 q3; replace q4 := cl_kept hb6 q4; clear hb6 hbh)
      clear x5 zx CH
      replace zq : G2 < w6.heap.size := World.block_lt_of_cell? _ _ q0
      have d0 : w6.cell? ⟨w.heap.size + 1, 0, none⟩ = some (.slice none 0 0) := cl_kept HB6.out.1 (by simp [go_sem])
      have d1 : w6.cell? ⟨w.heap.size + 1, 1, none⟩ = some (.map none) := cl_kept HB6.out.1 (by simp [go_sem])
      have d2 : w6.cell? ⟨w.heap.size + 1, 2, none⟩ = some (.map none) := cl_kept HB6.out.1 (by simp [go_sem])
      have d3 : w6.cell? ⟨w.heap.size + 1, 3, none⟩ = some (.slice none 0 0) := cl_kept HB6.out.1 (by simp [go_sem])
      have d4 : w6.cell? ⟨w.heap.size + 1, 4, none⟩ = some (.slice none 0 0) := cl_kept HB6.out.1 (by simp [go_sem])
      have zD : w.heap.size + 1 < w6.heap.size := World.block_lt_of_cell? _ _ d0
      have k0 : w6.frozen? ⟨w.heap.size + 1, 0, none⟩ = false := (Below.frozen HB6.out.1 (by simp)).trans (by simp [go_sem])
      have k1 : w6.frozen? ⟨w.heap.size + 1, 1, none⟩ = false := (Below.frozen HB6.out.1 (by simp)).trans (by simp [go_sem])
      have k2 : w6.frozen? ⟨w.heap.size + 1, 2, none⟩ = false := (Below.frozen HB6.out.1 (by simp)).trans (by simp [go_sem])
      have k3 : w6.frozen? ⟨w.heap.size + 1, 3, none⟩ = false := (Below.frozen HB6.out.1 (by simp)).trans (by simp [go_sem])
      have k4 : w6.frozen? ⟨w.heap.size + 1, 4, none⟩ = false := (Below.frozen HB6.out.1 (by simp)).trans (by simp [go_sem])
      have zne : G2 ≠ w.heap.size + 1 := by
        intro e
        rw [e] at q0
        rw [d0] at q0
        simp only [Option.some.injEq, Value.slice.injEq] at q0
        omega
      go_region_held3 (fun w' => w'.cell? ⟨G2, 0, none⟩ = some (.slice ad L.length k) ∧ w'.cell? ⟨G2, 1, none⟩ = some (.map (some ra)) ∧ w'.cell? ⟨G2, 2, none⟩ = some (.map (some rk)) ∧ w'.cell? ⟨G2, 3, none⟩ = some (.slice (some ⟨gm, 0, none⟩) L.length mc) ∧ w'.cell? ⟨G2, 4, none⟩ = some (.slice pa L.length pc))
        ((refine ⟨?_, ?_, ?_, ?_, ?_⟩ <;> (repeat' (first | (with_reducible assumption) | (with_reducible refine st_far ?_ ?_) | (dsimp only; omega) | (simp [go_sem]; done) | (with_reducible refine al_old ?_) | (with_reducible refine dr_old ?_)))))
        ((go_at_call 98; refine (by_any _ ha hn' hc).mono ?_; rintro e w8 ⟨f, rfl, hb⟩; have c0_8 : w8.cell? ⟨G2, 0, none⟩ = some (.slice ad L.length k) := cl_kept hb (by with_reducible (repeat (first | assumption | refine dr_old ?_ | refine al_old ?_))); have c1_8 : w8.cell? ⟨G2, 1, none⟩ = some (.map (some ra)) := cl_kept hb (by with_reducible (repeat (first | assumption | refine dr_old ?_ | refine al_old ?_))); have c2_8 : w8.cell? ⟨G2, 2, none⟩ = some (.map (some rk)) := cl_kept hb (by with_reducible (repeat (first | assumption | refine dr_old ?_ | refine al_old ?_))); have c3_8 : w8.cell? ⟨G2, 3, none⟩ = some (.slice (some ⟨gm, 0, none⟩) L.length mc) := cl_kept hb (by with_reducible (repeat (first | assumption | refine dr_old ?_ | refine al_old ?_))); have c4_8 : w8.cell? ⟨G2, 4, none⟩ = some (.slice pa L.length pc) := cl_kept hb (by with_reducible (repeat (first | assumption | refine dr_old ?_ | refine al_old ?_))); have d0_8 : w8.cell? ⟨w.heap.size + 1, 0, none⟩ = some (.slice none 0 0) := cl_kept hb (by with_reducible (repeat (first | assumption | refine dr_old ?_ | refine al_old ?_))); have k0_8 : w8.frozen? ⟨w.heap.size + 1, 0, none⟩ = false := (hb.frozen (by dsimp only; first | exact zD | (simp; exact zD))).trans (by first | exact k0 | (simp [go_sem, k0]; done)); have d1_8 : w8.cell? ⟨w.heap.size + 1, 1, none⟩ = some (.map none) := cl_kept hb (by with_reducible (repeat (first | assumption | refine dr_old ?_ | refine al_old ?_))); have k1_8 : w8.frozen? ⟨w.heap.size + 1, 1, none⟩ = false := (hb.frozen (by dsimp only; first | exact zD | (simp; exact zD))).trans (by first | exact k1 | (simp [go_sem, k1]; done)); have d2_8 : w8.cell? ⟨w.heap.size + 1, 2, none⟩ = some (.map none) := cl_kept hb (by with_reducible (repeat (first | assumption | refine dr_old ?_ | refine al_old ?_))); have k2_8 : w8.frozen? ⟨w.heap.size + 1, 2, none⟩ = false := (hb.frozen (by dsimp only; first | exact zD | (simp; exact zD))).trans (by first | exact k2 | (simp [go_sem, k2]; done)); have d3_8 : w8.cell? ⟨w.heap.size + 1, 3, none⟩ = some (.slice none 0 0) := cl_kept hb (by with_reducible (repeat (first | assumption | refine dr_old ?_ | refine al_old ?_))); have k3_8 : w8.frozen? ⟨w.heap.size + 1, 3, none⟩ = false := (hb.frozen (by dsimp only; first | exact zD | (simp; exact zD))).trans (by first | exact k3 | (simp [go_sem, k3]; done)); have d4_8 : w8.cell? ⟨w.heap.size + 1, 4, none⟩ = some (.slice none 0 0) := cl_kept hb (by with_reducible (repeat (first | assumption | refine dr_old ?_ | refine al_old ?_))); have k4_8 : w8.frozen? ⟨w.heap.size + 1, 4, none⟩ = false := (hb.frozen (by dsimp only; first | exact zD | (simp; exact zD))).trans (by first | exact k4 | (simp [go_sem, k4]; done)); have hq : Below w6.heap.size w6 w8 := (by with_reducible (first | exact hb | exact bl_undrew hb | exact bl_undrew (bl_undrew hb))); have HQ8 : Hid (Below w6.heap.size w6 w8) := hq; have zs1 : w.heap.size + 1 < w8.heap.size := World.block_lt_of_cell? _ _ d0_8; have zs2 : G2 < w8.heap.size := World.block_lt_of_cell? _ _ c0_8; clear hb hq))
      all_goals
        go_wp2
        refine bodyPost_ret (v := .tuple #[.agg #[.slice ad L.length k, .map (some ra), .map (some rk), .slice (some ⟨gm, 0, none⟩) L.length mc, .slice pa L.length pc], f, .bool bh]) (by simp [results, Tryz.results36, go_sem, *]) rfl ?_
        refine ofTo_of HB6.out.2.2 HB5.out.2.1 (r := w.heap.size + 1) (base := base) ?_
        have hp8 := (HB5.out.2.2.kept HB6.out.2.1).kept HQ8.out
        with_reducible repeat' (first | exact hp8 | refine PX.set ?_ _ _ | refine PX.dr ?_)
  · have CS : Hid (∀ V : World, Calls Tryz.prog 96 #[.agg #[.slice ad L.length k, .map (some ra), .map (some rk)], .slice mp mn mc] V fun e w' => e = .returned (.tuple #[.agg #[.slice none 0 0, .map none, .map none, .slice none 0 0, .slice none 0 0], .bool false]) ∧ Below V.heap.size V w') := fun V => spread_len V L.length k ra rk mn mc ad mp hmn
    have HNE : Hid (mn ≠ L.length) := hmn
    clear hmn
    go_upto_region 5 with (go_at_call 96; refine (CS.out _).mono ?_; rintro e w4 ⟨rfl, hb4⟩; have HB4 : Hid (Below ((w.alloc (.cells #[.int .i64 W, .int .i64 H, .slice a zl ca, .slice c n cc, .slice mp mn mc, .slice sp S.length sc] 29)).alloc (.cells #[.slice none 0 0, .map none, .map none, .slice none 0 0, .slice none 0 0] 100)).heap.size ((w.alloc (.cells #[.int .i64 W, .int .i64 H, .slice a zl ca, .slice c n cc, .slice mp mn mc, .slice sp S.length sc] 29)).alloc (.cells #[.slice none 0 0, .map none, .map none, .slice none 0 0, .slice none 0 0] 100)) w4) := bl_via HB3.out.1 hb4; clear hb4)
    clear q0 q1 q2 x4 zq zx CS
    have d0 : w4.cell? ⟨w.heap.size + 1, 0, none⟩ = some (.slice none 0 0) := cl_kept HB4.out (by simp [go_sem])
    have d1 : w4.cell? ⟨w.heap.size + 1, 1, none⟩ = some (.map none) := cl_kept HB4.out (by simp [go_sem])
    have d2 : w4.cell? ⟨w.heap.size + 1, 2, none⟩ = some (.map none) := cl_kept HB4.out (by simp [go_sem])
    have d3 : w4.cell? ⟨w.heap.size + 1, 3, none⟩ = some (.slice none 0 0) := cl_kept HB4.out (by simp [go_sem])
    have d4 : w4.cell? ⟨w.heap.size + 1, 4, none⟩ = some (.slice none 0 0) := cl_kept HB4.out (by simp [go_sem])
    have zD : w.heap.size + 1 < w4.heap.size := World.block_lt_of_cell? _ _ d0
    have k0 : w4.frozen? ⟨w.heap.size + 1, 0, none⟩ = false := (Below.frozen HB4.out (by simp)).trans (by simp [go_sem])
    have k1 : w4.frozen? ⟨w.heap.size + 1, 1, none⟩ = false := (Below.frozen HB4.out (by simp)).trans (by simp [go_sem])
    have k2 : w4.frozen? ⟨w.heap.size + 1, 2, none⟩ = false := (Below.frozen HB4.out (by simp)).trans (by simp [go_sem])
    have k3 : w4.frozen? ⟨w.heap.size + 1, 3, none⟩ = false := (Below.frozen HB4.out (by simp)).trans (by simp [go_sem])
    have k4 : w4.frozen? ⟨w.heap.size + 1, 4, none⟩ = false := (Below.frozen HB4.out (by simp)).trans (by simp [go_sem])
    go_wp2
    refine bodyPost_ret (v := .tuple #[.agg #[.slice none 0 0, .map none, .map none, .slice none 0 0, .slice none 0 0], .nilFunc, .bool false]) (by simp [results, Tryz.results36, go_sem, *]) rfl (Or.inl ⟨⟨none, 0, 0, none, none, none, 0, 0, none, 0, 0, _, rfl, ?_⟩, fun h => HNE.out h.1⟩)
    with_reducible repeat' (first | exact bl_via (bl_alloc (bl_alloc (bl_refl _))) HB4.out | refine bl_set ?_ ?_ | refine bl_alloc ?_)
    all_goals (dsimp only; omega)
end Go.Proofs.YtnpboeodhpenmaaGreatDoor
