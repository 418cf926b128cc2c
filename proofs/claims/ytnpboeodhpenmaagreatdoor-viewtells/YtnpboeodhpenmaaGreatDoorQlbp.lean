/- The heights of triangles in their stacks, if these are as they must be. -/
import Derived.Test.YtnpboeodhpenmaaGreatDoorQlay
import Derived.Test.YtnpboeodhpenmaaGreatDoorQlbd
import Derived.Test.YtnpboeodhpenmaaGreatDoorQlap
import Derived.Test.YtnpboeodhpenmaaGreatDoorQlbh
import Derived.Test.YtnpboeodhpenmaaGreatDoorQlbk
namespace Go.Proofs.YtnpboeodhpenmaaGreatDoor
open Go.RowKit

/-- Which triangles have a height: those that came. -/
def Seen (L : List (Int × Int × Int)) (f : Nat → Int) (A : List (Int × Int × Int)) : Prop := ∀ i (h : i < L.length), (0 ≤ f i ↔ L[i] ∈ A) ∧ (f i = -1 ∨ 0 ≤ f i)
def plF (pl : List (Int × Int × Int)) (i : Nat) : Int × Int × Int := pl.getD i (0, 0, 0)
/-- What heights answers. -/
def HgTo (L pl : List (Int × Int × Int)) (S : List ((Int × Int × Int) × List (Int × Int × Int))) (w w' : World) (e : Ending) : Prop := ∃ a n c, ∃ b : Bool, e = .returned (.tuple #[.slice a n c, .bool b]) ∧ (b = true ↔ StOk L (plF pl) S) ∧ Below w.heap.size w w'
theorem seen_start (L : List (Int × Int × Int)) : Seen L (fun _ => -1) [] := fun i h => ⟨by simp, Or.inl rfl⟩
theorem Seen.more {L : List (Int × Int × Int)} {f : Nat → Int} {A : List (Int × Int × Int)} (hL : L.Nodup) (h : Seen L f A) {i : Nat} (hi : i < L.length) (k : Nat) : Seen L (fun j => if j = i then (k : Int) else f j) (A ++ [L[i]]) := fun j hj => by
  by_cases e : j = i
  · subst e
    simp
  · have hne : L[j] ≠ L[i] := fun q => e (nodup_atH hL hj hi q)
    simp only [if_neg e, List.mem_append, List.mem_singleton, hne, or_false]
    exact h j hj
/-- The world while heights are told. -/
structure HgW (WE wx : World) (g n : Nat) (f : Nat → Int) (B : Nat) (x y k : Int) (v : Value) : Prop where
  z : ZRow wx g n f
  bel : Below WE.heap.size WE wx
  b0 : wx.cell? ⟨B, 0, none⟩ = some (.int .i64 x)
  b1 : wx.cell? ⟨B, 1, none⟩ = some (.int .i64 y)
  b2 : wx.cell? ⟨B, 2, none⟩ = some (.int .i64 k)
  b3 : wx.cell? ⟨B, 3, none⟩ = some v
theorem HgW.kept {WE wx w' : World} {g n : Nat} {f : Nat → Int} {B : Nat} {x y k : Int} {v : Value} (h : HgW WE wx g n f B x y k v) (hb : Below wx.heap.size wx w') : HgW WE w' g n f B x y k v :=
  ⟨h.z.kept hb, bl_via h.bel hb, cl_kept hb h.b0, cl_kept hb h.b1, cl_kept hb h.b2, cl_kept hb h.b3⟩
theorem HgW.put {WE wx : World} {g n : Nat} {f : Nat → Int} {B : Nat} {x y k : Int} {v : Value} (h : HgW WE wx g n f B x y k v) (hg : WE.heap.size ≤ g) (hB : B ≠ g) {i : Nat} (hi : i < n) (u : Int) : HgW WE (wx.setCell ⟨g, i, none⟩ (.int .i64 u)) g n (fun j => if j = i then u else f j) B x y k v :=
  ⟨h.z.set u hi, h.bel.setCell (p := ⟨g, i, none⟩) hg _, st_far h.b0 hB, st_far h.b1 hB, st_far h.b2 hB, st_far h.b3 hB⟩
set_option maxRecDepth 100000 in
set_option maxHeartbeats 12800000 in
theorem heights_any (w : World) (n cc pc sc ra rk gm cm : Nat) (ad pa sp : Option Addr) (L pl : List (Int × Int × Int)) (S : List ((Int × Int × Int) × List (Int × Int × Int))) (hT : TRow w ad L) (hP : TRow w pa pl) (hS : SRow w sp S) (hn : n = L.length) (hpl : pl.length = n) (hup : L.Pairwise ltT) (hn0 : 0 < n) (hL : n ≤ 300) (hSl : S.length ≤ 17592186044416) (hSe : ∀ s ∈ S, s.2.length ≤ 17592186044416) :
    Calls Tryz.prog 97 #[.agg #[.slice ad n cc, .map (some ra), .map (some rk), .slice (some ⟨gm, 0, none⟩) n cm, .slice pa n pc], .slice sp S.length sc] w fun e w' => HgTo L pl S w w' e := by
  have HR : Hid (TRow w ad L ∧ TRow w pa pl ∧ SRow w sp S ∧ n = L.length ∧ pl.length = n ∧ L.Nodup ∧ (∀ s ∈ S, s.2.length ≤ 17592186044416)) := ⟨hT, hP, hS, hn, hpl, up_nodup hup, hSe⟩
  have CN : Hid (∀ (W : World) (x y k : Int), Below w.heap.size w W → Calls Tryz.prog 71 #[.agg #[.slice ad n cc, .map (some ra), .map (some rk)], .agg #[.int .i64 x, .int .i64 y, .int .i64 k]] W fun e w' => NumTo L (x, y, k) W w' e) := fun W x y k hW => by
    rw [hn]
    exact number_any W ad cc _ _ L x y k (hT.kept hW) hup (by omega)
  have hq := neq23
  clear hT hP hS hn hpl hup hSe
  go_enter Tryz.func97, Tryz.ntmps97
  go_wp2_with (go_at_call 167; refine (repeat_any (-1) (w.heap.size + 1) n _ (by omega) (by simp [go_sem])).mono ?_; rintro e w1 ⟨rfl, hrow, hb⟩; have HW1 : Hid (ZRow w1 ((w.alloc (.cells #[.slice ad n cc, .map (some ra), .map (some rk), .slice (some ⟨gm, 0, none⟩) n cm, .slice pa n pc] 100)).alloc (.cells #[.int .i64 (-1)] 3)).heap.size n (fun _ => -1) ∧ Below ((w.alloc (.cells #[.slice ad n cc, .map (some ra), .map (some rk), .slice (some ⟨gm, 0, none⟩) n cm, .slice pa n pc] 100)).alloc (.cells #[.int .i64 (-1)] 3)).heap.size ((w.alloc (.cells #[.slice ad n cc, .map (some ra), .map (some rk), .slice (some ⟨gm, 0, none⟩) n cm, .slice pa n pc] 100)).alloc (.cells #[.int .i64 (-1)] 3)) w1) := ⟨rp_zrow hrow, hb⟩; clear hrow hb)
  obtain ⟨WE, hWE⟩ : ∃ W, W = ((w.alloc (.cells #[.slice ad n cc, .map (some ra), .map (some rk), .slice (some ⟨gm, 0, none⟩) n cm, .slice pa n pc] 100)).alloc (.cells #[.int .i64 (-1)] 3)) := ⟨_, rfl⟩
  have HQ : Hid (WE.cell? ⟨w.heap.size, 0, none⟩ = some (.slice ad n cc) ∧ WE.cell? ⟨w.heap.size, 1, none⟩ = some (.map (some ra)) ∧ WE.cell? ⟨w.heap.size, 2, none⟩ = some (.map (some rk)) ∧ WE.cell? ⟨w.heap.size, 4, none⟩ = some (.slice pa n pc)) := by
    rw [hWE]
    exact ⟨by simp [go_sem], by simp [go_sem], by simp [go_sem], by simp [go_sem]⟩
  have hz : WE.heap.size = w.heap.size + 2 := by rw [hWE]; simp
  have HBW : Hid (Below w.heap.size w WE) := by rw [hWE]; exact bl_alloc (bl_alloc (bl_refl _))
  rw [← hWE] at HW1
  obtain ⟨g, hg⟩ : ∃ g, g = w.heap.size + 1 + 1 := ⟨_, rfl⟩
  rw [show WE.heap.size = g by omega] at HW1
  have HG : Hid (g = w.heap.size + 1 + 1 ∧ WE.heap.size = g) := ⟨hg, by omega⟩
  rw [← hg]
  clear hWE hg hz
  go_wp2
  go_loopg [21] S.length (fun gk s21 wx => ∃ (m : Nat) (f : Nat → Int), m ≤ S.length ∧ gk = S.length - m ∧ s21 = .int .i64 (m : Int) ∧ Pre L (plF pl) S m ∧ Seen L f (allS (S.take m)) ∧ ZRow wx g n f ∧ Below WE.heap.size WE wx)
  case atStart => exact ⟨0, _, by omega, rfl, rfl, pre_zero _ _ _, seen_start L, HW1.out.1, by rw [HG.out.2]; exact HW1.out.2⟩
  case round =>
    clear HW1
    obtain ⟨m, f, hm, rfl, rfl, hPre, hSeen, hZ, hB⟩ := hrel
    have HI : Hid (Pre L (plF pl) S m ∧ Seen L f (allS (S.take m)) ∧ ZRow wr g n f ∧ Below WE.heap.size WE wr) := ⟨hPre, hSeen, hZ, hB⟩
    have HBr : Hid (Below w.heap.size w wr) := bl_via HBW.out hB
    clear hPre hSeen hZ hB
    by_cases h1 : m < S.length
    · have i1 : (m : Int) < (S.length : Int) := by omega
      have i0 : (0 : Int) ≤ (m : Int) := by omega
      obtain ⟨gs, sa, sc', rfl, c0, c1, c2, c3, hTm⟩ := HR.out.2.2.1 m h1
      have HTm : Hid (TRow w sa S[m].2) := hTm
      replace c0 := cl_kept HBr.out c0
      replace c1 := cl_kept HBr.out c1
      replace c2 := cl_kept HBr.out c2
      replace c3 := cl_kept HBr.out c3
      have zs : gs < wr.heap.size := World.block_lt_of_cell? _ _ c0
      obtain ⟨X, Y, K, hat⟩ : ∃ X Y K, S[m].1 = (X, Y, K) := ⟨_, _, _, rfl⟩
      obtain ⟨l, hl⟩ : ∃ l, l = S[m].2.length := ⟨_, rfl⟩
      rw [hat] at c0 c1 c2
      rw [← hl] at c3
      dsimp only at c0 c1 c2
      have HAt : Hid (S[m].1 = (X, Y, K) ∧ l = S[m].2.length) := ⟨hat, hl⟩
      have hle : l ≤ 17592186044416 := by
        rw [hl]
        exact HR.out.2.2.2.2.2.2 _ (List.getElem_mem h1)
      clear hTm hat hl
      go_upto_region 5 with fail
      refine wp_named (fun W0 hW0 => ?_)
      obtain ⟨B, hBe⟩ : ∃ B, B = wr.heap.size := ⟨_, rfl⟩
      have HB0 : Hid (Below wr.heap.size wr W0 ∧ B = wr.heap.size) := by
        refine ⟨?_, hBe⟩
        rw [hW0]
        with_reducible repeat (first | exact bl_refl _ | refine bl_alloc ?_ | refine bl_set ?_ ?_)
        all_goals (dsimp only; omega)
      have x0 : W0.cell? ⟨B, 0, none⟩ = some (.int .i64 X) := by rw [hW0, hBe]; simp [go_sem]
      have x1 : W0.cell? ⟨B, 1, none⟩ = some (.int .i64 Y) := by rw [hW0, hBe]; simp [go_sem]
      have x2 : W0.cell? ⟨B, 2, none⟩ = some (.int .i64 K) := by rw [hW0, hBe]; simp [go_sem]
      have x3 : W0.cell? ⟨B, 3, none⟩ = some (.slice sa l sc') := by rw [hW0, hBe]; simp [go_sem]
      rw [← hBe]
      clear hW0 hBe c0 c1 c2 c3
      have zB : B < W0.heap.size := World.block_lt_of_cell? _ _ x0
      obtain ⟨bb, HBB⟩ : ∃ bb : Bool, Hid (bb = false ↔ (l ≠ 0 ∧ ∀ q (h : q + 1 = m), ltT (S[q]'(by omega)).1 S[m].1)) := by
        by_cases q : l ≠ 0 ∧ ∀ q (h : q + 1 = m), ltT (S[q]'(by omega)).1 S[m].1
        · exact ⟨false, ⟨fun _ => q, fun _ => rfl⟩⟩
        · exact ⟨true, ⟨(fun h => by cases h), fun h => absurd h q⟩⟩
      go_cut [45] (fun s45 wx => s45 = .bool bb ∧ Below W0.heap.size W0 wx)
      case first =>
        by_cases hl0 : l = 0
        · have HT1 : Hid (bb = true) := by
            cases q : bb
            · exact absurd hl0 (HBB.out.1 q).1
            · exact rfl
          subst hl0
          have kc := Kin.cells W0
          have kn : Nonempty (Kin W0) := ⟨⟨W0, bl_refl _⟩⟩
          refine wp_region_kin (by kernel_rfl) (by kernel_rfl) ?_
          repeat (go_big_quiet_step (fail))
          refine wpQuiet_nil ?_
          intro wq hw'
          obtain ⟨nq, hw''⟩ := hw'
          have hq : Below W0.heap.size W0 wq := hw'' ▸ nq.h
          clear hw'' nq kc kn
          go_wp2
          go_meet
          case rel => exact ⟨by rw [HT1.out], hq⟩
        · have ql : ((l : Int) == 0) = false := by simpa using hl0
          by_cases hm0 : m = 0
          · have HT1 : Hid (bb = false) := HBB.out.2 ⟨hl0, fun q h => by omega⟩
            subst hm0
            have kc := Kin.cells W0
            have kn : Nonempty (Kin W0) := ⟨⟨W0, bl_refl _⟩⟩
            refine wp_region_kin (by kernel_rfl) (by kernel_rfl) ?_
            repeat (go_big_quiet_step (fail))
            refine wpQuiet_nil ?_
            intro wq hw'
            obtain ⟨nq, hw''⟩ := hw'
            have hq : Below W0.heap.size W0 wq := hw'' ▸ nq.h
            clear hw'' nq kc kn
            go_wp2
            go_meet
            case rel => exact ⟨by rw [HT1.out], hq⟩
          · obtain ⟨m', rfl⟩ : ∃ m', m = m' + 1 := ⟨m - 1, by omega⟩
            have hm' : m' < S.length := by omega
            obtain ⟨gs', sa', sc'', e1, d0, d1, d2, _, _⟩ := (HR.out.2.2.1.kept (bl_via HBr.out HB0.out.1)) m' hm'
            cases e1
            obtain ⟨X', Y', K', hat'⟩ : ∃ X Y K, S[m'].1 = (X, Y, K) := ⟨_, _, _, rfl⟩
            rw [hat'] at d0 d1 d2
            dsimp only at d0 d1 d2
            have zs' : gs < W0.heap.size := World.block_lt_of_cell? _ _ d0
            obtain ⟨c, hc⟩ : ∃ c, c = cmpT X' Y' K' X Y K := ⟨_, rfl⟩
            have HC : Hid (∀ W : World, Calls Tryz.prog 151 #[.agg #[.int .i64 X', .int .i64 Y', .int .i64 K'], .agg #[.int .i64 X, .int .i64 Y, .int .i64 K]] W fun e w' => e = .returned (.int .i64 c) ∧ Below W.heap.size W w') := fun W => hc ▸ compareTris_any X' Y' K' X Y K W
            have HL : Hid (bb = decide (0 ≤ c)) := by
              have hcl : c < 0 ↔ ltT S[m'].1 S[m' + 1].1 := by rw [hc, hat', HAt.out.1]; exact cmpT_lt0 _ _ _ _ _ _
              have : bb = decide (0 ≤ c) := by
                cases q : bb
                · have := (HBB.out.1 q).2 m' rfl
                  have := hcl.2 this
                  symm
                  rw [decide_eq_false_iff_not]
                  omega
                · symm
                  rw [decide_eq_true_eq]
                  refine Int.not_lt.1 fun h => ?_
                  have := HBB.out.2 ⟨hl0, fun q' h' => by
                    obtain rfl : q' = m' := by omega
                    exact hcl.1 h⟩
                  rw [q] at this
                  cases this
              exact this
            have im : (0 : Int) < ((m' + 1 : Nat) : Int) := by omega
            have em : ((m' + 1 : Nat) : Int) - 1 = (m' : Int) := by omega
            have im1 : (m' : Int) < (S.length : Int) := by omega
            clear hc hat' hl0
            have kc := Kin.cells W0
            have kn : Nonempty (Kin W0) := ⟨⟨W0, bl_refl _⟩⟩
            refine wp_region_kin (by kernel_rfl) (by kernel_rfl) ?_
            repeat (go_big_quiet_step ((go_at_call 151; exact kin_of (HC.out _))))
            refine wpQuiet_nil ?_
            intro wq hw'
            obtain ⟨nq, hw''⟩ := hw'
            have hq : Below W0.heap.size W0 wq := hw'' ▸ nq.h
            clear hw'' nq kc kn
            go_wp2
            go_meet
            case rel => exact ⟨by rw [HL.out], hq⟩
      case rest =>
        obtain ⟨rfl, hBc⟩ := hcut
        have HWc : Hid (HgW WE wc g n f B X Y K (.slice sa l sc')) := ⟨(HI.out.2.2.1.kept HB0.out.1).kept hBc, bl_via HI.out.2.2.2 (bl_via HB0.out.1 hBc), cl_kept hBc x0, cl_kept hBc x1, cl_kept hBc x2, cl_kept hBc x3⟩
        have HBc : Hid (Below w.heap.size w wc) := bl_via HBr.out (bl_via HB0.out.1 hBc)
        have b3 := HWc.out.b3
        have zb : B < wc.heap.size := World.block_lt_of_cell? _ _ b3
        have HGB : Hid (B ≠ g ∧ WE.heap.size ≤ g) := by
          have h := HI.out.2.2.2.size
          have h2 := HG.out
          have h3 := HB0.out.2
          have := World.block_lt_of_cell? _ _ (HI.out.2.2.1 0 hn0).1
          exact ⟨by dsimp only at this; omega, by omega⟩
        clear x0 x1 x2 x3 zB hBc
        cases bb
        · have HP0 : Hid (Pri L (plF pl) S m 0 h1) := HI.out.1.start h1 (fun e => (HBB.out.1 rfl).1 (by rw [HAt.out.2, e]; rfl)) (HBB.out.1 rfl).2
          have HS0 : Hid (Seen L f (allS (S.take m) ++ S[m].2.take 0)) := by
            have := HI.out.2.1
            rw [List.take_zero, List.append_nil]
            exact this
          clear HI HBr HB0 HBB
          go_wp2
          clear b3 zb
          go_loopg [49] l (fun gk s49 wx => ∃ (k : Nat) (f' : Nat → Int), k ≤ l ∧ gk = l - k ∧ s49 = .int .i64 (k : Int) ∧ Pri L (plF pl) S m k h1 ∧ Seen L f' (allS (S.take m) ++ S[m].2.take k) ∧ HgW WE wx g n f' B X Y K (.slice sa l sc'))
          case atStart => exact ⟨0, f, by omega, rfl, rfl, HP0.out, HS0.out, HWc.out⟩
          case round =>
            clear HP0 HS0 HWc HBc
            obtain ⟨k, f', hk, rfl, rfl, hPri, hSeen2, hW⟩ := hrel
            have HJ : Hid (Pri L (plF pl) S m k h1 ∧ Seen L f' (allS (S.take m) ++ S[m].2.take k) ∧ HgW WE wr g n f' B X Y K (.slice sa l sc')) := ⟨hPri, hSeen2, hW⟩
            have HBr : Hid (Below w.heap.size w wr) := bl_via HBW.out hW.bel
            have p0 := cl_kept hW.bel HQ.out.1
            have p1 := cl_kept hW.bel HQ.out.2.1
            have p2 := cl_kept hW.bel HQ.out.2.2.1
            have b3 := hW.b3
            have zp : w.heap.size < wr.heap.size := World.block_lt_of_cell? _ _ p0
            have zb : B < wr.heap.size := World.block_lt_of_cell? _ _ b3
            clear hPri hSeen2 hW
            by_cases h2 : k < l
            · have k1 : (k : Int) < (l : Int) := by omega
              have k0 : (0 : Int) ≤ (k : Int) := by omega
              have hk2 : k < S[m].2.length := by rw [← HAt.out.2]; exact h2
              obtain ⟨ga, rfl, t0, t1, t2⟩ := (HTm.out.kept HBr.out) k hk2
              obtain ⟨x, y, z, hxyz⟩ : ∃ x y z, S[m].2[k] = (x, y, z) := ⟨_, _, _, rfl⟩
              rw [hxyz] at t0 t1 t2
              dsimp only at t0 t1 t2
              have HX : Hid (S[m].2[k] = (x, y, z)) := hxyz
              have zt : ga < wr.heap.size := World.block_lt_of_cell? _ _ t0
              clear hxyz
              go_upto_region 10 with fail
              refine wp_named (fun W2 hW2 => ?_)
              obtain ⟨B2, hB2⟩ : ∃ B, B = wr.heap.size := ⟨_, rfl⟩
              have HB2 : Hid (Below wr.heap.size wr W2) := by
                have : Below wr.heap.size wr W2 := by
                  rw [hW2]
                  with_reducible repeat (first | exact bl_refl _ | refine bl_alloc ?_ | refine bl_set ?_ ?_)
                  all_goals (dsimp only; omega)
                exact this
              have y0 : W2.cell? ⟨B2, 0, none⟩ = some (.int .i64 x) := by rw [hW2, hB2]; simp [go_sem]
              have y1 : W2.cell? ⟨B2, 1, none⟩ = some (.int .i64 y) := by rw [hW2, hB2]; simp [go_sem]
              have y2 : W2.cell? ⟨B2, 2, none⟩ = some (.int .i64 z) := by rw [hW2, hB2]; simp [go_sem]
              rw [← hB2]
              clear hW2 hB2
              replace p0 := cl_kept HB2.out p0
              replace p1 := cl_kept HB2.out p1
              replace p2 := cl_kept HB2.out p2
              have zy : B2 < W2.heap.size := World.block_lt_of_cell? _ _ y0
              replace zp : w.heap.size < W2.heap.size := World.block_lt_of_cell? _ _ p0
              clear t0 t1 t2 zt b3 zb
              go_upto_region 11 with (go_at_call 71; refine (CN.out _ x y z (bl_via HBr.out HB2.out)).mono ?_; rintro e w3 ⟨i, bt, rfl, hi, hbt, hbi, hb3⟩; have HN : Hid ((bt = true ↔ (x, y, z) ∈ L) ∧ (bt = true → ∃ h : i < L.length, L[i] = (x, y, z))) := ⟨hbt, hbi⟩; have HW3 : Hid (HgW WE w3 g n f' B X Y K (.slice (some ⟨ga, 0, none⟩) l sc')) := (HJ.out.2.2.kept HB2.out).kept hb3; have HB3 : Hid (Below w.heap.size w w3) := bl_via HBr.out (bl_via HB2.out hb3); clear hbt hbi hb3)
              clear y0 y1 y2 p0 p1 p2 zp zy
              have x0 := HW3.out.b0
              have x1 := HW3.out.b1
              have x2 := HW3.out.b2
              have p4 := cl_kept HW3.out.bel HQ.out.2.2.2
              have zb : B < w3.heap.size := World.block_lt_of_cell? _ _ x0
              have zp : w.heap.size < w3.heap.size := World.block_lt_of_cell? _ _ p4
              obtain ⟨b2, HB2B⟩ : ∃ b2 : Bool, Hid (b2 = false ↔ (bt = true ∧ f' i < 0 ∧ plF pl i = (X, Y, K))) := by
                by_cases q : bt = true ∧ f' i < 0 ∧ plF pl i = (X, Y, K)
                · exact ⟨false, ⟨fun _ => q, fun _ => rfl⟩⟩
                · exact ⟨true, ⟨(fun h => by cases h), fun h => absurd h q⟩⟩
              go_cut [79] (fun s79 wx => s79 = .bool b2 ∧ Below w3.heap.size w3 wx)
              case first =>
                cases bt
                · have HT1 : Hid (b2 = true) := by
                    cases q : b2
                    · exact absurd (HB2B.out.1 q).1 (by decide)
                    · exact rfl
                  have kc := Kin.cells w3
                  have kn : Nonempty (Kin w3) := ⟨⟨w3, bl_refl _⟩⟩
                  refine wp_region_kin (by kernel_rfl) (by kernel_rfl) ?_
                  repeat (go_big_quiet_step (fail))
                  refine wpQuiet_nil ?_
                  intro wq hw'
                  obtain ⟨nq, hw''⟩ := hw'
                  have hq : Below w3.heap.size w3 wq := hw'' ▸ nq.h
                  clear hw'' nq kc kn
                  go_wp2
                  go_meet
                  case rel => exact ⟨by rw [HT1.out], hq⟩
                · obtain ⟨hiL, _⟩ := HN.out.2 rfl
                  have hin : i < n := by rw [HR.out.2.2.2.1]; exact hiL
                  have ii : (i : Int) < (n : Int) := by omega
                  have ii0 : (0 : Int) ≤ (i : Int) := by omega
                  obtain ⟨u, hu⟩ : ∃ u, u = f' i := ⟨_, rfl⟩
                  obtain ⟨z0, _⟩ := HW3.out.z i hin
                  rw [← hu] at z0
                  have HU : Hid (u = f' i) := hu
                  clear hu
                  have zg : g < w3.heap.size := World.block_lt_of_cell? _ _ z0
                  have hipl : i < pl.length := by rw [HR.out.2.2.2.2.1]; exact hin
                  obtain ⟨gp, rfl, q0, q1, q2⟩ := (HR.out.2.1.kept HB3.out) i hipl
                  have zq : gp < w3.heap.size := World.block_lt_of_cell? _ _ q0
                  obtain ⟨px, py, pk, hpi⟩ : ∃ x y k, pl[i] = (x, y, k) := ⟨_, _, _, rfl⟩
                  rw [hpi] at q0 q1 q2
                  dsimp only at q0 q1 q2
                  have HPI : Hid (plF pl i = (px, py, pk)) := by
                    have : plF pl i = (px, py, pk) := by unfold plF; rw [getD_at pl i hipl, hpi]
                    exact this
                  clear hpi
                  by_cases hu0 : 0 ≤ u
                  · have HT1 : Hid (b2 = true) := by
                      cases q : b2
                      · have := (HB2B.out.1 q).2.1
                        rw [← HU.out] at this
                        omega
                      · exact rfl
                    have kc := Kin.cells w3
                    have kn : Nonempty (Kin w3) := ⟨⟨w3, bl_refl _⟩⟩
                    refine wp_region_kin (by kernel_rfl) (by kernel_rfl) ?_
                    repeat (go_big_quiet_step (fail))
                    refine wpQuiet_nil ?_
                    intro wq hw'
                    obtain ⟨nq, hw''⟩ := hw'
                    have hq : Below w3.heap.size w3 wq := hw'' ▸ nq.h
                    clear hw'' nq kc kn
                    go_wp2
                    go_meet
                    case rel => exact ⟨by rw [HT1.out], hq⟩
                  · have HT1 : Hid (b2 = !sameT px py pk X Y K) := by
                      have : b2 = !sameT px py pk X Y K := by
                        cases q : b2
                        · have := (HB2B.out.1 q).2.2
                          rw [HPI.out] at this
                          simp only [Prod.mk.injEq] at this
                          obtain ⟨rfl, rfl, rfl⟩ := this
                          simp [sameT]
                        · cases q2 : sameT px py pk X Y K
                          · rfl
                          · exfalso
                            have : b2 = false := HB2B.out.2 ⟨rfl, by rw [← HU.out]; omega, by
                              rw [HPI.out]
                              simp only [sameT, decide_eq_true_eq] at q2
                              simp only [Prod.mk.injEq]
                              exact q2⟩
                            rw [q] at this
                            cases this
                      exact this
                    have kc := Kin.cells w3
                    have kn : Nonempty (Kin w3) := ⟨⟨w3, bl_refl _⟩⟩
                    refine wp_region_kin (by kernel_rfl) (by kernel_rfl) ?_
                    repeat (go_big_quiet_step (fail))
                    refine wpQuiet_nil ?_
                    intro wq hw'
                    obtain ⟨nq, hw''⟩ := hw'
                    have hq : Below w3.heap.size w3 wq := hw'' ▸ nq.h
                    clear hw'' nq kc kn
                    go_wp2
                    go_meet
                    case rel => exact ⟨by rw [HT1.out], hq⟩
              case rest =>
                obtain ⟨rfl, hBd⟩ := hcut
                have HWd : Hid (HgW WE wc g n f' B X Y K (.slice (some ⟨ga, 0, none⟩) l sc')) := HW3.out.kept hBd
                have HBd : Hid (Below w.heap.size w wc) := bl_via HB3.out hBd
                clear x0 x1 x2 p4 zb zp hBd
                cases b2
                · obtain ⟨hbt, hfi, hpi⟩ := HB2B.out.1 rfl
                  subst hbt
                  obtain ⟨hiL, hLi⟩ := HN.out.2 rfl
                  have hin : i < n := by rw [HR.out.2.2.2.1]; exact hiL
                  have ii : (i : Int) < (n : Int) := by omega
                  have ii0 : (0 : Int) ≤ (i : Int) := by omega
                  obtain ⟨z0, zf⟩ := HWd.out.z i hin
                  have zg : g < wc.heap.size := World.block_lt_of_cell? _ _ z0
                  have HST : Hid (Pri L (plF pl) S m (k + 1) h1 ∧ Seen L (fun j => if j = i then (k : Int) else f' j) (allS (S.take m) ++ S[m].2.take (k + 1))) := by
                    have hno : S[m].2[k] ∉ allS (S.take m) ++ S[m].2.take k := fun hmem => by
                      rw [HX.out, ← hLi] at hmem
                      have := (HJ.out.2.1 i hiL).1.2 hmem
                      omega
                    refine ⟨HJ.out.1.step hk2 ⟨i, hiL, by rw [HX.out]; exact hLi, by rw [HAt.out.1]; exact hpi⟩ hno, ?_⟩
                    have := HJ.out.2.1.more HR.out.2.2.2.2.2.1 hiL k
                    rw [hLi, ← HX.out] at this
                    rw [List.take_succ_eq_append_getElem hk2, ← List.append_assoc]
                    exact this
                  clear hfi hpi hLi
                  go_wp2
                  go_roundg (l - (k + 1))
                  case measure => omega
                  case rel => exact ⟨k + 1, _, by omega, rfl, by go_num, HST.out.1, HST.out.2, HWd.out.put HGB.out.2 HGB.out.1 hin _⟩
                · go_wp2
                  refine bodyPost_ret (v := .tuple #[.slice none 0 0, .bool false]) (by simp [results, Tryz.results97, go_sem]) rfl ⟨none, 0, 0, false, rfl, ?_, HBd.out⟩
                  simp only [Bool.false_eq_true, false_iff]
                  intro hok
                  have hno : ¬ (bt = true ∧ f' i < 0 ∧ plF pl i = (X, Y, K)) := fun h => by
                    have := HB2B.out.2 h
                    cases this
                  obtain ⟨j, hj, e1, e2⟩ := hok.pl _ (List.getElem_mem h1) _ (List.getElem_mem hk2)
                  rw [HX.out] at e1
                  rw [HAt.out.1] at e2
                  have hbt : bt = true := HN.out.1.2 (e1 ▸ List.getElem_mem hj)
                  obtain ⟨hiL, hLi⟩ := HN.out.2 hbt
                  have := nodup_atH HR.out.2.2.2.2.2.1 hiL hj (hLi.trans e1.symm)
                  subst this
                  refine hno ⟨hbt, Int.not_le.1 fun h0 => ?_, e2⟩
                  have hmem := (HJ.out.2.1 i hiL).1.1 h0
                  rw [hLi, ← HX.out] at hmem
                  exact not_nd HR.out.2.2.2.2.2.1 h1 hk2 hmem hok
            · have k1 : ¬ (k : Int) < (l : Int) := by omega
              have hkl : k = S[m].2.length := by rw [← HAt.out.2]; omega
              have HFIN : Hid (Pre L (plF pl) S (m + 1) ∧ Seen L f' (allS (S.take (m + 1)))) := by
                refine ⟨HJ.out.1.fin hkl, ?_⟩
                have := HJ.out.2.1
                rw [hkl, List.take_length] at this
                rw [allS_take h1]
                exact this
              clear hkl
              go_wp2
              go_roundg (S.length - (m + 1))
              case measure => omega
              case rel => exact ⟨m + 1, f', by omega, rfl, by go_num, HFIN.out.1, HFIN.out.2, HJ.out.2.2.z, HJ.out.2.2.bel⟩
        · go_wp2
          refine bodyPost_ret (v := .tuple #[.slice none 0 0, .bool false]) (by simp [results, Tryz.results97, go_sem]) rfl ⟨none, 0, 0, false, rfl, ?_, HBc.out⟩
          simp only [Bool.false_eq_true, false_iff]
          intro hok
          have hno : ¬ (l ≠ 0 ∧ ∀ q (h : q + 1 = m), ltT (S[q]'(by omega)).1 S[m].1) := fun h => by
            have := HBB.out.2 h
            cases this
          refine hno ⟨fun e => not_ne h1 (by rw [← HAt.out.2]; exact e) hok, fun q h => ?_⟩
          subst h
          exact hok.up q h1
    · have i1 : ¬ (m : Int) < (S.length : Int) := by omega
      obtain rfl : m = S.length := by omega
      have CC : Hid (∀ W : World, Below wr.heap.size wr W → Calls Tryz.prog 186 #[.slice (some ⟨g, 0, none⟩) n n, .int .i64 (-1)] W fun e w' => ConTo n f (-1) W w' e) := fun W hW => contains_any W g n n f (-1) (HI.out.2.2.1.kept hW) hL
      go_wp2_with (go_at_call 186; refine (CC.out _ (bl_refl _)).mono ?_; rintro e w2 ⟨b, rfl, hb, hb2⟩; have HC : Hid ((b = true ↔ ∃ j, j < n ∧ f j = -1) ∧ Below w.heap.size w w2) := ⟨hb, bl_via HBr.out hb2⟩; clear hb hb2)
      refine bodyPost_ret (v := .tuple #[.slice (some ⟨g, 0, none⟩) n n, .bool (!b)]) (by simp [results, Tryz.results97, go_sem]) rfl ⟨_, _, _, !b, rfl, ?_, HC.out.2⟩
      have hcov : (∀ t ∈ L, t ∈ allS S) ↔ b = false := by
        have hs := HI.out.2.1
        rw [List.take_length] at hs
        constructor
        · intro hc
          cases q : b
          · rfl
          · obtain ⟨j, hj, e⟩ := HC.out.1.1 q
            have hjL : j < L.length := by rw [← HR.out.2.2.2.1]; exact hj
            have := (hs j hjL).1.2 (hc _ (List.getElem_mem hjL))
            omega
        · intro hb t ht
          obtain ⟨j, hj, e⟩ := List.getElem_of_mem ht
          rw [← e]
          rcases (hs j hj).2 with h | h
          · have := HC.out.1.2 ⟨j, by rw [HR.out.2.2.2.1]; exact hj, h⟩
            rw [hb] at this
            cases this
          · exact (hs j hj).1.1 h
      constructor
      · intro hb
        exact HI.out.1.all HR.out.2.2.2.2.2.1 rfl (hcov.2 (by simpa using hb))
      · intro hok
        have := hcov.1 (hok.cov HR.out.2.2.2.2.2.1)
        rw [this]
        rfl
end Go.Proofs.YtnpboeodhpenmaaGreatDoor
