/- A line of creases: the reference's way. -/
import Derived.Test.YtehmoacggikfmaaGreatDoorQlbx
import Derived.Test.YtehmoacggikfmaaGreatDoorQlai
import Derived.BigQuiet
import Derived.Test.YtehmoacggikfmaaGreatDoorQlae
namespace Go.Proofs.YtehmoacggikfmaaGreatDoor
open Go.RowKit

/-- What a line of creases answers. -/
def ClTo (w w' : World) (W H : Nat) (mk : Value) (r : Int × List C5) (e : Ending) : Prop := ∃ ca' cc', e = .returned (.tuple #[.agg #[.int .i64 (W : Int), .int .i64 (H : Int), mk, .slice ca' r.2.length cc'], .int .i64 r.1]) ∧ JRow w' ca' r.2 ∧ Below w.heap.size w w'
theorem cl_out {w w' : World} {W H : Nat} {mk : Value} {r : Int × List C5} {c : Int} {cs : List C5} {ca : Option Addr} {cc : Nat} (hr : r = (c, cs)) (hj : JRow w ca cs) (hb : Below w.heap.size w w') : ClTo w w' W H mk r (.returned (.tuple #[.agg #[.int .i64 (W : Int), .int .i64 (H : Int), mk, .slice ca cs.length cc], .int .i64 c])) := by
  subst hr
  exact ⟨ca, cc, rfl, hj.kept hb, hb⟩
/-- The sheet's box, and the result's. -/
structure CL (w wx : World) (W H : Nat) (mk cr : Value) : Prop where
  b0 : wx.cell? ⟨w.heap.size, 0, none⟩ = some (.int .i64 (W : Int))
  b1 : wx.cell? ⟨w.heap.size, 1, none⟩ = some (.int .i64 (H : Int))
  b2 : wx.cell? ⟨w.heap.size, 2, none⟩ = some mk
  b3 : wx.cell? ⟨w.heap.size, 3, none⟩ = some cr
  r0 : wx.cell? ⟨w.heap.size + 1, 0, none⟩ = some (.int .i64 0)
  r1 : wx.cell? ⟨w.heap.size + 1, 1, none⟩ = some (.int .i64 0)
  r2 : wx.cell? ⟨w.heap.size + 1, 2, none⟩ = some (.slice none 0 0)
  r3 : wx.cell? ⟨w.heap.size + 1, 3, none⟩ = some (.slice none 0 0)
  fb : ∀ o, wx.frozen? ⟨w.heap.size, o, none⟩ = false
  fr : ∀ o, wx.frozen? ⟨w.heap.size + 1, o, none⟩ = false
  bl : Below w.heap.size w wx
  sz : w.heap.size + 2 ≤ wx.heap.size
theorem CL.gro {w V V' : World} {W H : Nat} {mk cr : Value} {row : Option Nat} (h : CL w V W H mk cr) (hg : V.grownBy V' row) (hr : ∀ r, row = some r → w.heap.size + 2 ≤ r) : CL w V' W H mk cr := by
  have n0 : some w.heap.size ≠ row := fun e => by have := hr _ e.symm; omega
  have n1 : some (w.heap.size + 1) ≠ row := fun e => by have := hr _ e.symm; omega
  have z := h.sz
  exact { b0 := grown_co hg n0 h.b0, b1 := grown_co hg n0 h.b1, b2 := grown_co hg n0 h.b2, b3 := grown_co hg n0 h.b3, r0 := grown_co hg n1 h.r0, r1 := grown_co hg n1 h.r1, r2 := grown_co hg n1 h.r2, r3 := grown_co hg n1 h.r3, fb := fun o => grown_fo hg n0 (by omega) (h.fb o), fr := fun o => grown_fo hg n1 (by omega) (h.fr o), bl := h.bl.grown hg h.bl.size (fun r e => by have := hr r e; omega), sz := Nat.le_trans z hg.size }
theorem CL.kept {w V V' : World} {W H : Nat} {mk cr : Value} (h : CL w V W H mk cr) (hb : Below V.heap.size V V') : CL w V' W H mk cr := h.gro (bl_grown hb) (fun r e => by cases e)
theorem CL.set3 {w V : World} {W H : Nat} {mk cr : Value} (h : CL w V W H mk cr) (v : Value) : CL w (V.setCell ⟨w.heap.size, 3, none⟩ v) W H mk v := by
  have o : ∀ k x, k ≠ 3 → V.cell? ⟨w.heap.size, k, none⟩ = some x → (V.setCell ⟨w.heap.size, 3, none⟩ v).cell? ⟨w.heap.size, k, none⟩ = some x := fun k x hk hx => by
    rw [World.cell?_setCell_other _ _ _ _ (by simp <;> omega)]
    exact hx
  have z := h.sz
  exact { b0 := o 0 _ (by decide) h.b0, b1 := o 1 _ (by decide) h.b1, b2 := o 2 _ (by decide) h.b2, b3 := World.cell?_setCell_same _ _ _ h.b3, r0 := st_old h.r0 (by dsimp only; omega), r1 := st_old h.r1 (by dsimp only; omega), r2 := st_old h.r2 (by dsimp only; omega), r3 := st_old h.r3 (by dsimp only; omega), fb := fun k => by rw [World.frozen?_setCell]; exact h.fb k, fr := fun k => by rw [World.frozen?_setCell]; exact h.fr k, bl := bl_set h.bl (Nat.le_refl _), sz := by simpa using z }
theorem CL.start (w : World) (W H : Nat) (mk cr : Value) : CL w ((w.alloc (.cells #[.int .i64 (W : Int), .int .i64 (H : Int), mk, cr] 25)).alloc (.cells #[.int .i64 0, .int .i64 0, .slice none 0 0, .slice none 0 0] 25)) W H mk cr := {
  b0 := by simp [go_sem],
  b1 := by simp [go_sem],
  b2 := by simp [go_sem],
  b3 := by simp [go_sem],
  r0 := by simp [go_sem],
  r1 := by simp [go_sem],
  r2 := by simp [go_sem],
  r3 := by simp [go_sem],
  fb := fun o => by simp [go_sem],
  fr := fun o => by simp [go_sem],
  bl := bl_alloc (bl_alloc (bl_refl w)),
  sz := by simp }
theorem one_new (w : World) (v : Value) (T : TypeId) : ∀ j u, ([v])[j]? = some u → (w.alloc (.cells #[v] T)).cell? ((⟨w.heap.size, 0, none⟩ : Addr).add j) = some u := by
  intro j u hu
  match j, hu with
  | 0, hu => simp at hu; subst hu; simp [Addr.add, go_sem]
theorem four_nums {w : World} {base : Nat} {va : Value} {x1 x2 x3 x4 : List UInt8} (h : w.ownsRow base 3 1 va 4 (([x1, x2, x3, x4].take 4).map fun y => Value.int .i64 (nuI y))) : ∃ g c, va = .slice (some ⟨g, 0, none⟩) 4 c ∧ w.cell? ⟨g, 0, none⟩ = some (.int .i64 (nuI x1)) ∧ w.cell? ⟨g, 1, none⟩ = some (.int .i64 (nuI x2)) ∧ w.cell? ⟨g, 2, none⟩ = some (.int .i64 (nuI x3)) ∧ w.cell? ⟨g, 3, none⟩ = some (.int .i64 (nuI x4)) := by
  rcases h.2 with ⟨_, h0⟩ | ⟨g, cap, cur, rfl, _⟩
  · omega
  · exact ⟨g, cap, rfl, (h.cellAt 0 (by omega)).trans rfl, (h.cellAt 1 (by omega)).trans rfl, (h.cellAt 2 (by omega)).trans rfl, (h.cellAt 3 (by omega)).trans rfl⟩
theorem nuI_some {x : List UInt8} {v : Nat} (h : num x = some v) : nuI x = (v : Int) := by unfold nuI; rw [h]
theorem kdW_12x {x : List UInt8} (h : kdW x ≠ 0) : kdW x = 1 ∨ kdW x = 2 := by
  unfold kdW at *
  split
  · exact Or.inl rfl
  · rename_i h1
    rw [if_neg h1] at h
    split
    · exact Or.inr rfl
    · rename_i h2
      rw [if_neg h2] at h
      exact absurd rfl h
theorem putC_len (l : List C5) (c : C5) : (putC l c).length = l.length + 1 := by
  induction l with
  | nil => rfl
  | cons a r ih =>
    unfold putC
    split
    · simp
    · simp [ih]
theorem putA_len (K : Int) : ∀ (es : List E4) (cs : List C5), (putA cs es K).length = cs.length + es.length
  | [], cs => rfl
  | e :: es, cs => by
    show (putA (putC cs (e, K)) es K).length = _
    rw [putA_len K es, putC_len, List.length_cons]
    omega
theorem own_crs {w : World} {base : Nat} {v : Value} {l : List C5} (h : w.ownsRow base 55 5 v l.length (flatJ l)) : ∃ a cap, v = .slice a l.length cap ∧ JRow w a l ∧ ∀ g, a = some ⟨g, 0, none⟩ → base ≤ g := by
  rcases h.2 with ⟨rfl, h0⟩ | ⟨g, cap, cur, rfl, _⟩
  · exact ⟨none, 0, by rw [h0], fun i hi => by omega, fun g e => by cases e⟩
  · refine ⟨some ⟨g, 0, none⟩, cap, rfl, fun i hi => ⟨g, rfl, ?_⟩, fun g' e => by cases e; exact (h.lt g rfl).1⟩
    have f := flatJ_at l i hi
    exact ⟨(h.cellAt _ (by omega)).trans f.1, (h.cellAt _ (by omega)).trans f.2.1, (h.cellAt _ (by omega)).trans f.2.2.1, (h.cellAt _ (by omega)).trans f.2.2.2.1, (h.cellAt _ (by omega)).trans f.2.2.2.2⟩
theorem jrow_set {w : World} {a : Option Addr} {l : List C5} {b o : Nat} {x : Value} (h : JRow w a l) (hne : ∀ g, a = some ⟨g, 0, none⟩ → g ≠ b) : JRow (w.setCell ⟨b, o, none⟩ x) a l := fun i hi => by
  obtain ⟨g, e, h0, h1, h2, h3, h4⟩ := h i hi
  have q := hne g e
  exact ⟨g, e, st_old h0 q, st_old h1 q, st_old h2 q, st_old h3 q, st_old h4 q⟩
theorem jrow_setn {w : World} {a : Option Addr} {l : List C5} {b o : Nat} {x : Value} (h : JRow w a l) (hne : l ≠ [] → ∀ g, a = some ⟨g, 0, none⟩ → g ≠ b) : JRow (w.setCell ⟨b, o, none⟩ x) a l := fun i hi => by
  obtain ⟨g, e, h0, h1, h2, h3, h4⟩ := h i hi
  have q := hne (fun e => by rw [e] at hi; simp at hi) g e
  exact ⟨g, e, st_old h0 q, st_old h1 q, st_old h2 q, st_old h3 q, st_old h4 q⟩
theorem jrow_old {w : World} {a : Option Addr} {l : List C5} (h : JRow w a l) (hn : l ≠ []) (g : Nat) (e : a = some ⟨g, 0, none⟩) : g ≠ w.heap.size + 1 := by
  obtain ⟨g', e', h0, _⟩ := h 0 (List.length_pos_iff.2 hn)
  rw [e] at e'
  simp only [Option.some.injEq, Addr.mk.injEq] at e'
  have : g' < w.heap.size := World.block_lt_of_cell? _ _ h0
  omega
theorem inf3' : (Tryz.prog.info? 3).map (fun i => (i.zero, i.size, i.bytes)) = some (some (.int .i64 0), 1, 8) := by kernel_rfl
set_option maxRecDepth 100000 in
set_option maxHeartbeats 1600000 in
theorem cl_len (W H b off kc A cap cc : Nat) (zs : List Int) (ca : Option Addr) (cs : List C5) (ws : List (List UInt8)) (w : World) (hj : JRow w ca cs) (h5 : ws.length ≠ 5) :
    Calls Tryz.prog 19 #[.agg #[.int .i64 (W : Int), .int .i64 (H : Int), .slice (some ⟨b, off, none⟩) zs.length kc, .slice ca cs.length cc], .slice (some ⟨A, 0, none⟩) ws.length cap] w fun e w' => ClTo w w' W H (.slice (some ⟨b, off, none⟩) zs.length kc) (crS W H (fun e => decide (cnt (ty zs W H) e.1 e.2.1 e.2.2.1 e.2.2.2 = 2)) cs ws) e := by
  have HJ : Hid (JRow w ca cs) := hj
  have HE : Hid (crS W H (fun e => decide (cnt (ty zs W H) e.1 e.2.1 e.2.2.1 e.2.2.2 = 2)) cs ws = (1, cs)) := crS_len h5
  have k1 : ((ws.length : Int) == 5) = false := by rw [beq_eq_false_iff_ne]; omega
  have k2 : ((ws.length : Int) != 5) = true := by rw [bne, k1]; rfl
  have HCLB : Hid (Below w.heap.size w ((w.alloc (.cells #[.int .i64 (W : Int), .int .i64 (H : Int), .slice (some ⟨b, off, none⟩) zs.length kc, .slice ca cs.length cc] 25)).alloc (.cells #[.int .i64 0, .int .i64 0, .slice none 0 0, .slice none 0 0] 25))) := bl_alloc (bl_alloc (bl_refl w))
  clear hj h5
  go_enter Tryz.func19, Tryz.ntmps19
  go_wp2
  refine bodyPost_ret (v := .tuple #[.agg #[.int .i64 (W : Int), .int .i64 (H : Int), .slice (some ⟨b, off, none⟩) zs.length kc, .slice ca cs.length cc], .int .i64 1]) (by simp [results, Tryz.results19, go_sem, *]) rfl ?_
  refine cl_out HE.out HJ.out ?_
  repeat' (first | exact bl_refl _ | refine bl_alloc ?_ | (refine bl_set ?_ (by (try dsimp only); omega)))
set_option maxRecDepth 100000 in
set_option maxHeartbeats 6400000 in
theorem cl_five (W H b off kc A cap cc : Nat) (zs : List Int) (ca : Option Addr) (cs : List C5) (x0 x1 x2 x3 x4 : List UInt8) (w : World) (hz : Row w (some ⟨b, off, none⟩) zs) (hW : 1 ≤ W ∧ W ≤ 8) (hH : 1 ≤ H ∧ H ≤ 8) (hl : zs.length = W * H) (hm : maskB zs = true) (hs : SR w A [x0, x1, x2, x3, x4]) (hj : JRow w ca cs) (hco : CsOk cs) (hcl : cs.length ≤ 90000) :
    Calls Tryz.prog 19 #[.agg #[.int .i64 (W : Int), .int .i64 (H : Int), .slice (some ⟨b, off, none⟩) zs.length kc, .slice ca cs.length cc], .slice (some ⟨A, 0, none⟩) 5 cap] w fun e w' => ClTo w w' W H (.slice (some ⟨b, off, none⟩) zs.length kc) (crS W H (fun e => decide (cnt (ty zs W H) e.1 e.2.1 e.2.2.1 e.2.2.2 = 2)) cs [x0, x1, x2, x3, x4]) e := by
  obtain ⟨i3, hi, hz0, hz1, hz2⟩ := info_parts inf3'
  have HI : Hid (Tryz.prog.info? 3 = some i3 ∧ i3.zero = some (.int .i64 0) ∧ i3.size = 1 ∧ i3.bytes = 8) := ⟨hi, hz0, hz1, hz2⟩
  clear hi hz0 hz1 hz2
  have HJ : Hid (JRow w ca cs) := hj
  have s0 : w.cell? ⟨A, 0, none⟩ = some (.string (bs x0)) := hs 0 (by simp)
  obtain ⟨B1, hB1⟩ : ∃ B : Bool, B = decide (x0 = [109]) := ⟨_, rfl⟩
  obtain ⟨B2, hB2⟩ : ∃ B : Bool, B = decide (x0 = [226, 136, 167]) := ⟨_, rfl⟩
  obtain ⟨B3, hB3⟩ : ∃ B : Bool, B = decide (x0 = [118]) := ⟨_, rfl⟩
  obtain ⟨B4, hB4⟩ : ∃ B : Bool, B = decide (x0 = [226, 136, 168]) := ⟨_, rfl⟩
  have q1 : ((bs x0).toList == [109]) = B1 := by rw [hB1]; exact str_beq _ _
  have q2 : ((bs x0).toList == [226, 136, 167]) = B2 := by rw [hB2]; exact str_beq _ _
  have q3 : ((bs x0).toList == [118]) = B3 := by rw [hB3]; exact str_beq _ _
  have q4 : ((bs x0).toList == [226, 136, 168]) = B4 := by rw [hB4]; exact str_beq _ _
  obtain ⟨K, hK⟩ : ∃ K, K = kdW x0 := ⟨_, rfl⟩
  have HK : Hid (K = if (B3 || B4) = true then 2 else if (B1 || B2) = true then 1 else 0) := by
    show K = _
    rw [hK, hB1, hB2, hB3, hB4]
    unfold kdW
    by_cases c1 : x0 = [109]
    · subst c1
      decide
    · by_cases c2 : x0 = [226, 136, 167]
      · subst c2
        decide
      · rw [if_neg (by simp [c1, c2])]
        by_cases c3 : x0 = [118]
        · subst c3
          decide
        · by_cases c4 : x0 = [226, 136, 168]
          · subst c4
            decide
          · rw [if_neg (by simp [c3, c4]), if_neg (by simp [c3, c4]), if_neg (by simp [c1, c2])]
  have HKD : Hid (kdW x0 = K) := hK.symm
  have HSR : Hid (SR w A [x0, x1, x2, x3, x4]) := hs
  have HG : Hid (Row w (some ⟨b, off, none⟩) zs ∧ zs.length = W * H ∧ maskB zs = true ∧ cs.length ≤ 90000 ∧ CsOk cs) := ⟨hz, hl, hm, hcl, hco⟩
  clear hB1 hB2 hB3 hB4 hj hK hs hz hl hm hcl hco
  have HCL0 : Hid (CL w ((w.alloc (.cells #[.int .i64 (W : Int), .int .i64 (H : Int), .slice (some ⟨b, off, none⟩) zs.length kc, .slice ca cs.length cc] 25)).alloc (.cells #[.int .i64 0, .int .i64 0, .slice none 0 0, .slice none 0 0] 25)) W H (.slice (some ⟨b, off, none⟩) zs.length kc) (.slice ca cs.length cc)) := CL.start w W H _ _
  go_enter Tryz.func19, Tryz.ntmps19
  go_upto_region 4 with (fail)
  refine wp_named (fun V hV => ?_)
  rw [← hV] at HCL0
  have s0 : V.cell? ⟨A, 0, none⟩ = some (.string (bs x0)) := cl_kept HCL0.out.bl s0
  clear hV
  go_cut [26] from 13 (fun s26 wx => s26 = .bool (B1 || B2) ∧ wx = V)
  case first =>
    cases B1
    · cases B2
      · go_wp2
        go_meet
        case rel => exact ⟨rfl, rfl⟩
      · go_wp2
        go_meet
        case rel => exact ⟨rfl, rfl⟩
    · go_wp2
      go_meet
      case rel => exact ⟨rfl, rfl⟩
  case rest =>
    obtain ⟨rfl, hwc⟩ := hcut
    rw [hwc]
    clear hwc
    obtain ⟨B12, hB12⟩ : ∃ B, B = (B1 || B2) := ⟨_, rfl⟩
    rw [← hB12] at HK ⊢
    clear hB12 q1 q2
    go_upto_if 26 with (fail)
    go_cut [6] from 13 (fun s6 wx => s6 = .int .i64 (if B12 = true then 1 else 0) ∧ wx = V)
    case first =>
      cases B12
      · go_wp2
        go_meet
        case rel => exact ⟨rfl, rfl⟩
      · go_wp2
        go_meet
        case rel => exact ⟨rfl, rfl⟩
    case rest =>
      obtain ⟨rfl, hwc⟩ := hcut
      rw [hwc]
      clear hwc
      obtain ⟨K1, hK1⟩ : ∃ K1 : Int, K1 = if B12 = true then 1 else 0 := ⟨_, rfl⟩
      rw [← hK1] at HK ⊢
      clear hK1
      go_upto_region 6 with (fail)
      go_cut [36] from 13 (fun s36 wx => s36 = .bool (B3 || B4) ∧ wx = V)
      case first =>
        cases B3
        · cases B4
          · go_wp2
            go_meet
            case rel => exact ⟨rfl, rfl⟩
          · go_wp2
            go_meet
            case rel => exact ⟨rfl, rfl⟩
        · go_wp2
          go_meet
          case rel => exact ⟨rfl, rfl⟩
      case rest =>
        obtain ⟨rfl, hwc⟩ := hcut
        rw [hwc]
        clear hwc
        obtain ⟨B34, hB34⟩ : ∃ B, B = (B3 || B4) := ⟨_, rfl⟩
        rw [← hB34] at HK ⊢
        clear hB34 q3 q4 s0
        go_upto_if 36 with (fail)
        go_cut [6] from 13 (fun s6 wx => s6 = .int .i64 K ∧ wx = V)
        case first =>
          cases B34
          · go_wp2
            go_meet
            case rel => exact ⟨by rw [HK.out]; rfl, rfl⟩
          · go_wp2
            go_meet
            case rel => exact ⟨by rw [HK.out]; rfl, rfl⟩
        case rest =>
          obtain ⟨rfl, hwc⟩ := hcut
          rw [hwc]
          clear hwc HK
          have HSRV : Hid (SR V A [x0, x1, x2, x3, x4]) := HSR.out.kept HCL0.out.bl
          have HNS : Hid (∀ i (hi : i < 4), ∃ y, [x1, x2, x3, x4][i]? = some y ∧ V.cell? ⟨A, i + 1, none⟩ = some (.string (bs y))) := fun i hi => by
            have h9 := HSRV.out (i + 1) (by simp; omega)
            have : i = 0 ∨ i = 1 ∨ i = 2 ∨ i = 3 := by omega
            rcases this with rfl | rfl | rfl | rfl <;> exact ⟨_, rfl, h9⟩
          have C16 : Hid (∀ (y : List UInt8) (W' : World), Calls Tryz.prog 16 #[.string (bs y)] W' fun e w' => e = .returned (.int .i64 (nuI y)) ∧ w' = W') := fun y W' => numberOf_any (bs y) W'
          have HN0 : Hid (V.ownsRow V.heap.size 3 1 (.slice none 0 0) 0 (([x1, x2, x3, x4].take 0).map fun y => Value.int .i64 (nuI y)) ∧ Below V.heap.size V V) := ⟨by simpa using World.ownsRow_nil _ _ _ _, bl_refl _⟩
          have zV := HCL0.out.sz
          go_wp2
          go_loopg [7, 8] 4 (fun g s7 s8 wx => ∃ i : Nat, i ≤ 4 ∧ 4 - i = g ∧ s8 = .int .i64 ((i : Int) + 1) ∧ wx.ownsRow V.heap.size 3 1 s7 i (([x1, x2, x3, x4].take i).map fun y => Value.int .i64 (nuI y)) ∧ Below V.heap.size V wx)
          case atStart => exact ⟨0, by omega, rfl, rfl, HN0.out.1, HN0.out.2⟩
          case round =>
            as_aux_lemma =>
              clear HN0
              obtain ⟨i, hi, rfl, rfl, hown, hbw⟩ := hrel
              obtain ⟨va, hva⟩ : ∃ x, x = u7 := ⟨_, rfl⟩
              subst hva
              have HO : Hid (wr.ownsRow V.heap.size 3 1 va i (([x1, x2, x3, x4].take i).map fun y => Value.int .i64 (nuI y)) ∧ Below V.heap.size V wr) := ⟨hown, hbw⟩
              clear hown hbw
              by_cases h4 : i < 4
              · have i1 : (i : Int) + 1 < 5 := by omega
                have i0 : (0 : Int) ≤ (i : Int) + 1 := by omega
                obtain ⟨y, hy, hcy⟩ := HNS.out i h4
                have cy := cl_kept HO.out.2 hcy
                have HY : Hid ([x1, x2, x3, x4].take (i + 1) = [x1, x2, x3, x4].take i ++ [y]) := by
                  show [x1, x2, x3, x4].take (i + 1) = _
                  rw [List.take_add_one, hy]
                  rfl
                have hix : ((i : Int) + 1).toNat = i + 1 := by omega
                clear hy hcy
                go_wp2_with (first
                  | (go_at_call 16; (with_reducible refine (C16.out y _).mono ?_); rintro e w5 ⟨rfl, hw5⟩; have hw5b := hw5.symm; clear hw5; subst hw5b)
                  | (at_builtin; refine wpList_append_own _ rfl (.tmp 41) (.tmp 47) 22 rfl V.heap.size 3 i3 (.int .i64 0) 1 8 Tryz.underlying22 HI.out.1 HI.out.2.1 HI.out.2.2.1 HI.out.2.2.2 rfl (by decide) va i (([x1, x2, x3, x4].take i).map fun y => Value.int .i64 (nuI y)) rfl (own_below HO.out.1 (bl_alloc (bl_refl _))) ⟨wr.heap.size, 0, none⟩ 1 1 [.int .i64 (nuI y)] rfl rfl (one_new _ _ _) (by intro q hq; simp at hq; subst hq; rfl) (by unfold maxLen; omega) (by omega) (by have := HO.out.2.size; simp; omega) ?gA)
                  | fail)
                case gA =>
                  intro v' w3 ho hg _
                  have HN : Hid (w3.ownsRow V.heap.size 3 1 v' (i + 1) (([x1, x2, x3, x4].take (i + 1)).map fun y => Value.int .i64 (nuI y)) ∧ Below V.heap.size V w3) := by
                    refine ⟨?_, ?_⟩
                    · rw [HY.out, List.map_append, List.map_take]
                      exact ho
                    · have hb9 : Below V.heap.size V (wr.alloc (.cells #[.int .i64 (nuI y)] 3)) := bl_alloc HO.out.2
                      exact hb9.grown hg hb9.size (fun r e => (HO.out.1.lt r e).1)
                  clear ho hg
                  go_wp2
                  go_roundg (4 - (i + 1))
                  case measure => omega
                  case rel => exact ⟨i + 1, by omega, rfl, by go_num, HN.out.1, HN.out.2⟩
              · obtain rfl : i = 4 := by omega
                have i1 : ¬ ((4 : Nat) : Int) + 1 < 5 := by omega
                obtain ⟨g7, c7, rfl, n1, n2, n3, n4⟩ := four_nums HO.out.1
                have HCL : Hid (CL w wr W H (.slice (some ⟨b, off, none⟩) zs.length kc) (.slice ca cs.length cc)) := HCL0.out.kept HO.out.2
                have b0 := HCL.out.b0
                have b1 := HCL.out.b1
                have b2 := HCL.out.b2
                have b3 := HCL.out.b3
                have r0 := HCL.out.r0
                have r1 := HCL.out.r1
                have r2 := HCL.out.r2
                have r3 := HCL.out.r3
                have f0 := HCL.out.fr 0
                have f1 := HCL.out.fr 1
                have f2 := HCL.out.fr 2
                have f3 := HCL.out.fr 3
                have HCLB : Hid (Below w.heap.size w wr) := HCL.out.bl
                have zr := HCL.out.sz
                clear HO HNS C16 HSRV HSR HCL0 HI
                by_cases hK0 : K = 0
                · subst hK0
                  have HE : Hid (crS W H (fun e => decide (cnt (ty zs W H) e.1 e.2.1 e.2.2.1 e.2.2.2 = 2)) cs [x0, x1, x2, x3, x4] = (1, cs)) := crS_kind HKD.out
                  go_wp2
                  refine bodyPost_ret (v := .tuple #[.agg #[.int .i64 (W : Int), .int .i64 (H : Int), .slice (some ⟨b, off, none⟩) zs.length kc, .slice ca cs.length cc], .int .i64 1]) (by simp [results, Tryz.results19, go_sem, *]) rfl ?_
                  refine cl_out HE.out HJ.out ?_
                  repeat' (first | exact HCLB.out | (refine bl_set ?_ (by (try dsimp only); omega)))
                · have k0 : (K == 0) = false := by simpa using hK0
                  have hk0 : kdW x0 ≠ 0 := by rw [HKD.out]; exact hK0
                  cases h1 : num x1 with
                  | none =>
                    have HE : Hid (crS W H (fun e => decide (cnt (ty zs W H) e.1 e.2.1 e.2.2.1 e.2.2.2 = 2)) cs [x0, x1, x2, x3, x4] = (1, cs)) := crS_num hk0 (Or.inl h1)
                    rw [nuI_none h1] at n1
                    go_wp2
                    refine bodyPost_ret (v := .tuple #[.agg #[.int .i64 (W : Int), .int .i64 (H : Int), .slice (some ⟨b, off, none⟩) zs.length kc, .slice ca cs.length cc], .int .i64 1]) (by simp [results, Tryz.results19, go_sem, *]) rfl ?_
                    refine cl_out HE.out HJ.out ?_
                    repeat' (first | exact HCLB.out | (refine bl_set ?_ (by (try dsimp only); omega)))
                  | some v1 =>
                    rw [nuI_some h1] at n1
                    have p1 : ¬ (v1 : Int) < 0 := by omega
                    cases h2 : num x2 with
                    | none =>
                      have HE : Hid (crS W H (fun e => decide (cnt (ty zs W H) e.1 e.2.1 e.2.2.1 e.2.2.2 = 2)) cs [x0, x1, x2, x3, x4] = (1, cs)) := crS_num hk0 (Or.inr (Or.inl h2))
                      rw [nuI_none h2] at n2
                      go_wp2
                      refine bodyPost_ret (v := .tuple #[.agg #[.int .i64 (W : Int), .int .i64 (H : Int), .slice (some ⟨b, off, none⟩) zs.length kc, .slice ca cs.length cc], .int .i64 1]) (by simp [results, Tryz.results19, go_sem, *]) rfl ?_
                      refine cl_out HE.out HJ.out ?_
                      repeat' (first | exact HCLB.out | (refine bl_set ?_ (by (try dsimp only); omega)))
                    | some v2 =>
                      rw [nuI_some h2] at n2
                      have p2 : ¬ (v2 : Int) < 0 := by omega
                      cases h3 : num x3 with
                      | none =>
                        have HE : Hid (crS W H (fun e => decide (cnt (ty zs W H) e.1 e.2.1 e.2.2.1 e.2.2.2 = 2)) cs [x0, x1, x2, x3, x4] = (1, cs)) := crS_num hk0 (Or.inr (Or.inr (Or.inl h3)))
                        rw [nuI_none h3] at n3
                        go_wp2
                        refine bodyPost_ret (v := .tuple #[.agg #[.int .i64 (W : Int), .int .i64 (H : Int), .slice (some ⟨b, off, none⟩) zs.length kc, .slice ca cs.length cc], .int .i64 1]) (by simp [results, Tryz.results19, go_sem, *]) rfl ?_
                        refine cl_out HE.out HJ.out ?_
                        repeat' (first | exact HCLB.out | (refine bl_set ?_ (by (try dsimp only); omega)))
                      | some v3 =>
                        rw [nuI_some h3] at n3
                        have p3 : ¬ (v3 : Int) < 0 := by omega
                        cases h4 : num x4 with
                        | none =>
                          have HE : Hid (crS W H (fun e => decide (cnt (ty zs W H) e.1 e.2.1 e.2.2.1 e.2.2.2 = 2)) cs [x0, x1, x2, x3, x4] = (1, cs)) := crS_num hk0 (Or.inr (Or.inr (Or.inr h4)))
                          rw [nuI_none h4] at n4
                          go_wp2
                          refine bodyPost_ret (v := .tuple #[.agg #[.int .i64 (W : Int), .int .i64 (H : Int), .slice (some ⟨b, off, none⟩) zs.length kc, .slice ca cs.length cc], .int .i64 1]) (by simp [results, Tryz.results19, go_sem, *]) rfl ?_
                          refine cl_out HE.out HJ.out ?_
                          repeat' (first | exact HCLB.out | (refine bl_set ?_ (by (try dsimp only); omega)))
                        | some v4 =>
                          rw [nuI_some h4] at n4
                          have p4 : ¬ (v4 : Int) < 0 := by omega
                          have HNUM : Hid (num x1 = some v1 ∧ num x2 = some v2 ∧ num x3 = some v3 ∧ num x4 = some v4) := ⟨h1, h2, h3, h4⟩
                          clear h1 h2 h3 h4
                          go_wp2
                          have hv1 := num_lt HNUM.out.1
                          have hv2 := num_lt HNUM.out.2.1
                          have hv3 := num_lt HNUM.out.2.2.1
                          have hv4 := num_lt HNUM.out.2.2.2
                          obtain ⟨WW, hWW⟩ : ∃ x : Int, x = 2 * (W : Int) := ⟨_, rfl⟩
                          obtain ⟨HH, hHH⟩ : ∃ x : Int, x = 2 * (H : Int) := ⟨_, rfl⟩
                          obtain ⟨S1, hS1⟩ : ∃ x : Int, x = (v1 : Int) + (v2 : Int) := ⟨_, rfl⟩
                          obtain ⟨S2, hS2⟩ : ∃ x : Int, x = (v3 : Int) + (v4 : Int) := ⟨_, rfl⟩
                          have m1 : IntKind.i64.wrap (2 * (W : Int)) = WW := by rw [IntKind.wrap_i64]; omega
                          have m2 : IntKind.i64.wrap (2 * (H : Int)) = HH := by rw [IntKind.wrap_i64]; omega
                          have m3 : IntKind.i64.wrap ((v1 : Int) + (v2 : Int)) = S1 := by rw [IntKind.wrap_i64]; omega
                          have m4 : IntKind.i64.wrap ((v3 : Int) + (v4 : Int)) = S2 := by rw [IntKind.wrap_i64]; omega
                          have HSM : Hid (WW = 2 * (W : Int) ∧ HH = 2 * (H : Int) ∧ S1 = (v1 : Int) + (v2 : Int) ∧ S2 = (v3 : Int) + (v4 : Int)) := ⟨hWW, hHH, hS1, hS2⟩
                          have HK0 : Hid (kdW x0 = 1 ∨ kdW x0 = 2) := kdW_12x hk0
                          clear hWW hHH hS1 hS2 k0 hk0 p1 p2 p3 p4
                          go_cut [131] from 13 (fun s131 wx => s131 = .bool (decide (WW < (v1 : Int) ∨ WW < (v3 : Int) ∨ HH < (v2 : Int) ∨ HH < (v4 : Int) ∨ S1 % 2 ≠ 0 ∨ S2 % 2 ≠ 0)) ∧ Below wr.heap.size wr wx)
                          case first =>
                            by_cases c0 : WW < (v1 : Int)
                            · have d0 : decide (WW < (v1 : Int)) = true := decide_eq_true c0
                              go_quiet (fail)
                              go_wp2
                              go_meet
                              case rel => exact ⟨congrArg Value.bool (decide_eq_true (p := WW < (v1 : Int) ∨ WW < (v3 : Int) ∨ HH < (v2 : Int) ∨ HH < (v4 : Int) ∨ S1 % 2 ≠ 0 ∨ S2 % 2 ≠ 0) (by omega)).symm, by first | exact bl_drewN (bl_refl _) | exact bl_drew (bl_refl _)⟩
                            · have d0 : decide (WW < (v1 : Int)) = false := decide_eq_false c0
                              by_cases c1 : WW < (v3 : Int)
                              · have d1 : decide (WW < (v3 : Int)) = true := decide_eq_true c1
                                go_quiet (fail)
                                go_wp2
                                go_meet
                                case rel => exact ⟨congrArg Value.bool (decide_eq_true (p := WW < (v1 : Int) ∨ WW < (v3 : Int) ∨ HH < (v2 : Int) ∨ HH < (v4 : Int) ∨ S1 % 2 ≠ 0 ∨ S2 % 2 ≠ 0) (by omega)).symm, by first | exact bl_drewN (bl_refl _) | exact bl_drew (bl_refl _)⟩
                              · have d1 : decide (WW < (v3 : Int)) = false := decide_eq_false c1
                                by_cases c2 : HH < (v2 : Int)
                                · have d2 : decide (HH < (v2 : Int)) = true := decide_eq_true c2
                                  go_quiet (fail)
                                  go_wp2
                                  go_meet
                                  case rel => exact ⟨congrArg Value.bool (decide_eq_true (p := WW < (v1 : Int) ∨ WW < (v3 : Int) ∨ HH < (v2 : Int) ∨ HH < (v4 : Int) ∨ S1 % 2 ≠ 0 ∨ S2 % 2 ≠ 0) (by omega)).symm, by first | exact bl_drewN (bl_refl _) | exact bl_drew (bl_refl _)⟩
                                · have d2 : decide (HH < (v2 : Int)) = false := decide_eq_false c2
                                  by_cases c3 : HH < (v4 : Int)
                                  · have d3 : decide (HH < (v4 : Int)) = true := decide_eq_true c3
                                    go_quiet (fail)
                                    go_wp2
                                    go_meet
                                    case rel => exact ⟨congrArg Value.bool (decide_eq_true (p := WW < (v1 : Int) ∨ WW < (v3 : Int) ∨ HH < (v2 : Int) ∨ HH < (v4 : Int) ∨ S1 % 2 ≠ 0 ∨ S2 % 2 ≠ 0) (by omega)).symm, by first | exact bl_drewN (bl_refl _) | exact bl_drew (bl_refl _)⟩
                                  · have d3 : decide (HH < (v4 : Int)) = false := decide_eq_false c3
                                    by_cases c4 : S1 % 2 = 0
                                    · have z4 : (S1 % 2 == 0) = true := by simpa using c4
                                      have zn4 : (S1 % 2 != 0) = false := by rw [bne, z4]; rfl
                                      have t4 : (S1.tmod 2 == 0) = true := by rw [← z4, Bool.eq_iff_iff, beq_iff_eq, beq_iff_eq, tmod2]
                                      have tn4 : (S1.tmod 2 != 0) = false := by rw [bne, t4]; rfl
                                      by_cases c5 : S2 % 2 = 0
                                      · have z5 : (S2 % 2 == 0) = true := by simpa using c5
                                        have zn5 : (S2 % 2 != 0) = false := by rw [bne, z5]; rfl
                                        have t5 : (S2.tmod 2 == 0) = true := by rw [← z5, Bool.eq_iff_iff, beq_iff_eq, beq_iff_eq, tmod2]
                                        have tn5 : (S2.tmod 2 != 0) = false := by rw [bne, t5]; rfl
                                        go_quiet (fail)
                                        go_wp2
                                        go_meet
                                        case rel => exact ⟨congrArg Value.bool (decide_eq_false (p := WW < (v1 : Int) ∨ WW < (v3 : Int) ∨ HH < (v2 : Int) ∨ HH < (v4 : Int) ∨ S1 % 2 ≠ 0 ∨ S2 % 2 ≠ 0) (by omega)).symm, by first | exact bl_drewN (bl_refl _) | exact bl_drew (bl_refl _)⟩
                                      · have z5 : (S2 % 2 == 0) = false := by simpa using c5
                                        have zn5 : (S2 % 2 != 0) = true := by rw [bne, z5]; rfl
                                        have t5 : (S2.tmod 2 == 0) = false := by rw [← z5, Bool.eq_iff_iff, beq_iff_eq, beq_iff_eq, tmod2]
                                        have tn5 : (S2.tmod 2 != 0) = true := by rw [bne, t5]; rfl
                                        go_quiet (fail)
                                        go_wp2
                                        go_meet
                                        case rel => exact ⟨congrArg Value.bool (decide_eq_true (p := WW < (v1 : Int) ∨ WW < (v3 : Int) ∨ HH < (v2 : Int) ∨ HH < (v4 : Int) ∨ S1 % 2 ≠ 0 ∨ S2 % 2 ≠ 0) (by omega)).symm, by first | exact bl_drewN (bl_refl _) | exact bl_drew (bl_refl _)⟩
                                    · have z4 : (S1 % 2 == 0) = false := by simpa using c4
                                      have zn4 : (S1 % 2 != 0) = true := by rw [bne, z4]; rfl
                                      have t4 : (S1.tmod 2 == 0) = false := by rw [← z4, Bool.eq_iff_iff, beq_iff_eq, beq_iff_eq, tmod2]
                                      have tn4 : (S1.tmod 2 != 0) = true := by rw [bne, t4]; rfl
                                      go_quiet (fail)
                                      go_wp2
                                      go_meet
                                      case rel => exact ⟨congrArg Value.bool (decide_eq_true (p := WW < (v1 : Int) ∨ WW < (v3 : Int) ∨ HH < (v2 : Int) ∨ HH < (v4 : Int) ∨ S1 % 2 ≠ 0 ∨ S2 % 2 ≠ 0) (by omega)).symm, by first | exact bl_drewN (bl_refl _) | exact bl_drew (bl_refl _)⟩
                          case rest =>
                            obtain ⟨rfl, hbc⟩ := hcut
                            have n1 := cl_kept hbc n1
                            have n2 := cl_kept hbc n2
                            have n3 := cl_kept hbc n3
                            have n4 := cl_kept hbc n4
                            have HCL : Hid (CL w wc W H (.slice (some ⟨b, off, none⟩) zs.length kc) (.slice ca cs.length cc)) := HCL.out.kept hbc
                            have b0 := HCL.out.b0
                            have b1 := HCL.out.b1
                            have b2 := HCL.out.b2
                            have b3 := HCL.out.b3
                            have r0 := HCL.out.r0
                            have r1 := HCL.out.r1
                            have r2 := HCL.out.r2
                            have r3 := HCL.out.r3
                            have f0 := HCL.out.fr 0
                            have f1 := HCL.out.fr 1
                            have f2 := HCL.out.fr 2
                            have f3 := HCL.out.fr 3
                            have HCLB : Hid (Below w.heap.size w wc) := HCL.out.bl
                            clear hbc m1 m2 m3 m4
                            obtain ⟨e1, e2, e3, e4⟩ := HSM.out
                            by_cases hbad : WW < (v1 : Int) ∨ WW < (v3 : Int) ∨ HH < (v2 : Int) ∨ HH < (v4 : Int) ∨ S1 % 2 ≠ 0 ∨ S2 % 2 ≠ 0
                            · have hd : decide (WW < (v1 : Int) ∨ WW < (v3 : Int) ∨ HH < (v2 : Int) ∨ HH < (v4 : Int) ∨ S1 % 2 ≠ 0 ∨ S2 % 2 ≠ 0) = true := decide_eq_true hbad
                              have HE : Hid (crS W H (fun e => decide (cnt (ty zs W H) e.1 e.2.1 e.2.2.1 e.2.2.2 = 2)) cs [x0, x1, x2, x3, x4] = (3, cs)) := by
                                refine crS_out (by rcases HK0.out with h | h <;> rw [h] <;> decide) HNUM.out.1 HNUM.out.2.1 HNUM.out.2.2.1 HNUM.out.2.2.2 ?_
                                have k1 : wthn W H v1 v2 = false ∨ wthn W H v3 v4 = false := by
                                  rw [← Bool.not_eq_true, ← Bool.not_eq_true, wthn_iff, wthn_iff]
                                  omega
                                rcases k1 with k1 | k1
                                · exact Or.inl k1
                                · exact Or.inr (Or.inl k1)
                              clear hbad e1 e2 e3 e4
                              rw [hd]
                              clear hd
                              go_wp2
                              refine bodyPost_ret (v := .tuple #[.agg #[.int .i64 (W : Int), .int .i64 (H : Int), .slice (some ⟨b, off, none⟩) zs.length kc, .slice ca cs.length cc], .int .i64 3]) (by simp [results, Tryz.results19, go_sem, *]) rfl ?_
                              refine cl_out HE.out HJ.out ?_
                              repeat' (first | exact HCLB.out | (refine bl_set ?_ (by (try dsimp only); omega)))
                            · have hd : decide (WW < (v1 : Int) ∨ WW < (v3 : Int) ∨ HH < (v2 : Int) ∨ HH < (v4 : Int) ∨ S1 % 2 ≠ 0 ∨ S2 % 2 ≠ 0) = false := decide_eq_false hbad
                              have w1 : wthn W H v1 v2 = true := wthn_iff.2 (by omega)
                              have w2 : wthn W H v3 v4 = true := wthn_iff.2 (by omega)
                              have le1 := wthn_le hW.2 hH.2 w1
                              have le2 := wthn_le hW.2 hH.2 w2
                              have pa1 := wthn_par w1
                              have pa2 := wthn_par w2
                              have C35 : Hid (∀ V' : World, Calls Tryz.prog 35 #[.agg #[.int .i64 (v1 : Int), .int .i64 (v2 : Int)], .agg #[.int .i64 (v3 : Int), .int .i64 (v4 : Int)]] V' fun e w' => ∃ sa ec, e = .returned (.slice sa (egR (v1 : Int) v2 v3 v4).length ec) ∧ ER w' sa (egR v1 v2 v3 v4) ∧ (∀ g, sa = some ⟨g, 0, none⟩ → V'.heap.size ≤ g) ∧ Below V'.heap.size V' w') := fun V' => (edgesOn_any v1 v2 v3 v4 V' le1.1 le1.2 le2.1 le2.2 pa1 pa2).mono (by
                                rintro e w' ⟨sl, rfl, base, ho, hb, hbl⟩
                                obtain ⟨sa, ec, rfl, he, hg⟩ := own_edges ho
                                exact ⟨sa, ec, rfl, he, fun g e => Nat.le_trans hb (hg g e), hbl⟩)
                              have HCR : Hid (crS W H (fun e => decide (cnt (ty zs W H) e.1 e.2.1 e.2.2.1 e.2.2.2 = 2)) cs [x0, x1, x2, x3, x4] = if egR (v1 : Int) v2 v3 v4 = [] then (3, cs) else if (egR (v1 : Int) v2 v3 v4).all (fun e => decide (cnt (ty zs W H) e.1 e.2.1 e.2.2.1 e.2.2.2 = 2)) = false then (5, cs) else if (egR (v1 : Int) v2 v3 v4).any (fun e => decide (kdc cs e ≠ 0)) = true then (6, cs) else (0, putA cs (egR v1 v2 v3 v4) K)) := by
                                have h9 := crR_eq (W := W) (H := H) (inn := (fun e => decide (cnt (ty zs W H) e.1 e.2.1 e.2.2.1 e.2.2.2 = 2))) HG.out.2.2.2.2 HK0.out HNUM.out.1 HNUM.out.2.1 HNUM.out.2.2.1 HNUM.out.2.2.2 w1 w2
                                rw [HKD.out] at h9
                                exact h9
                              have HLE : Hid ((egR (v1 : Int) v2 v3 v4).length ≤ 1000 ∧ (egR (v1 : Int) v2 v3 v4).Nodup) := by
                                refine ⟨?_, egR_nodup (by omega) (by omega)⟩
                                rw [egR_len (by omega) (by omega)]
                                exact egs_le (by omega) (by omega) (by omega) (by omega)
                              generalize egR (v1 : Int) v2 v3 v4 = l at C35 HCR HLE
                              clear hbad e1 e2 e3 e4 w1 w2 le1 le2 pa1 pa2
                              rw [hd]
                              clear hd
                              go_wp2
                              go_region_held3 (fun w' => w'.cell? ⟨g7, 0, none⟩ = some (.int .i64 (v1 : Int)) ∧ w'.cell? ⟨g7, 1, none⟩ = some (.int .i64 (v2 : Int)) ∧ w'.cell? ⟨g7, 2, none⟩ = some (.int .i64 (v3 : Int)) ∧ w'.cell? ⟨g7, 3, none⟩ = some (.int .i64 (v4 : Int)))
                                (first | exact ⟨dr_old n1, dr_old n2, dr_old n3, dr_old n4⟩ | exact ⟨o1, o2, o3, o4⟩)
                                ((go_at_call 35; (with_reducible refine (C35.out _).mono ?_); rintro e w9 ⟨sa, ec, rfl, her, hg9, hb9⟩; have hbw := bl_via (bl_drew (bl_refl wc)) hb9; have o1 := cl_kept hbw n1; have o2 := cl_kept hbw n2; have o3 := cl_kept hbw n3; have o4 := cl_kept hbw n4; have H9 : Hid (ER w9 sa l ∧ (∀ g, sa = some ⟨g, 0, none⟩ → wc.heap.size ≤ g) ∧ Below wc.heap.size wc w9) := ⟨her, hg9, hbw⟩; clear her hg9 hb9 hbw))
                              have zwc := HCL.out.sz
                              have HCL : Hid (CL w w9 W H (.slice (some ⟨b, off, none⟩) zs.length kc) (.slice ca cs.length cc)) := HCL.out.kept H9.out.2.2
                              by_cases hl0 : l = []
                              · have HE : Hid (crS W H (fun e => decide (cnt (ty zs W H) e.1 e.2.1 e.2.2.1 e.2.2.2 = 2)) cs [x0, x1, x2, x3, x4] = (3, cs)) := by
                                  show crS W H (fun e => decide (cnt (ty zs W H) e.1 e.2.1 e.2.2.1 e.2.2.2 = 2)) cs [x0, x1, x2, x3, x4] = (3, cs)
                                  rw [HCR.out, if_pos hl0]
                                have q0 : ((l.length : Int) == 0) = true := by rw [hl0]; rfl
                                have r0 := HCL.out.r0
                                have r1 := HCL.out.r1
                                have r2 := HCL.out.r2
                                have r3 := HCL.out.r3
                                have b0 := HCL.out.b0
                                have b1 := HCL.out.b1
                                have b2 := HCL.out.b2
                                have b3 := HCL.out.b3
                                have f0 := HCL.out.fr 0
                                have f1 := HCL.out.fr 1
                                have f2 := HCL.out.fr 2
                                have f3 := HCL.out.fr 3
                                have HCLB : Hid (Below w.heap.size w w9) := HCL.out.bl
                                have zr := HCL.out.sz
                                clear hl0
                                go_wp2
                                refine bodyPost_ret (v := .tuple #[.agg #[.int .i64 (W : Int), .int .i64 (H : Int), .slice (some ⟨b, off, none⟩) zs.length kc, .slice ca cs.length cc], .int .i64 3]) (by simp [results, Tryz.results19, go_sem, *]) rfl ?_
                                refine cl_out HE.out HJ.out ?_
                                repeat' (first | exact HCLB.out | (refine bl_set ?_ (by (try dsimp only); omega)))
                              · have q0 : ((l.length : Int) == 0) = false := by
                                  rw [beq_eq_false_iff_ne]
                                  intro h
                                  exact hl0 (List.length_eq_zero_iff.1 (by omega))
                                have HNE : Hid (¬ l = []) := hl0
                                obtain ⟨g9, hsa, -⟩ := H9.out.1 0 (List.length_pos_iff.2 hl0)
                                subst hsa
                                have zg9 : w.heap.size + 2 ≤ g9 := by have h8 := H9.out.2.1 g9 rfl; omega
                                have HS : Hid (ER w9 (some ⟨g9, 0, none⟩) l ∧ CL w w9 W H (.slice (some ⟨b, off, none⟩) zs.length kc) (.slice ca cs.length cc)) := ⟨H9.out.1, HCL.out⟩
                                clear hl0 HCL H9 C35 n1 n2 n3 n4 o1 o2 o3 o4 b0 b1 b2 b3 r0 r1 r2 r3 f0 f1 f2 f3
                                go_wp2
                                go_loopg [10] l.length (fun gk s10 wx => ∃ i : Nat, i ≤ l.length ∧ l.length - i = gk ∧ s10 = .int .i64 (i : Int) ∧ (∀ k (hk : k < l.length), k < i → ((fun e => decide (cnt (ty zs W H) e.1 e.2.1 e.2.2.1 e.2.2.2 = 2))) l[k] = true) ∧ ER wx (some ⟨g9, 0, none⟩) l ∧ CL w wx W H (.slice (some ⟨b, off, none⟩) zs.length kc) (.slice ca cs.length cc))
                                case atStart => exact ⟨0, by omega, rfl, rfl, fun k _ h => by omega, HS.out.1, HS.out.2⟩
                                case round =>
                                  as_aux_lemma =>
                                    clear HS
                                    obtain ⟨i, hi, rfl, rfl, hall, her, hcl⟩ := hrel
                                    have HAL : Hid (∀ k (hk : k < l.length), k < i → ((fun e => decide (cnt (ty zs W H) e.1 e.2.1 e.2.2.1 e.2.2.2 = 2))) l[k] = true) := hall
                                    have HER : Hid (ER wr (some ⟨g9, 0, none⟩) l) := her
                                    have HCL : Hid (CL w wr W H (.slice (some ⟨b, off, none⟩) zs.length kc) (.slice ca cs.length cc)) := hcl
                                    clear hall her hcl
                                    have hlen := HLE.out.1
                                    by_cases h1 : i < l.length
                                    · have i1 : (i : Int) < (l.length : Int) := by omega
                                      have i0 : (0 : Int) ≤ (i : Int) := by omega
                                      obtain ⟨g', hg', t0, t1, t2, t3⟩ := HER.out i h1
                                      obtain rfl : g9 = g' := by simpa using hg'
                                      clear hg'
                                      obtain ⟨⟨e0, e1, e2, e3⟩, he⟩ : ∃ e : E4, e = l[i] := ⟨_, rfl⟩
                                      rw [← he] at t0 t1 t2 t3
                                      dsimp only at t0 t1 t2 t3
                                      have b0 := HCL.out.b0
                                      have b1 := HCL.out.b1
                                      have b2 := HCL.out.b2
                                      have b3 := HCL.out.b3
                                      have C36 : Hid (∀ V' : World, Below wr.heap.size wr V' → Calls Tryz.prog 36 #[.agg #[.int .i64 (W : Int), .int .i64 (H : Int), .slice (some ⟨b, off, none⟩) zs.length kc, .slice ca cs.length cc], .agg #[.int .i64 e0, .int .i64 e1, .int .i64 e2, .int .i64 e3]] V' fun e w' => e = .returned (.bool (decide (cnt (ty zs W H) e0 e1 e2 e3 = 2))) ∧ Below V'.heap.size V' w') := fun V' hb => innerEdge_any W H b off kc zs _ e0 e1 e2 e3 V' (HG.out.1.kept (bl_via HCL.out.bl hb)) hW hH HG.out.2.1 HG.out.2.2.1
                                      by_cases hin : ((fun e => decide (cnt (ty zs W H) e.1 e.2.1 e.2.2.1 e.2.2.2 = 2))) l[i] = true
                                      · rw [show decide (cnt (ty zs W H) e0 e1 e2 e3 = 2) = true by have h8 := hin; rw [← he] at h8; exact h8] at C36
                                        clear he
                                        go_wp2
                                        go_region_held3 (fun w' => w'.cell? ⟨w.heap.size, 0, none⟩ = some (.int .i64 (W : Int)) ∧ w'.cell? ⟨w.heap.size, 1, none⟩ = some (.int .i64 (H : Int)) ∧ w'.cell? ⟨w.heap.size, 2, none⟩ = some (.slice (some ⟨b, off, none⟩) zs.length kc) ∧ w'.cell? ⟨w.heap.size, 3, none⟩ = some (.slice ca cs.length cc) ∧ w'.cell? ⟨g9, i * 4, none⟩ = some (.int .i64 e0) ∧ w'.cell? ⟨g9, i * 4 + 1, none⟩ = some (.int .i64 e1) ∧ w'.cell? ⟨g9, i * 4 + 2, none⟩ = some (.int .i64 e2) ∧ w'.cell? ⟨g9, i * 4 + 3, none⟩ = some (.int .i64 e3))
                                          (first | exact ⟨dr_old b0, dr_old b1, dr_old b2, dr_old b3, dr_old t0, dr_old t1, dr_old t2, dr_old t3⟩ | exact ⟨y0, y1, y2, y3, y4, y5, y6, y7⟩)
                                          ((go_at_call 36; (with_reducible refine (C36.out _ (bl_drew (bl_refl _))).mono ?_); rintro e w5 ⟨rfl, hb5⟩; have hbw := bl_via (bl_drew (bl_refl wr)) hb5; have y0 := cl_kept hbw b0; have y1 := cl_kept hbw b1; have y2 := cl_kept hbw b2; have y3 := cl_kept hbw b3; have y4 := cl_kept hbw t0; have y5 := cl_kept hbw t1; have y6 := cl_kept hbw t2; have y7 := cl_kept hbw t3; have H5 : Hid (Below wr.heap.size wr w5) := hbw; clear hb5 hbw))
                                        have HN : Hid (ER w5 (some ⟨g9, 0, none⟩) l ∧ CL w w5 W H (.slice (some ⟨b, off, none⟩) zs.length kc) (.slice ca cs.length cc)) := ⟨HER.out.kept H5.out, HCL.out.kept H5.out⟩
                                        go_wp2
                                        go_roundg (l.length - (i + 1))
                                        case measure => omega
                                        case rel => exact ⟨i + 1, by omega, rfl, by go_num, fun k hk hki => by
                                          by_cases e : k = i
                                          · subst e
                                            exact hin
                                          · exact HAL.out k hk (by omega), HN.out.1, HN.out.2⟩
                                      · have HE : Hid (crS W H (fun e => decide (cnt (ty zs W H) e.1 e.2.1 e.2.2.1 e.2.2.2 = 2)) cs [x0, x1, x2, x3, x4] = (5, cs)) := by
                                          show crS W H (fun e => decide (cnt (ty zs W H) e.1 e.2.1 e.2.2.1 e.2.2.2 = 2)) cs [x0, x1, x2, x3, x4] = (5, cs)
                                          rw [HCR.out, if_neg HNE.out, if_pos (show l.all (fun e => decide (cnt (ty zs W H) e.1 e.2.1 e.2.2.1 e.2.2.2 = 2)) = false from List.all_eq_false.2 ⟨l[i], List.getElem_mem h1, hin⟩)]
                                        rw [show decide (cnt (ty zs W H) e0 e1 e2 e3 = 2) = false by have h8 := hin; rw [← he] at h8; simpa using h8] at C36
                                        clear he
                                        go_wp2
                                        go_region_held3 (fun w' => w'.cell? ⟨w.heap.size, 0, none⟩ = some (.int .i64 (W : Int)) ∧ w'.cell? ⟨w.heap.size, 1, none⟩ = some (.int .i64 (H : Int)) ∧ w'.cell? ⟨w.heap.size, 2, none⟩ = some (.slice (some ⟨b, off, none⟩) zs.length kc) ∧ w'.cell? ⟨w.heap.size, 3, none⟩ = some (.slice ca cs.length cc) ∧ w'.cell? ⟨g9, i * 4, none⟩ = some (.int .i64 e0) ∧ w'.cell? ⟨g9, i * 4 + 1, none⟩ = some (.int .i64 e1) ∧ w'.cell? ⟨g9, i * 4 + 2, none⟩ = some (.int .i64 e2) ∧ w'.cell? ⟨g9, i * 4 + 3, none⟩ = some (.int .i64 e3))
                                          (first | exact ⟨dr_old b0, dr_old b1, dr_old b2, dr_old b3, dr_old t0, dr_old t1, dr_old t2, dr_old t3⟩ | exact ⟨y0, y1, y2, y3, y4, y5, y6, y7⟩)
                                          ((go_at_call 36; (with_reducible refine (C36.out _ (bl_drew (bl_refl _))).mono ?_); rintro e w5 ⟨rfl, hb5⟩; have hbw := bl_via (bl_drew (bl_refl wr)) hb5; have y0 := cl_kept hbw b0; have y1 := cl_kept hbw b1; have y2 := cl_kept hbw b2; have y3 := cl_kept hbw b3; have y4 := cl_kept hbw t0; have y5 := cl_kept hbw t1; have y6 := cl_kept hbw t2; have y7 := cl_kept hbw t3; have H5 : Hid (Below wr.heap.size wr w5) := hbw; clear hb5 hbw))
                                        have HCL : Hid (CL w w5 W H (.slice (some ⟨b, off, none⟩) zs.length kc) (.slice ca cs.length cc)) := HCL.out.kept H5.out
                                        have r0 := HCL.out.r0
                                        have r1 := HCL.out.r1
                                        have r2 := HCL.out.r2
                                        have r3 := HCL.out.r3
                                        have b0 := HCL.out.b0
                                        have b1 := HCL.out.b1
                                        have b2 := HCL.out.b2
                                        have b3 := HCL.out.b3
                                        have f0 := HCL.out.fr 0
                                        have f1 := HCL.out.fr 1
                                        have f2 := HCL.out.fr 2
                                        have f3 := HCL.out.fr 3
                                        have HCLB : Hid (Below w.heap.size w w5) := HCL.out.bl
                                        have zr := HCL.out.sz
                                        go_wp2
                                        refine bodyPost_ret (v := .tuple #[.agg #[.int .i64 (W : Int), .int .i64 (H : Int), .slice (some ⟨b, off, none⟩) zs.length kc, .slice ca cs.length cc], .int .i64 5]) (by simp [results, Tryz.results19, go_sem, *]) rfl ?_
                                        refine cl_out HE.out HJ.out ?_
                                        repeat' (first | exact HCLB.out | (refine bl_set ?_ (by (try dsimp only); omega)))
                                    · obtain rfl : i = l.length := by omega
                                      have i1 : ¬ (l.length : Int) < (l.length : Int) := by omega
                                      have HAA : Hid (l.all (fun e => decide (cnt (ty zs W H) e.1 e.2.1 e.2.2.1 e.2.2.2 = 2)) = true) := by
                                        show l.all (fun e => decide (cnt (ty zs W H) e.1 e.2.1 e.2.2.1 e.2.2.2 = 2)) = true
                                        rw [List.all_eq_true]
                                        intro e he
                                        obtain ⟨k, hk, rfl⟩ := List.mem_iff_getElem.1 he
                                        exact HAL.out k hk hk
                                      have HS : Hid (ER wr (some ⟨g9, 0, none⟩) l ∧ CL w wr W H (.slice (some ⟨b, off, none⟩) zs.length kc) (.slice ca cs.length cc)) := ⟨HER.out, HCL.out⟩
                                      clear HER HCL HAL
                                      go_wp2
                                      go_loopg [11] l.length (fun gk s11 wx => ∃ i : Nat, i ≤ l.length ∧ l.length - i = gk ∧ s11 = .int .i64 (i : Int) ∧ (∀ k (hk : k < l.length), k < i → kdc cs l[k] = 0) ∧ ER wx (some ⟨g9, 0, none⟩) l ∧ CL w wx W H (.slice (some ⟨b, off, none⟩) zs.length kc) (.slice ca cs.length cc))
                                      case atStart => exact ⟨0, by omega, rfl, rfl, fun k _ h => by omega, HS.out.1, HS.out.2⟩
                                      case round =>
                                        as_aux_lemma =>
                                          clear HS
                                          obtain ⟨i, hi, rfl, rfl, hall, her, hcl⟩ := hrel
                                          have HAL : Hid (∀ k (hk : k < l.length), k < i → kdc cs l[k] = 0) := hall
                                          have HER : Hid (ER wr (some ⟨g9, 0, none⟩) l) := her
                                          have HCL : Hid (CL w wr W H (.slice (some ⟨b, off, none⟩) zs.length kc) (.slice ca cs.length cc)) := hcl
                                          clear hall her hcl
                                          have hlen := HLE.out.1
                                          by_cases h1 : i < l.length
                                          · have i1 : (i : Int) < (l.length : Int) := by omega
                                            have i0 : (0 : Int) ≤ (i : Int) := by omega
                                            obtain ⟨g', hg', t0, t1, t2, t3⟩ := HER.out i h1
                                            obtain rfl : g9 = g' := by simpa using hg'
                                            clear hg'
                                            obtain ⟨⟨e0, e1, e2, e3⟩, he⟩ : ∃ e : E4, e = l[i] := ⟨_, rfl⟩
                                            rw [← he] at t0 t1 t2 t3
                                            dsimp only at t0 t1 t2 t3
                                            have b0 := HCL.out.b0
                                            have b1 := HCL.out.b1
                                            have b2 := HCL.out.b2
                                            have b3 := HCL.out.b3
                                            have C37 : Hid (∀ V' : World, Below wr.heap.size wr V' → Calls Tryz.prog 37 #[.agg #[.int .i64 (W : Int), .int .i64 (H : Int), .slice (some ⟨b, off, none⟩) zs.length kc, .slice ca cs.length cc], .agg #[.int .i64 e0, .int .i64 e1, .int .i64 e2, .int .i64 e3]] V' fun e w' => e = .returned (.int .i64 (kdc cs (e0, e1, e2, e3))) ∧ Below V'.heap.size V' w') := fun V' hb => by
                                              have h9 := kindOf_any V' (.int .i64 (W : Int)) (.int .i64 (H : Int)) (.slice (some ⟨b, off, none⟩) zs.length kc) ca cs.length cc (ksOf cs) e0 e1 e2 e3 (j_crow (HJ.out.kept (bl_via HCL.out.bl hb))) (cr_one HG.out.2.2.2.2.1) (by have := HG.out.2.2.2.1; omega)
                                              rw [kdn_kdc HG.out.2.2.2.2.1] at h9
                                              exact h9
                                            by_cases hin : kdc cs l[i] = 0
                                            · rw [show kdc cs (e0, e1, e2, e3) = 0 by rw [he]; exact hin] at C37
                                              clear he
                                              go_wp2
                                              go_region_held3 (fun w' => w'.cell? ⟨w.heap.size, 0, none⟩ = some (.int .i64 (W : Int)) ∧ w'.cell? ⟨w.heap.size, 1, none⟩ = some (.int .i64 (H : Int)) ∧ w'.cell? ⟨w.heap.size, 2, none⟩ = some (.slice (some ⟨b, off, none⟩) zs.length kc) ∧ w'.cell? ⟨w.heap.size, 3, none⟩ = some (.slice ca cs.length cc) ∧ w'.cell? ⟨g9, i * 4, none⟩ = some (.int .i64 e0) ∧ w'.cell? ⟨g9, i * 4 + 1, none⟩ = some (.int .i64 e1) ∧ w'.cell? ⟨g9, i * 4 + 2, none⟩ = some (.int .i64 e2) ∧ w'.cell? ⟨g9, i * 4 + 3, none⟩ = some (.int .i64 e3))
                                                (first | exact ⟨dr_old b0, dr_old b1, dr_old b2, dr_old b3, dr_old t0, dr_old t1, dr_old t2, dr_old t3⟩ | exact ⟨y0, y1, y2, y3, y4, y5, y6, y7⟩)
                                                ((go_at_call 37; (with_reducible refine (C37.out _ (bl_drew (bl_refl _))).mono ?_); rintro e w5 ⟨rfl, hb5⟩; have hbw := bl_via (bl_drew (bl_refl wr)) hb5; have y0 := cl_kept hbw b0; have y1 := cl_kept hbw b1; have y2 := cl_kept hbw b2; have y3 := cl_kept hbw b3; have y4 := cl_kept hbw t0; have y5 := cl_kept hbw t1; have y6 := cl_kept hbw t2; have y7 := cl_kept hbw t3; have H5 : Hid (Below wr.heap.size wr w5) := hbw; clear hb5 hbw))
                                              have HN : Hid (ER w5 (some ⟨g9, 0, none⟩) l ∧ CL w w5 W H (.slice (some ⟨b, off, none⟩) zs.length kc) (.slice ca cs.length cc)) := ⟨HER.out.kept H5.out, HCL.out.kept H5.out⟩
                                              go_wp2
                                              go_roundg (l.length - (i + 1))
                                              case measure => omega
                                              case rel => exact ⟨i + 1, by omega, rfl, by go_num, fun k hk hki => by
                                                by_cases e : k = i
                                                · subst e
                                                  exact hin
                                                · exact HAL.out k hk (by omega), HN.out.1, HN.out.2⟩
                                            · have HE : Hid (crS W H (fun e => decide (cnt (ty zs W H) e.1 e.2.1 e.2.2.1 e.2.2.2 = 2)) cs [x0, x1, x2, x3, x4] = (6, cs)) := by
                                                show crS W H (fun e => decide (cnt (ty zs W H) e.1 e.2.1 e.2.2.1 e.2.2.2 = 2)) cs [x0, x1, x2, x3, x4] = (6, cs)
                                                rw [HCR.out, if_neg HNE.out, if_neg (by rw [HAA.out]; simp), if_pos (show l.any (fun e => decide (kdc cs e ≠ 0)) = true from List.any_eq_true.2 ⟨l[i], List.getElem_mem h1, by simpa using hin⟩)]
                                              obtain ⟨kv, hkv⟩ : ∃ kv, kv = kdc cs (e0, e1, e2, e3) := ⟨_, rfl⟩
                                              rw [← hkv] at C37
                                              have hk1 : (kv == 0) = false := by rw [beq_eq_false_iff_ne, hkv, he]; exact hin
                                              have hk2 : (kv != 0) = true := by rw [bne, hk1]; rfl
                                              clear hkv
                                              clear he
                                              go_wp2
                                              go_region_held3 (fun w' => w'.cell? ⟨w.heap.size, 0, none⟩ = some (.int .i64 (W : Int)) ∧ w'.cell? ⟨w.heap.size, 1, none⟩ = some (.int .i64 (H : Int)) ∧ w'.cell? ⟨w.heap.size, 2, none⟩ = some (.slice (some ⟨b, off, none⟩) zs.length kc) ∧ w'.cell? ⟨w.heap.size, 3, none⟩ = some (.slice ca cs.length cc) ∧ w'.cell? ⟨g9, i * 4, none⟩ = some (.int .i64 e0) ∧ w'.cell? ⟨g9, i * 4 + 1, none⟩ = some (.int .i64 e1) ∧ w'.cell? ⟨g9, i * 4 + 2, none⟩ = some (.int .i64 e2) ∧ w'.cell? ⟨g9, i * 4 + 3, none⟩ = some (.int .i64 e3))
                                                (first | exact ⟨dr_old b0, dr_old b1, dr_old b2, dr_old b3, dr_old t0, dr_old t1, dr_old t2, dr_old t3⟩ | exact ⟨y0, y1, y2, y3, y4, y5, y6, y7⟩)
                                                ((go_at_call 37; (with_reducible refine (C37.out _ (bl_drew (bl_refl _))).mono ?_); rintro e w5 ⟨rfl, hb5⟩; have hbw := bl_via (bl_drew (bl_refl wr)) hb5; have y0 := cl_kept hbw b0; have y1 := cl_kept hbw b1; have y2 := cl_kept hbw b2; have y3 := cl_kept hbw b3; have y4 := cl_kept hbw t0; have y5 := cl_kept hbw t1; have y6 := cl_kept hbw t2; have y7 := cl_kept hbw t3; have H5 : Hid (Below wr.heap.size wr w5) := hbw; clear hb5 hbw))
                                              have HCL : Hid (CL w w5 W H (.slice (some ⟨b, off, none⟩) zs.length kc) (.slice ca cs.length cc)) := HCL.out.kept H5.out
                                              have r0 := HCL.out.r0
                                              have r1 := HCL.out.r1
                                              have r2 := HCL.out.r2
                                              have r3 := HCL.out.r3
                                              have b0 := HCL.out.b0
                                              have b1 := HCL.out.b1
                                              have b2 := HCL.out.b2
                                              have b3 := HCL.out.b3
                                              have f0 := HCL.out.fr 0
                                              have f1 := HCL.out.fr 1
                                              have f2 := HCL.out.fr 2
                                              have f3 := HCL.out.fr 3
                                              have HCLB : Hid (Below w.heap.size w w5) := HCL.out.bl
                                              have zr := HCL.out.sz
                                              go_wp2
                                              refine bodyPost_ret (v := .tuple #[.agg #[.int .i64 (W : Int), .int .i64 (H : Int), .slice (some ⟨b, off, none⟩) zs.length kc, .slice ca cs.length cc], .int .i64 6]) (by simp [results, Tryz.results19, go_sem, *]) rfl ?_
                                              refine cl_out HE.out HJ.out ?_
                                              repeat' (first | exact HCLB.out | (refine bl_set ?_ (by (try dsimp only); omega)))
                                          · obtain rfl : i = l.length := by omega
                                            have i1 : ¬ (l.length : Int) < (l.length : Int) := by omega
                                            have HZZ : Hid (∀ e ∈ l, kdc cs e = 0) := fun e he => by
                                              obtain ⟨k, hk, rfl⟩ := List.mem_iff_getElem.1 he
                                              exact HAL.out k hk hk
                                            have HOK : Hid (crS W H (fun e => decide (cnt (ty zs W H) e.1 e.2.1 e.2.2.1 e.2.2.2 = 2)) cs [x0, x1, x2, x3, x4] = (0, putA cs l K)) := by
                                              show crS W H (fun e => decide (cnt (ty zs W H) e.1 e.2.1 e.2.2.1 e.2.2.2 = 2)) cs [x0, x1, x2, x3, x4] = (0, putA cs l K)
                                              rw [HCR.out, if_neg HNE.out, if_neg (by rw [HAA.out]; simp), if_neg (by
                                                rw [Bool.not_eq_true, List.any_eq_false]
                                                intro e he
                                                simp [HZZ.out e he])]
                                            have HS : Hid (ER wr (some ⟨g9, 0, none⟩) l ∧ JRow wr ca (putA cs (l.take 0) K) ∧ CL w wr W H (.slice (some ⟨b, off, none⟩) zs.length kc) (.slice ca (putA cs (l.take 0) K).length cc)) := by
                                              rw [List.take_zero]
                                              exact ⟨HER.out, HJ.out.kept HCL.out.bl, HCL.out⟩
                                            clear HER HCL HAL
                                            go_wp2
                                            go_loopg [12] l.length (fun gk s12 wx => ∃ (i : Nat) (ca' : Option Addr) (cc' : Nat), i ≤ l.length ∧ l.length - i = gk ∧ s12 = .int .i64 (i : Int) ∧ ER wx (some ⟨g9, 0, none⟩) l ∧ JRow wx ca' (putA cs (l.take i) K) ∧ CL w wx W H (.slice (some ⟨b, off, none⟩) zs.length kc) (.slice ca' (putA cs (l.take i) K).length cc') ∧ (putA cs (l.take i) K ≠ [] → ∀ g, ca' = some ⟨g, 0, none⟩ → g ≠ w.heap.size + 1))
                                            case atStart => exact ⟨0, ca, cc, by omega, rfl, rfl, HS.out.1, HS.out.2.1, HS.out.2.2, by rw [List.take_zero]; exact fun hn g e => jrow_old HJ.out hn g e⟩
                                            case round =>
                                              as_aux_lemma =>
                                                clear HS
                                                obtain ⟨i, ca', cc', hi, rfl, rfl, her, hjr, hcl, hno⟩ := hrel
                                                have HER : Hid (ER wr (some ⟨g9, 0, none⟩) l) := her
                                                have HJR : Hid (JRow wr ca' (putA cs (l.take i) K)) := hjr
                                                have HCL : Hid (CL w wr W H (.slice (some ⟨b, off, none⟩) zs.length kc) (.slice ca' (putA cs (l.take i) K).length cc')) := hcl
                                                have HNO : Hid (putA cs (l.take i) K ≠ [] → ∀ g, ca' = some ⟨g, 0, none⟩ → g ≠ w.heap.size + 1) := hno
                                                clear her hjr hcl hno
                                                have hlen := HLE.out.1
                                                by_cases h1 : i < l.length
                                                · have i1 : (i : Int) < (l.length : Int) := by omega
                                                  have i0 : (0 : Int) ≤ (i : Int) := by omega
                                                  obtain ⟨g', hg', t0, t1, t2, t3⟩ := HER.out i h1
                                                  obtain rfl : g9 = g' := by simpa using hg'
                                                  clear hg'
                                                  have HNX : Hid (putA cs (l.take (i + 1)) K = putC (putA cs (l.take i) K) (l[i], K)) := by
                                                    show putA cs (l.take (i + 1)) K = _
                                                    rw [List.take_succ_eq_append_getElem h1, putA_snoc]
                                                  have hlb : (putA cs (l.take i) K).length ≤ 100000 := by
                                                    rw [putA_len, List.length_take]
                                                    have := HG.out.2.2.2.1
                                                    omega
                                                  generalize putA cs (l.take i) K = L0 at HJR HCL HNX hlb
                                                  obtain ⟨⟨e0, e1, e2, e3⟩, he⟩ : ∃ e : E4, e = l[i] := ⟨_, rfl⟩
                                                  rw [← he] at t0 t1 t2 t3 HNX
                                                  dsimp only at t0 t1 t2 t3
                                                  clear he
                                                  have C38 : Hid (∀ V' : World, Below wr.heap.size wr V' → Calls Tryz.prog 38 #[.slice ca' L0.length cc', .agg #[.int .i64 e0, .int .i64 e1, .int .i64 e2, .int .i64 e3, .int .i64 K]] V' fun e w' => ∃ a8 c8, e = .returned (.slice a8 (putC L0 ((e0, e1, e2, e3), K)).length c8) ∧ JRow w' a8 (putC L0 ((e0, e1, e2, e3), K)) ∧ (∀ g, a8 = some ⟨g, 0, none⟩ → V'.heap.size ≤ g) ∧ Below V'.heap.size V' w') := fun V' hb => (putCrease_any L0.length cc' ca' L0 e0 e1 e2 e3 K V' rfl hlb (HJR.out.kept hb)).mono (by
                                                    rintro e w' ⟨v, rfl, hpi⟩
                                                    obtain ⟨a8, c8, rfl, hj8, hg8⟩ := own_crs hpi.own
                                                    exact ⟨a8, c8, rfl, hj8, fun g e => by have := hg8 g e; omega, hpi.b⟩)
                                                  have b3 := HCL.out.b3
                                                  have fb3 := HCL.out.fb 3
                                                  have zr := HCL.out.sz
                                                  have zg : g9 < wr.heap.size := World.block_lt_of_cell? _ _ t0
                                                  go_wp2
                                                  have HSX : Hid (∀ V' : World, Below wr.heap.size wr V' → (fun w' : World => w'.cell? ⟨w.heap.size, 3, none⟩ = some (.slice ca' L0.length cc') ∧ w'.cell? ⟨g9, i * 4, none⟩ = some (.int .i64 e0) ∧ w'.cell? ⟨g9, i * 4 + 1, none⟩ = some (.int .i64 e1) ∧ w'.cell? ⟨g9, i * 4 + 2, none⟩ = some (.int .i64 e2) ∧ w'.cell? ⟨g9, i * 4 + 3, none⟩ = some (.int .i64 e3)) V') := fun V' hV => ⟨cl_kept hV b3, cl_kept hV t0, cl_kept hV t1, cl_kept hV t2, cl_kept hV t3⟩
                                                  refine wp_region_late (S := fun w' => w'.cell? ⟨w.heap.size, 3, none⟩ = some (.slice ca' L0.length cc') ∧ w'.cell? ⟨g9, i * 4, none⟩ = some (.int .i64 e0) ∧ w'.cell? ⟨g9, i * 4 + 1, none⟩ = some (.int .i64 e1) ∧ w'.cell? ⟨g9, i * 4 + 2, none⟩ = some (.int .i64 e2) ∧ w'.cell? ⟨g9, i * 4 + 3, none⟩ = some (.int .i64 e3)) (late := fun j => decide (j = 10)) (by kernel_rfl) ?_
                                                  have HS0 := HSX.out _ (bl_drew (bl_refl wr))
                                                  refine Lt.take (i := 0) (v := .pointer (some ⟨w.heap.size, 3, none⟩)) rfl (by kernel_rfl) (by kernel_rfl) (by kernel_rfl) rfl (by kernel_rfl) (by kernel_rfl) (fun _ _ _ h => h) (Or.inl ⟨by rfl, ?hyy⟩) HS0 ?_
                                                  case hyy => (intro w' hSw; (try dsimp only at hSw); go_simp)
                                                  try simp only [Act.put, List.getElem_toArray, List.getElem_cons_zero, List.setIfInBounds_toArray, List.set_cons_zero, List.set_cons_succ]
                                                  refine Lt.take (i := 1) (v := .slice ca' L0.length cc') rfl (by kernel_rfl) (by kernel_rfl) (by kernel_rfl) rfl (by kernel_rfl) (by kernel_rfl) (fun _ _ _ h => h) (Or.inl ⟨by rfl, ?hyy⟩) HS0 ?_
                                                  case hyy => (intro w' hSw; (try dsimp only at hSw); go_simp)
                                                  try simp only [Act.put, List.getElem_toArray, List.getElem_cons_succ, List.getElem_cons_zero, List.setIfInBounds_toArray, List.set_cons_zero, List.set_cons_succ]
                                                  refine Lt.take (i := 2) (v := .slice (some ⟨g9, 0, none⟩) l.length ec) rfl (by kernel_rfl) (by kernel_rfl) (by kernel_rfl) rfl (by kernel_rfl) (by kernel_rfl) (fun _ _ _ h => h) (Or.inl ⟨by rfl, ?hyy⟩) HS0 ?_
                                                  case hyy => (intro w' hSw; (try dsimp only at hSw); go_simp)
                                                  try simp only [Act.put, List.getElem_toArray, List.getElem_cons_succ, List.getElem_cons_zero, List.setIfInBounds_toArray, List.set_cons_zero, List.set_cons_succ]
                                                  refine Lt.take (i := 3) (v := .int .i64 (i : Int)) rfl (by kernel_rfl) (by kernel_rfl) (by kernel_rfl) rfl (by kernel_rfl) (by kernel_rfl) (fun _ _ _ h => h) (Or.inl ⟨by rfl, ?hyy⟩) HS0 ?_
                                                  case hyy => (intro w' hSw; (try dsimp only at hSw); go_simp)
                                                  try simp only [Act.put, List.getElem_toArray, List.getElem_cons_succ, List.getElem_cons_zero, List.setIfInBounds_toArray, List.set_cons_zero, List.set_cons_succ]
                                                  refine Lt.take (i := 4) (v := .pointer (some ⟨g9, i * 4, none⟩)) rfl (by kernel_rfl) (by kernel_rfl) (by kernel_rfl) rfl (by kernel_rfl) (by kernel_rfl) (fun _ _ _ h => h) (Or.inl ⟨by rfl, ?hyy⟩) HS0 ?_
                                                  case hyy => (intro w' hSw; (try dsimp only at hSw); go_simp)
                                                  try simp only [Act.put, List.getElem_toArray, List.getElem_cons_succ, List.getElem_cons_zero, List.setIfInBounds_toArray, List.set_cons_zero, List.set_cons_succ]
                                                  refine Lt.take (i := 5) (v := .agg #[.int .i64 e0, .int .i64 e1, .int .i64 e2, .int .i64 e3]) rfl (by kernel_rfl) (by kernel_rfl) (by kernel_rfl) rfl (by kernel_rfl) (by kernel_rfl) (fun _ _ _ h => h) (Or.inl ⟨by rfl, ?hyy⟩) HS0 ?_
                                                  case hyy => (intro w' hSw; (try dsimp only at hSw); go_simp)
                                                  try simp only [Act.put, List.getElem_toArray, List.getElem_cons_succ, List.getElem_cons_zero, List.setIfInBounds_toArray, List.set_cons_zero, List.set_cons_succ]
                                                  refine Lt.take (i := 6) (v := .int .i64 K) rfl (by kernel_rfl) (by kernel_rfl) (by kernel_rfl) rfl (by kernel_rfl) (by kernel_rfl) (fun _ _ _ h => h) (Or.inl ⟨by rfl, ?hyy⟩) HS0 ?_
                                                  case hyy => (intro w' hSw; (try dsimp only at hSw); go_simp)
                                                  try simp only [Act.put, List.getElem_toArray, List.getElem_cons_succ, List.getElem_cons_zero, List.setIfInBounds_toArray, List.set_cons_zero, List.set_cons_succ]
                                                  refine Lt.take (i := 7) (v := .agg #[.int .i64 e0, .int .i64 e1, .int .i64 e2, .int .i64 e3, .int .i64 K]) rfl (by kernel_rfl) (by kernel_rfl) (by kernel_rfl) rfl (by kernel_rfl) (by kernel_rfl) (fun _ _ _ h => h) (Or.inl ⟨by rfl, ?hyy⟩) HS0 ?_
                                                  case hyy => (intro w' hSw; (try dsimp only at hSw); go_simp)
                                                  try simp only [Act.put, List.getElem_toArray, List.getElem_cons_succ, List.getElem_cons_zero, List.setIfInBounds_toArray, List.set_cons_zero, List.set_cons_succ]
                                                  refine Lt.one (i := 8) (by kernel_rfl) rfl rfl ?_
                                                  refine call_step 38 #[.slice ca' L0.length cc', .agg #[.int .i64 e0, .int .i64 e1, .int .i64 e2, .int .i64 e3, .int .i64 K]] (by kernel_rfl) (C38.out _ (bl_drew (bl_refl _))) ?_
                                                  rintro e w5 ⟨a8, c8, rfl, hj8, hg8, hb5⟩
                                                  have hbw := bl_via (bl_drew (bl_refl wr)) hb5
                                                  have HS5 := HSX.out _ hbw
                                                  refine ⟨_, rfl, fun _ => HS5, ?_⟩
                                                  try simp only [Act.put, List.getElem_toArray, List.getElem_cons_succ, List.getElem_cons_zero, List.setIfInBounds_toArray, List.set_cons_zero, List.set_cons_succ]
                                                  refine Lt.take (i := 9) (v := .pointer (some ⟨w.heap.size, 3, none⟩)) rfl (by kernel_rfl) (by kernel_rfl) (by kernel_rfl) rfl (by kernel_rfl) (by kernel_rfl) (fun _ _ _ h => h) (Or.inl ⟨by rfl, ?hyy⟩) HS5 ?_
                                                  case hyy => (intro w' hSw; (try dsimp only at hSw); go_simp)
                                                  try simp only [Act.put, List.getElem_toArray, List.getElem_cons_succ, List.getElem_cons_zero, List.setIfInBounds_toArray, List.set_cons_zero, List.set_cons_succ]
                                                  have em : w5.cell? ⟨w.heap.size, 3, none⟩ = some (.slice ca' L0.length cc') := HS5.1
                                                  have eg : w5.frozen? ⟨w.heap.size, 3, none⟩ = false := (hbw.frozen (p := ⟨w.heap.size, 3, none⟩) (by dsimp only; omega)).trans fb3
                                                  refine Lt.one (i := 10) (by kernel_rfl) rfl rfl ?_
                                                  refine skip_step (w' := w5.setCell ⟨w.heap.size, 3, none⟩ (.slice a8 (putC L0 ((e0, e1, e2, e3), K)).length c8)) (by first | go_simp | simp [go_sem, em, eg]) ?_
                                                  refine ⟨fun h => absurd h (by decide), ?_⟩
                                                  try simp only [Act.put, List.getElem_toArray, List.getElem_cons_succ, List.getElem_cons_zero]
                                                  refine Lt.done (by kernel_rfl) ?_
                                                  have HN : Hid (ER (w5.setCell ⟨w.heap.size, 3, none⟩ (.slice a8 (putC L0 ((e0, e1, e2, e3), K)).length c8)) (some ⟨g9, 0, none⟩) l ∧ JRow (w5.setCell ⟨w.heap.size, 3, none⟩ (.slice a8 (putC L0 ((e0, e1, e2, e3), K)).length c8)) a8 (putC L0 ((e0, e1, e2, e3), K)) ∧ CL w (w5.setCell ⟨w.heap.size, 3, none⟩ (.slice a8 (putC L0 ((e0, e1, e2, e3), K)).length c8)) W H (.slice (some ⟨b, off, none⟩) zs.length kc) (.slice a8 (putC L0 ((e0, e1, e2, e3), K)).length c8)) := ⟨(HER.out.kept hbw).grown (grown_cell _ _ _ _) (fun g e => by cases e; omega), jrow_set hj8 (fun g e => by have := hg8 g e; have : wr.drew.heap.size = wr.heap.size := rfl; omega), (HCL.out.kept hbw).set3 _⟩
                                                  have HNG : Hid (∀ g, a8 = some ⟨g, 0, none⟩ → g ≠ w.heap.size + 1) := fun g e => by have h8 := hg8 g e; have h7 : wr.drew.heap.size = wr.heap.size := rfl; omega
                                                  rw [← HNX.out] at HN
                                                  clear em eg HS5 hbw hb5 hj8 hg8 HS0
                                                  rw [← HNX.out]
                                                  go_wp2
                                                  go_roundg (l.length - (i + 1))
                                                  case measure => omega
                                                  case rel => exact ⟨i + 1, a8, c8, by omega, rfl, by go_num, HN.out.1, HN.out.2.1, HN.out.2.2, fun _ g e => HNG.out g e⟩
                                                · obtain rfl : i = l.length := by omega
                                                  have i1 : ¬ (l.length : Int) < (l.length : Int) := by omega
                                                  rw [List.take_length] at HJR HCL HNO
                                                  have r0 := HCL.out.r0
                                                  have r1 := HCL.out.r1
                                                  have r2 := HCL.out.r2
                                                  have r3 := HCL.out.r3
                                                  have b0 := HCL.out.b0
                                                  have b1 := HCL.out.b1
                                                  have b2 := HCL.out.b2
                                                  have b3 := HCL.out.b3
                                                  have f0 := HCL.out.fr 0
                                                  have f1 := HCL.out.fr 1
                                                  have f2 := HCL.out.fr 2
                                                  have f3 := HCL.out.fr 3
                                                  have HCLB : Hid (Below w.heap.size w wr) := HCL.out.bl
                                                  have zr := HCL.out.sz
                                                  go_wp2
                                                  refine bodyPost_ret (v := .tuple #[.agg #[.int .i64 (W : Int), .int .i64 (H : Int), .slice (some ⟨b, off, none⟩) zs.length kc, .slice ca' (putA cs l K).length cc'], .int .i64 0]) (by simp [results, Tryz.results19, go_sem, *]) rfl ?_
                                                  rw [HOK.out]
                                                  refine ⟨ca', cc', rfl, ?_, ?_⟩
                                                  · exact jrow_setn (jrow_setn (jrow_setn (jrow_setn HJR.out HNO.out) HNO.out) HNO.out) HNO.out
                                                  · repeat' (first | exact HCLB.out | (refine bl_set ?_ (by (try dsimp only); omega)))
end Go.Proofs.YtehmoacggikfmaaGreatDoor
