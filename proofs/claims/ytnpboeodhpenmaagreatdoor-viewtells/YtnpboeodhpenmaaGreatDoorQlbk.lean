/- A part of the proof of viewTells_holds. -/
import Derived.Test.YtnpboeodhpenmaaGreatDoorQlap
import Derived.Test.YtnpboeodhpenmaaGreatDoorQlbh
import Derived.Test.YtnpboeodhpenmaaGreatDoorQlbj
import Derived.Test.YtnpboeodhpenmaaGreatDoorQlaq
import Derived.Test.YtnpboeodhpenmaaGreatDoorQlau
import Derived.Test.YtnpboeodhpenmaaGreatDoorQlaf
import Derived.Test.YtnpboeodhpenmaaGreatDoorQlac
import Derived.Test.YtnpboeodhpenmaaGreatDoorQlao
import Derived.Test.YtnpboeodhpenmaaGreatDoorQlar
import Derived.Deep.AppendLies
import Derived.Laws.OwnMore
import Derived.Test.YtnpboeodhpenmaaGreatDoorQlai
import Derived.Test.YtnpboeodhpenmaaGreatDoorQlaa
import Derived.Test.YtnpboeodhpenmaaGreatDoorQlbf
import Derived.Test.YtnpboeodhpenmaaGreatDoorQlam
import Derived.Test.YtnpboeodhpenmaaGreatDoorQlae
import Derived.Test.YtnpboeodhpenmaaGreatDoorQlbd
import Derived.Test.YtnpboeodhpenmaaGreatDoorQlbg
import Derived.Maps.AppendAt
import Derived.Test.YtnpboeodhpenmaaGreatDoorQlat
namespace Go.Proofs.YtnpboeodhpenmaaGreatDoor
open Go.RowKit

def TRowG (w : World) (a : Option Addr) (l : List (Int × Int × Int)) : Prop :=
  ∀ i (h : i < l.length), ∃ g o, a = some ⟨g, o, none⟩ ∧ w.cell? ⟨g, o + i * 3, none⟩ = some (.int .i64 l[i].1) ∧ w.cell? ⟨g, o + i * 3 + 1, none⟩ = some (.int .i64 l[i].2.1) ∧ w.cell? ⟨g, o + i * 3 + 2, none⟩ = some (.int .i64 l[i].2.2)
theorem TRowG.kept {w wx : World} {a : Option Addr} {l : List (Int × Int × Int)} (h : TRowG w a l) (hb : Below w.heap.size w wx) : TRowG wx a l := fun i hi => by
  obtain ⟨g, o, e, h0, h1, h2⟩ := h i hi
  exact ⟨g, o, e, cl_kept hb h0, cl_kept hb h1, cl_kept hb h2⟩
theorem TRowG.take {w : World} {a : Option Addr} {l : List (Int × Int × Int)} (h : TRowG w a l) (k : Nat) : TRowG w a (l.take k) := fun i hi => by
  rw [List.length_take] at hi
  obtain ⟨g, o, e, h0, h1, h2⟩ := h i (by omega)
  simp only [List.getElem_take]
  exact ⟨g, o, e, h0, h1, h2⟩
def SRowG (w : World) (a : Option Addr) (S : List ((Int × Int × Int) × List (Int × Int × Int))) : Prop :=
  ∀ i (h : i < S.length), ∃ g o sa sc, a = some ⟨g, o, none⟩ ∧ w.cell? ⟨g, o + i * 4, none⟩ = some (.int .i64 S[i].1.1) ∧ w.cell? ⟨g, o + i * 4 + 1, none⟩ = some (.int .i64 S[i].1.2.1) ∧ w.cell? ⟨g, o + i * 4 + 2, none⟩ = some (.int .i64 S[i].1.2.2) ∧ w.cell? ⟨g, o + i * 4 + 3, none⟩ = some (.slice sa S[i].2.length sc) ∧ S[i].2.length ≤ sc ∧ TRowG w sa S[i].2
theorem SRowG.kept {w w' : World} {a : Option Addr} {S : List ((Int × Int × Int) × List (Int × Int × Int))} (h : SRowG w a S) (hb : Below w.heap.size w w') : SRowG w' a S := fun i hi => by
  obtain ⟨g, o, sa, sc, e, c0, c1, c2, c3, hc, ht⟩ := h i hi
  exact ⟨g, o, sa, sc, e, cl_kept hb c0, cl_kept hb c1, cl_kept hb c2, cl_kept hb c3, hc, ht.kept hb⟩
set_option maxHeartbeats 1600000 in
theorem placeG_any (a : Option Addr) (cap : Nat) (l : List (Int × Int × Int)) (x y k : Int) (w : World) (hT : TRowG w a l) (hlen : l.length ≤ 17592186044416) :
    Calls Tryz.prog 53 #[.slice a l.length cap, .agg #[.int .i64 x, .int .i64 y, .int .i64 k]] w fun e w' => e = .returned (.int .i64 (plc l (x, y, k))) ∧ Below w.heap.size w w' := by
  have he := eql23
  have HT : Hid (TRowG w a l) := hT
  clear hT
  go_enter Tryz.func53, Tryz.ntmps53
  go_wp2
  go_loopg [5] l.length (fun g s5 wx => ∃ i : Nat, i ≤ l.length ∧ g = l.length - i ∧ s5 = .int .i64 (i : Int) ∧ (∀ j (hj : j < l.length), j < i → l[j] ≠ (x, y, k)) ∧ (Tr wx w.heap.size x y k ∧ Below w.heap.size w wx))
  case atStart => exact ⟨0, by omega, rfl, rfl, fun j _ h => by omega, by simp [Tr, go_sem], bl_alloc (bl_refl _)⟩
  case round =>
    obtain ⟨i, hi, rfl, rfl, hp, ⟨t0, t1, t2⟩, hB⟩ := hrel
    have HP : Hid (∀ j (hj : j < l.length), j < i → l[j] ≠ (x, y, k)) := hp
    have HB : Hid (Below w.heap.size w wr) := hB
    have HTr : Hid (Tr wr w.heap.size x y k) := ⟨t0, t1, t2⟩
    clear hp hB
    by_cases h1 : i < l.length
    · have i1 : (i : Int) < (l.length : Int) := by omega
      have i0 : (0 : Int) ≤ (i : Int) := by omega
      obtain ⟨g, o, rfl, c0, c1, c2⟩ := (HT.out.kept HB.out) i h1
      obtain ⟨t, ht⟩ : ∃ t, t = l[i] := ⟨_, rfl⟩
      obtain ⟨X, Y, K⟩ := t
      rw [← ht] at c0 c1 c2
      dsimp only at c0 c1 c2
      have HE : Hid ((X, Y, K) = l[i]) := ht
      clear ht
      have zg : g < wr.heap.size := World.block_lt_of_cell? _ _ c0
      have zt : w.heap.size < wr.heap.size := World.block_lt_of_cell? _ _ t0
      cases hq : sameT X Y K x y k
      · go_wp2
        go_quiet (fail)
        go_wp2
        go_roundg (l.length - (i + 1))
        case measure => omega
        case rel =>
          refine ⟨i + 1, by omega, rfl, by go_num, fun j hj h => ?_, HTr.out, ?_⟩
          · by_cases e : j = i
            · subst e
              rw [← HE.out]
              intro hc
              simp at hc
              simp [sameT, hc] at hq
            · exact HP.out j hj (by omega)
          · with_reducible repeat' (first | exact HB.out | refine bl_drewN ?_ | refine bl_drew ?_)
      · go_wp2
        go_quiet (fail)
        go_wp2
        go_ret
        refine ⟨ret_int ?_, ?_⟩
        · refine (plc_at h1 ?_ HP.out).symm
          rw [← HE.out]
          simpa [sameT] using hq
        · with_reducible repeat' (first | exact HB.out | refine bl_drewN ?_ | refine bl_drew ?_)
    · have i1 : ¬ (i : Int) < (l.length : Int) := by omega
      go_wp2
      go_ret
      exact ⟨ret_int (plc_not (fun j hj => HP.out j hj (by omega))).symm, HB.out⟩
theorem plc_neg {l : List (Int × Int × Int)} {t : Int × Int × Int} : 0 ≤ plc l t ↔ t ∈ l := by
  unfold plc
  split
  · rename_i h
    exact ⟨fun _ => h, fun _ => by omega⟩
  · rename_i h
    exact ⟨fun h2 => by omega, fun h2 => absurd h2 h⟩

/-- A joint of a triangle: is the map of the one beyond as it must be? -/
def FitJ (kd : Int × Int × Int × Int → Int) (M : Nat → M6) (i : Nat) (q : (Int × Int × Int × Int) × Int) : Prop := ∀ j : Nat, q.2 = (j : Int) → M j = bynd kd q.1 (M i)
theorem getD_at {α : Type} (l : List α) (i : Nat) (h : i < l.length) {d : α} : l.getD i d = l[i] := by rw [List.getD_eq_getElem?_getD, List.getElem?_eq_getElem h]; rfl
def FitI (kd : Int × Int × Int × Int → Int) (L : List (Int × Int × Int)) (M : Nat → M6) (i : Nat) : Prop := ∀ q ∈ jl L (L.getD i (0, 0, 0)) i 3, FitJ kd M i q
/-- Whether they fit. -/
def FitTo (kd : Int × Int × Int × Int → Int) (L : List (Int × Int × Int)) (M : Nat → M6) (w w' : World) (e : Ending) : Prop := (∃ b : Bool, e = .returned (.bool b) ∧ (b = true ↔ ∀ i, i < L.length → FitI kd L M i)) ∧ Below w.heap.size w w'
set_option maxRecDepth 100000 in
set_option maxHeartbeats 3200000 in
theorem fits_gen (w : World) (cc ra rk gm cm : Nat) (ad pa : Option Addr) (pn pc : Nat) (L : List (Int × Int × Int)) (kd : Int × Int × Int × Int → Int) (M : Nat → M6) (hs : Steps w) (hPA : PA w ad ra L) (hK : KL w rk kd) (hL : L.length ≤ 300) (hbd : ∀ t ∈ L, (0 ≤ t.1 ∧ t.1 ≤ 8) ∧ (0 ≤ t.2.1 ∧ t.2.1 ≤ 8) ∧ (0 ≤ t.2.2 ∧ t.2.2 ≤ 3)) (hM : MRow w gm L.length M) (hG : ∀ i, i < L.length → mapM (M i) = true) :
    Calls Tryz.prog 185 #[.agg #[.slice ad L.length cc, .map (some ra), .map (some rk), .slice (some ⟨gm, 0, none⟩) L.length cm, .slice pa pn pc]] w fun e w' => FitTo kd L M w w' e := by
  have HJN : Hid (∀ (W' : World) (i : Nat) (hi : i < L.length), Below w.heap.size w W' → Calls Tryz.prog 99 #[.agg #[.slice ad L.length cc, .map (some ra), .map (some rk)], .int .i64 (i : Int)] W' fun e w' => ∃ v, e = .returned v ∧ w'.ownsRow (W'.heap.size + 1) 165 5 v (jl L L[i] i 3).length (flatJ (jl L L[i] i 3)) ∧ Below W'.heap.size W' w') := fun W' i hi hW' => joints_any W' cc ra rk i ad L L[i].1 L[i].2.1 L[i].2.2 (hs.kept hW') (hPA.kept hW') hi rfl hL (hbd _ (List.getElem_mem hi))
  have HBY : Hid (∀ (W' : World) (i : Nat) (hi : i < L.length) (p q r s A B C D E F : Int), Below w.heap.size w W' → hasT L[i] (p, q, r, s) = true → mapM (A, B, C, D, E, F) = true → Calls Tryz.prog 252 #[.agg #[.slice ad L.length cc, .map (some ra), .map (some rk)], .agg #[.int .i64 p, .int .i64 q, .int .i64 r, .int .i64 s], .agg #[.int .i64 A, .int .i64 B, .int .i64 C, .int .i64 D, .int .i64 E, .int .i64 F]] W' fun e w' => e = .returned (mv (bynd kd (p, q, r, s) (A, B, C, D, E, F))) ∧ Below W'.heap.size W' w') := fun W' i hi p q r s A B C D E F hW' hh hm =>
    beyond_gen W' ad L.length cc ra rk kd p q r s A B C D E F (hK.kept hW') (edge_bd hh (hbd _ (List.getElem_mem hi))).1 (edge_bd hh (hbd _ (List.getElem_mem hi))).2.1 (line_may hh (hbd _ (List.getElem_mem hi))) hm
  have HC : Hid (MRow w gm L.length M ∧ ∀ i, i < L.length → mapM (M i) = true) := ⟨hM, hG⟩
  have hn := neqM
  clear hs hPA hK hbd hM hG
  obtain ⟨w0, hw0⟩ : ∃ W, W = pbox w ad L.length cc ra rk (.slice (some ⟨gm, 0, none⟩) L.length cm) (.slice pa pn pc) := ⟨_, rfl⟩
  have hx : w0.cell? ⟨w.heap.size, 0, none⟩ = some (.slice ad L.length cc) ∧ w0.cell? ⟨w.heap.size, 1, none⟩ = some (.map (some ra)) ∧ w0.cell? ⟨w.heap.size, 2, none⟩ = some (.map (some rk)) ∧ w0.cell? ⟨w.heap.size, 3, none⟩ = some (.slice (some ⟨gm, 0, none⟩) L.length cm) := by
    rw [hw0]
    simp [pbox, go_sem]
  have HX : Hid (w0.cell? ⟨w.heap.size, 0, none⟩ = some (.slice ad L.length cc) ∧ w0.cell? ⟨w.heap.size, 1, none⟩ = some (.map (some ra)) ∧ w0.cell? ⟨w.heap.size, 2, none⟩ = some (.map (some rk)) ∧ w0.cell? ⟨w.heap.size, 3, none⟩ = some (.slice (some ⟨gm, 0, none⟩) L.length cm)) := hx
  clear hx
  have hb0 : Below w.heap.size w w0 := by
    rw [hw0]
    exact bl_alloc (bl_refl _)
  have HB0 : Hid (Below w.heap.size w w0) := hb0
  clear hb0
  have hw0' : w.alloc (.cells #[.slice ad L.length cc, .map (some ra), .map (some rk), .slice (some ⟨gm, 0, none⟩) L.length cm, .slice pa pn pc] 100) = w0 := hw0.symm
  have HW0 : Hid (w.alloc (.cells #[.slice ad L.length cc, .map (some ra), .map (some rk), .slice (some ⟨gm, 0, none⟩) L.length cm, .slice pa pn pc] 100) = w0) := hw0'
  clear hw0 hw0'
  go_enter Tryz.func185, Tryz.ntmps185
  go_wp2
  go_loopg [10] L.length (fun gk s10 wx => ∃ i : Nat, i ≤ L.length ∧ gk = L.length - i ∧ s10 = .int .i64 (i : Int) ∧ (∀ i', i' < i → FitI kd L M i') ∧ Below w0.heap.size w0 wx)
  case atStart => exact ⟨0, by omega, rfl, rfl, fun i' hi' => by omega, by rw [HW0.out]; exact bl_refl _⟩
  case round =>
    obtain ⟨i, hi, rfl, rfl, hF, hB⟩ := hrel
    have HF : Hid (∀ i', i' < i → FitI kd L M i') := hF
    clear hF
    have HB : Hid (Below w0.heap.size w0 wr) := hB
    clear hB
    by_cases h1 : i < L.length
    · have i1 : (i : Int) < (L.length : Int) := by omega
      have i0 : (0 : Int) ≤ (i : Int) := by omega
      obtain ⟨J, hJ⟩ : ∃ J, J = jl L L[i] i 3 := ⟨_, rfl⟩
      have hJl : J.length ≤ 900 := by
        have := jl_len L L[i] i 3
        rw [hJ]
        omega
      have CJ : Hid (∀ W' : World, Below wr.heap.size wr W' → Calls Tryz.prog 99 #[.agg #[.slice ad L.length cc, .map (some ra), .map (some rk)], .int .i64 (i : Int)] W' fun e w' => ∃ v, e = .returned v ∧ w'.ownsRow (W'.heap.size + 1) 165 5 v J.length (flatJ J) ∧ Below W'.heap.size W' w') := fun W' hW' => by
        rw [hJ]
        exact HJN.out W' i h1 (bl_via HB0.out (bl_via HB.out hW'))
      have HJ : Hid (J = jl L L[i] i 3) := hJ
      clear hJ
      have p0 := cl_kept HB.out HX.out.1
      have p1 := cl_kept HB.out HX.out.2.1
      have p2 := cl_kept HB.out HX.out.2.2.1
      have zp : w.heap.size < wr.heap.size := World.block_lt_of_cell? _ _ p0
      go_wp2_with (go_at_call 99; refine (CJ.out _ (by with_reducible exact bl_refl _)).mono ?_; rintro e w8 ⟨v8, rfl, hown, hb⟩; obtain ⟨ja, jc, rfl, hjr⟩ := own_jw hown; have HW8 : Hid (JW w8 (wr.heap.size + 1) ja J ∧ Below w0.heap.size w0 w8) := ⟨hjr, bl_via HB.out hb⟩; clear hown hjr hb)
      clear p0 p1 p2 zp
      go_loopg [18] J.length (fun gk s18 wx => ∃ m : Nat, m ≤ J.length ∧ gk = J.length - m ∧ s18 = .int .i64 (m : Int) ∧ (∀ m', m' < m → FitJ kd M i (J.getD m' ((0, 0, 0, 0), 0))) ∧ Below w8.heap.size w8 wx)
      case atStart => exact ⟨0, by omega, rfl, rfl, fun m' hm' => by omega, bl_refl _⟩
      case round =>
        obtain ⟨m, hm, rfl, rfl, hFm, hB⟩ := hrel
        have HFM : Hid (∀ m', m' < m → FitJ kd M i (J.getD m' ((0, 0, 0, 0), 0))) := hFm
        clear hFm
        have HBw : Hid (Below w0.heap.size w0 wr ∧ Below w8.heap.size w8 wr) := ⟨bl_via HW8.out.2 hB, hB⟩
        clear hB
        by_cases hm1 : m < J.length
        · have im : (m : Int) < (J.length : Int) := by omega
          have im0 : (0 : Int) ≤ (m : Int) := by omega
          obtain ⟨jb, rfl, c0, c1, c2, c3, c4⟩ := (HW8.out.1.kept HBw.out.2).1 m hm1
          have zjb : jb < wr.heap.size := World.block_lt_of_cell? _ _ c0
          obtain ⟨q, hq⟩ : ∃ q, q = J[m] := ⟨_, rfl⟩
          obtain ⟨⟨q0, q1, q2, q3⟩, qj⟩ := q
          rw [← hq] at c0 c1 c2 c3 c4
          dsimp only at c0 c1 c2 c3 c4
          have hmem : ((q0, q1, q2, q3), qj) ∈ jl L L[i] i 3 := by rw [← HJ.out, hq]; exact List.getElem_mem hm1
          obtain ⟨k, hk, hke, j, hj, rfl, hji, hjt⟩ := jl_mem.1 hmem
          have hit : hasT L[i] (q0, q1, q2, q3) = true := by rw [hke]; exact edg_own _ _
          have HQ : Hid (J.getD m ((0, 0, 0, 0), 0) = ((q0, q1, q2, q3), (j : Int))) := by
            have : J.getD m ((0, 0, 0, 0), 0) = ((q0, q1, q2, q3), (j : Int)) := by rw [List.getD_eq_getElem?_getD, List.getElem?_eq_getElem hm1, ← hq]; rfl
            exact this
          obtain ⟨⟨y0, y1, y2, y3, y4, y5⟩, _⟩ := HC.out.1 i h1
          obtain ⟨⟨v0, v1, v2, v3, v4, v5⟩, _⟩ := HC.out.1 j hj
          have hgi := HC.out.2 i h1
          obtain ⟨A, B, C, D, E, F, hmi⟩ : ∃ A B C D E F, M i = (A, B, C, D, E, F) := ⟨_, _, _, _, _, _, rfl⟩
          obtain ⟨f0, f1, f2, f3, f4, f5, hmj⟩ : ∃ f0 f1 f2 f3 f4 f5, M j = (f0, f1, f2, f3, f4, f5) := ⟨_, _, _, _, _, _, rfl⟩
          rw [hmi] at y0 y1 y2 y3 y4 y5 hgi
          rw [hmj] at v0 v1 v2 v3 v4 v5
          dsimp only at y0 y1 y2 y3 y4 y5 v0 v1 v2 v3 v4 v5
          obtain ⟨g0, g1, g2, g3, g4, g5, hby⟩ : ∃ g0 g1 g2 g3 g4 g5, bynd kd (q0, q1, q2, q3) (A, B, C, D, E, F) = (g0, g1, g2, g3, g4, g5) := ⟨_, _, _, _, _, _, rfl⟩
          have CB : Hid (∀ W' : World, Below wr.heap.size wr W' → Calls Tryz.prog 252 #[.agg #[.slice ad L.length cc, .map (some ra), .map (some rk)], .agg #[.int .i64 q0, .int .i64 q1, .int .i64 q2, .int .i64 q3], .agg #[.int .i64 A, .int .i64 B, .int .i64 C, .int .i64 D, .int .i64 E, .int .i64 F]] W' fun e w' => e = .returned (.agg #[.int .i64 g0, .int .i64 g1, .int .i64 g2, .int .i64 g3, .int .i64 g4, .int .i64 g5]) ∧ Below W'.heap.size W' w') := fun W' hW' => by
            have h := HBY.out W' i h1 q0 q1 q2 q3 A B C D E F (bl_via HB0.out (bl_via HBw.out.1 hW')) hit hgi
            rw [hby] at h
            exact h
          have HFJ : Hid (sameM f0 f1 f2 f3 f4 f5 g0 g1 g2 g3 g4 g5 = true ↔ FitJ kd M i ((q0, q1, q2, q3), (j : Int))) := by
            have : sameM f0 f1 f2 f3 f4 f5 g0 g1 g2 g3 g4 g5 = true ↔ FitJ kd M i ((q0, q1, q2, q3), (j : Int)) := by
              constructor
              · intro h j' hj'
                have : j' = j := by dsimp only at hj'; omega
                subst this
                dsimp only
                rw [hmi, hmj, hby]
                simp only [sameM, decide_eq_true_eq] at h
                simp only [Prod.mk.injEq]
                exact h
              · intro h
                have h := h j rfl
                dsimp only at h
                rw [hmi, hmj, hby] at h
                simp only [Prod.mk.injEq] at h
                obtain ⟨rfl, rfl, rfl, rfl, rfl, rfl⟩ := h
                simp [sameM]
            exact this
          have ij : (j : Int) < (L.length : Int) := by omega
          have ij0 : (0 : Int) ≤ (j : Int) := by omega
          clear hmem hke hjt hq hji hit hgi hmi hmj hby
          go_wp2
          refine wp_named (fun W0 hW0 => ?_)
          have HBN : Hid (Below wr.heap.size wr W0) := by
            have : Below wr.heap.size wr W0 := by rw [hW0]; exact bl_alloc (bl_refl _)
            exact this
          obtain ⟨B9, hB9⟩ : ∃ b, b = wr.heap.size := ⟨_, rfl⟩
          have x0 : W0.cell? ⟨B9, 0, none⟩ = some (.int .i64 q0) := by rw [hW0, hB9]; simp [go_sem]
          have x1 : W0.cell? ⟨B9, 1, none⟩ = some (.int .i64 q1) := by rw [hW0, hB9]; simp [go_sem]
          have x2 : W0.cell? ⟨B9, 2, none⟩ = some (.int .i64 q2) := by rw [hW0, hB9]; simp [go_sem]
          have x3 : W0.cell? ⟨B9, 3, none⟩ = some (.int .i64 q3) := by rw [hW0, hB9]; simp [go_sem]
          have x4 : W0.cell? ⟨B9, 4, none⟩ = some (.int .i64 (j : Int)) := by rw [hW0, hB9]; simp [go_sem]
          clear hW0
          rw [← hB9]
          clear hB9
          have bw := bl_via HBw.out.1 HBN.out
          have p0 := cl_kept bw HX.out.1
          have p1 := cl_kept bw HX.out.2.1
          have p2 := cl_kept bw HX.out.2.2.1
          have p3 := cl_kept bw HX.out.2.2.2
          have bw2 := bl_via HB0.out bw
          replace y0 := cl_kept bw2 y0
          replace y1 := cl_kept bw2 y1
          replace y2 := cl_kept bw2 y2
          replace y3 := cl_kept bw2 y3
          replace y4 := cl_kept bw2 y4
          replace y5 := cl_kept bw2 y5
          replace v0 := cl_kept bw2 v0
          replace v1 := cl_kept bw2 v1
          replace v2 := cl_kept bw2 v2
          replace v3 := cl_kept bw2 v3
          replace v4 := cl_kept bw2 v4
          replace v5 := cl_kept bw2 v5
          have zW : w.heap.size < W0.heap.size := World.block_lt_of_cell? _ _ p0
          have zW1 : gm < W0.heap.size := World.block_lt_of_cell? _ _ y0
          have zWB : B9 < W0.heap.size := World.block_lt_of_cell? _ _ x0
          have CB0 : Hid (∀ W' : World, Below W0.heap.size W0 W' → Calls Tryz.prog 252 #[.agg #[.slice ad L.length cc, .map (some ra), .map (some rk)], .agg #[.int .i64 q0, .int .i64 q1, .int .i64 q2, .int .i64 q3], .agg #[.int .i64 A, .int .i64 B, .int .i64 C, .int .i64 D, .int .i64 E, .int .i64 F]] W' fun e w' => e = .returned (.agg #[.int .i64 g0, .int .i64 g1, .int .i64 g2, .int .i64 g3, .int .i64 g4, .int .i64 g5]) ∧ Below W'.heap.size W' w') := fun W' hW' => CB.out W' (bl_via HBN.out hW')
          clear c0 c1 c2 c3 c4 zjb bw bw2
          have kc := Kin.cells W0
          have kn : Nonempty (Kin W0) := ⟨⟨W0, bl_refl _⟩⟩
          refine wp_region_kin (by kernel_rfl) (by kernel_rfl) ?_
          repeat (go_big_quiet_step ((go_at_call 252; exact kin_of (CB0.out _ (Kin.h _)))))
          refine wpQuiet_nil ?_
          intro wq hw'
          obtain ⟨nq, hw''⟩ := hw'
          have hq : Below W0.heap.size W0 wq := hw'' ▸ nq.h
          clear hw'' nq kc kn x0 x1 x2 x3 x4 p0 p1 p2 p3 y0 y1 y2 y3 y4 y5 v0 v1 v2 v3 v4 v5
          cases hsm : sameM f0 f1 f2 f3 f4 f5 g0 g1 g2 g3 g4 g5
          · go_wp2
            go_ret
            refine ⟨⟨false, rfl, ?_⟩, bl_via HB0.out (bl_via HBw.out.1 (bl_via HBN.out hq))⟩
            simp only [Bool.false_eq_true, false_iff]
            intro hall
            have h2 := (hall i h1) (J.getD m ((0, 0, 0, 0), 0)) (by
              rw [getD_at J m hm1, getD_at L i h1, ← HJ.out]
              exact List.getElem_mem hm1)
            rw [HQ.out] at h2
            have := HFJ.out.2 h2
            rw [hsm] at this
            cases this
          · go_wp2
            go_roundg (J.length - (m + 1))
            case measure => omega
            case rel =>
              refine ⟨m + 1, by omega, rfl, by go_num, fun m' hm' => ?_, bl_via HBw.out.2 (bl_via HBN.out hq)⟩
              by_cases e : m' = m
              · subst e
                rw [HQ.out]
                exact HFJ.out.1 hsm
              · exact HFM.out m' (by omega)
        · have im : ¬ (m : Int) < (J.length : Int) := by omega
          go_wp2
          go_roundg (L.length - (i + 1))
          case measure => omega
          case rel =>
            refine ⟨i + 1, by omega, rfl, by go_num, fun i' hi' => ?_, HBw.out.1⟩
            by_cases e : i' = i
            · subst e
              intro q hq
              rw [getD_at L i' h1] at hq
              have hq : q ∈ J := by rw [HJ.out]; exact hq
              obtain ⟨m', hm', e⟩ := List.getElem_of_mem hq
              have := HFM.out m' (by omega)
              rw [getD_at J m' hm'] at this
              rw [← e]
              exact this
            · exact HF.out i' (by omega)
    · have i1 : ¬ (i : Int) < (L.length : Int) := by omega
      go_wp2
      go_ret
      exact ⟨⟨true, rfl, by simp only [true_iff]; exact fun i' hi' => HF.out i' (by omega)⟩, bl_via HB0.out HB.out⟩
end Go.Proofs.YtnpboeodhpenmaaGreatDoor
namespace Go.Proofs.YtnpboeodhpenmaaGreatDoor
open Go.RowKit Go.ChangeMaps

theorem lessE_iff (a b c d p q r s : Int) : lessE a b c d p q r s = true ↔ (a < p ∨ (a = p ∧ b < q) ∨ (a = p ∧ b = q ∧ (c < r ∨ (c = r ∧ d < s)))) := by
  simp only [lessE, lessB, Bool.or_eq_true, Bool.and_eq_true, decide_eq_true_eq]
  omega
theorem cr_less {L : List (Int × Int × Int)} {ks : List Int} {n : Nat} (h : ∀ i, i < n → CrOk L ks i) : ∀ d i, i + d + 1 < n → lessE (ck ks i 0) (ck ks i 1) (ck ks i 2) (ck ks i 3) (ck ks (i + d + 1) 0) (ck ks (i + d + 1) 1) (ck ks (i + d + 1) 2) (ck ks (i + d + 1) 3) = true
  | 0, i, hi => (h (i + 0 + 1) hi).1 (by omega)
  | d + 1, i, hi => by
    have h1 := cr_less h d i (by omega)
    have h2 := (h (i + (d + 1) + 1) hi).1 (by omega)
    have e : i + (d + 1) + 1 - 1 = i + d + 1 := by omega
    rw [e] at h2
    rw [lessE_iff] at h1 h2 ⊢
    omega
theorem cr_one {L : List (Int × Int × Int)} {ks : List Int} {n : Nat} (h : ∀ i, i < n → CrOk L ks i) : CrOne ks n := fun i j hij hj e => by
  have h1 := cr_less h (j - i - 1) i (by omega)
  rw [show i + (j - i - 1) + 1 = j by omega] at h1
  rw [lessE_iff] at h1
  simp only [Prod.mk.injEq] at e
  omega

/-- Lay's answer to a sheet that may not be; the reference's. -/
def LayNo (w : World) (W H : Int) (zs ks : List Int) (n : Nat) : Prop := ∀ (W' : World) (a' c' : Option Addr) (ca' cc' : Nat), Below w.heap.size w W' → Row W' a' zs → Row W' c' ks → Calls Tryz.prog 85 #[.agg #[.int .i64 W, .int .i64 H, .slice a' zs.length ca', .slice c' n cc']] W' fun e w' => e = .returned (.tuple #[.agg #[.slice none 0 0, .map none, .map none], .bool false]) ∧ Below W'.heap.size W' w'
def MayIs (w : World) (W H : Int) (a c : Option Addr) (ca cc : Nat) (zs : List Int) (n : Nat) (bb : Bool) : Prop := ∀ W' : World, Below w.heap.size w W' → Calls Tryz.prog 49 #[.agg #[.int .i64 W, .int .i64 H, .slice a zs.length ca, .slice c n cc]] W' fun e w' => e = .returned (.bool bb) ∧ Below W'.heap.size W' w'

theorem sheet_either (W H : Int) (a c : Option Addr) (ca cc n : Nat) (zs ks : List Int) (w : World) (hz : Row w a zs) (hk : Row w c ks) (hn : ks.length = n * 5) (h2 : n ≤ 3518437208883) (hs : Steps w) :
    (LayNo w W H zs ks n ∧ MayIs w W H a c ca cc zs n false) ∨
    (∃ (Wn Hn b off : Nat), W = (Wn : Int) ∧ H = (Hn : Int) ∧ a = some ⟨b, off, none⟩ ∧ (1 ≤ Wn ∧ Wn ≤ 8) ∧ (1 ≤ Hn ∧ Hn ≤ 8) ∧ zs.length = Wn * Hn ∧ maskB zs = true ∧ Joined (ty zs Wn Hn) ∧ (∀ i, i < n → CrOk (ty zs Wn Hn) ks i) ∧ MayIs w W H a c ca cc zs n true) := by
  cases hc : cellsB W H zs
  · exact Or.inl ⟨fun W' a' c' ca' cc' hb q1 q2 => lay_bad W H a' ca' zs _ W' q1 hc, fun W' hb => sheetMay_bad W H a ca zs _ W' (hz.kept hb) hc⟩
  · simp only [cellsB, Bool.and_eq_true, decide_eq_true_eq, sideB] at hc
    obtain ⟨⟨⟨q1, q2⟩, q3⟩, q4⟩ := hc
    obtain ⟨Wn, rfl⟩ : ∃ m : Nat, W = (m : Int) := ⟨W.toNat, by omega⟩
    obtain ⟨Hn, rfl⟩ : ∃ m : Nat, H = (m : Int) := ⟨H.toNat, by omega⟩
    have hl : zs.length = Wn * Hn := by
      rw [← Int.natCast_mul] at q3
      omega
    have h0 : 0 < zs.length := by
      rw [hl]
      exact Nat.mul_pos (by omega) (by omega)
    have hW : 1 ≤ Wn ∧ Wn ≤ 8 := by omega
    have hH : 1 ≤ Hn ∧ Hn ≤ 8 := by omega
    obtain ⟨b, off, rfl, _⟩ := hz 0 h0
    have hM : ∀ W' : World, Below w.heap.size w W' → Calls Tryz.prog 49 #[.agg #[.int .i64 (Wn : Int), .int .i64 (Hn : Int), .slice (some ⟨b, off, none⟩) zs.length ca, .slice c n cc]] W' fun e w' => ∃ bb : Bool, e = .returned (.bool bb) ∧ (bb = true ↔ ((∀ i, i < n → CrOk (ty zs Wn Hn) ks i) ∧ Joined (ty zs Wn Hn))) ∧ Below W'.heap.size W' w' := fun W' hW' => sheetMay_any Wn Hn b off ca n cc c zs ks W' (hz.kept hW') hW hH hl q4 (hk.kept hW') hn h2
    by_cases hok : (∀ i, i < n → CrOk (ty zs Wn Hn) ks i) ∧ Joined (ty zs Wn Hn)
    · refine Or.inr ⟨Wn, Hn, b, off, rfl, rfl, rfl, hW, hH, hl, q4, hok.2, hok.1, fun W' hb => (hM W' hb).mono ?_⟩
      rintro e w' ⟨bb, rfl, hbb, hb'⟩
      rw [hbb.2 hok]
      exact ⟨rfl, hb'⟩
    · refine Or.inl ⟨fun W' a' c' ca' cc' hb r1 r2 => ?_, fun W' hb => (hM W' hb).mono ?_⟩
      · obtain ⟨ba, oa, rfl, _⟩ := r1 0 h0
        by_cases hJ : Joined (ty zs Wn Hn)
        · exact lay_nocrease Wn Hn ba oa ca' n cc' c' zs ks W' r1 hW hH hl q4 r2 hn h2 (hs.kept hb) hJ (fun h => hok ⟨h, hJ⟩)
        · exact lay_nojoin Wn Hn ba oa ca' n cc' c' zs ks W' r1 hW hH hl q4 r2 hn h2 (hs.kept hb) hJ
      · rintro e w' ⟨bb, rfl, hbb, hb'⟩
        obtain rfl : bb = false := by
          cases bb with
          | false => rfl
          | true => exact absurd (hbb.1 rfl) hok
        exact ⟨rfl, hb'⟩
end Go.Proofs.YtnpboeodhpenmaaGreatDoor
namespace Go.Proofs.YtnpboeodhpenmaaGreatDoor
open Go.RowKit

theorem wp_append_run {P : Program} {o : Oper} {a : Act} {w : World} {K : Act → World → Prop} {Q : Exit → Act → World → Prop} (s x : Operand) (t : TypeId) (ho : o.op = .call { callee := .builtin .append, args := #[s, x], argTypes := #[t, t] }) (vs vx v' : Value) (w' : World) (hs : a.eval s = vs) (hx : a.eval x = vx) (hr : (Builtin.append_ #[t, t] o.type #[vs, vx]).run P w = .ok v' w') (hK : K (a.put o.dst v') w') : Oper.wp P o a w K Q := by
  unfold Oper.wp execOp
  simp only [ho, resolve, invoke, builtin, Sem.run_bind, Sem.run_pure, Result.andThen_ok, List.map_toArray, List.map_cons, List.map_nil, hs, hx, hr]
  exact hK
theorem own_form {w : World} {base size n : Nat} {e : TypeId} {v : Value} {xs : List Value} (h : w.ownsRow base e size v n xs) : ∃ a cap, v = .slice a n cap ∧ (0 < n → ∃ g, a = some ⟨g, 0, none⟩) := by
  rcases h.2 with ⟨rfl, rfl⟩ | ⟨g, cap, cur, rfl, _⟩
  · exact ⟨none, 0, rfl, fun h => by omega⟩
  · exact ⟨_, cap, rfl, fun _ => ⟨g, rfl⟩⟩


theorem World_own_le {w : World} {base base' size n : Nat} {e : TypeId} {v : Value} {xs : List Value} (h : w.ownsRow base e size v n xs) (hb : base' ≤ base) : w.ownsRow base' e size v n xs := by
  refine ⟨h.1, h.2.imp id ?_⟩
  rintro ⟨g, cap, cur, h1, h2, h3⟩
  exact ⟨g, cap, cur, h1, Nat.le_trans hb h2, h3⟩
end Go.Proofs.YtnpboeodhpenmaaGreatDoor
