/- The reference's MapsMay: do maps go together? -/
import Derived.Test.YtnpboeodhpenmaaGreatDoorQlbl
import Derived.Test.YtnpboeodhpenmaaGreatDoorQlaz
import Derived.Test.YtnpboeodhpenmaaGreatDoorQlbh
import Derived.Test.YtnpboeodhpenmaaGreatDoorQlbk
namespace Go.Proofs.YtnpboeodhpenmaaGreatDoor
open Go.RowKit

/-- A row of maps, wherever it lies. -/
def MRowG (w : World) (a : Option Addr) (n : Nat) (M : Nat → M6) : Prop := ∀ i, i < n → ∃ g o, a = some ⟨g, o, none⟩ ∧ w.cell? ⟨g, o + i * 6, none⟩ = some (.int .i64 (M i).1) ∧ w.cell? ⟨g, o + i * 6 + 1, none⟩ = some (.int .i64 (M i).2.1) ∧ w.cell? ⟨g, o + i * 6 + 2, none⟩ = some (.int .i64 (M i).2.2.1) ∧ w.cell? ⟨g, o + i * 6 + 3, none⟩ = some (.int .i64 (M i).2.2.2.1) ∧ w.cell? ⟨g, o + i * 6 + 4, none⟩ = some (.int .i64 (M i).2.2.2.2.1) ∧ w.cell? ⟨g, o + i * 6 + 5, none⟩ = some (.int .i64 (M i).2.2.2.2.2)
theorem MRowG.kept {w w' : World} {a : Option Addr} {n : Nat} {M : Nat → M6} (h : MRowG w a n M) (hb : Below w.heap.size w w') : MRowG w' a n M := fun i hi => by
  obtain ⟨g, o, e, c0, c1, c2, c3, c4, c5⟩ := h i hi
  exact ⟨g, o, e, cl_kept hb c0, cl_kept hb c1, cl_kept hb c2, cl_kept hb c3, cl_kept hb c4, cl_kept hb c5⟩
/-- Across an edge: as it must be. -/
def Acr1 (kd : Int × Int × Int × Int → Int) (L : List (Int × Int × Int)) (M : Nat → M6) (i k : Nat) : Prop := ∀ j (hj : j < L.length), L[j] = acr (L.getD i (0, 0, 0)) (edg (L.getD i (0, 0, 0)) k) → M j = farM kd (edg (L.getD i (0, 0, 0)) k) (M i)
def MMs (kd : Int × Int × Int × Int → Int) (L : List (Int × Int × Int)) (M : Nat → M6) (m : Nat) : Prop := ∀ i, i < m → MOk1 L M i ∧ ∀ k, k < 3 → Acr1 kd L M i k
theorem mms_iff {kd : Int × Int × Int × Int → Int} {L : List (Int × Int × Int)} {M : Nat → M6} (hnd : L.Nodup) (hkd : ∀ t ∈ L, Kd t) : MMs kd L M L.length ↔ MOk kd L M := by
  constructor
  · intro h
    refine ⟨fun i hi => (h i hi).1, fun i hi q hq j hj => ?_⟩
    obtain ⟨e, t⟩ := q
    obtain ⟨k, hk, rfl, m, hm, rfl, hne, hh⟩ := jl_mem.1 hq
    dsimp only at hj ⊢
    obtain rfl : m = j := by omega
    rw [bynd_iff (h m hm).1.1]
    refine (h i hi).2 k hk m hm ?_
    rw [getD_at L i hi]
    rw [getD_at L i hi] at hh hq
    refine acr_is (hkd _ (List.getElem_mem hi)) (hkd _ (List.getElem_mem hm)) (edg_own _ _) hh ?_
    exact fun e => hne (nodup_inj hnd hm hi e)
  · intro h i hi
    refine ⟨h.1 i hi, fun k hk j hj hja => ?_⟩
    have hi' := getD_at L i hi (d := (0, 0, 0))
    rw [hi'] at hja ⊢
    have ha := acr_adj (hkd _ (List.getElem_mem hi)) (edg_own L[i] k)
    have hne : j ≠ i := fun e => by
      subst e
      exact ha.2.1 hja.symm
    have := h.2 i hi (edg L[i] k, (j : Int)) (by
      rw [hi']
      exact jl_mem.2 ⟨k, hk, rfl, j, hj, rfl, hne, by rw [hja]; exact ha.1⟩) j rfl
    exact (bynd_iff (h.1 j hj).1).1 this
/-- What MapsMay answers. -/
def MmTo (kd : Int × Int × Int × Int → Int) (L : List (Int × Int × Int)) (mn : Nat) (M : Nat → M6) (w w' : World) (e : Ending) : Prop := ∃ b : Bool, e = .returned (.bool b) ∧ (b = true ↔ (mn = L.length ∧ MMs kd L M L.length)) ∧ Below w.heap.size w w'
set_option maxRecDepth 100000 in
set_option maxHeartbeats 25600000 in
theorem mapsMay_any (W H b off cap n ccap mn mc : Nat) (cb mp : Option Addr) (zs ks : List Int) (M : Nat → M6) (w : World) (hr : Row w (some ⟨b, off, none⟩) zs) (hW : 1 ≤ W ∧ W ≤ 8) (hH : 1 ≤ H ∧ H ≤ 8) (hl : zs.length = W * H) (hm : maskB zs = true) (hC : CRow w cb ks n) (h1 : CrOne ks n) (hn2 : n ≤ 3518437208883) (hM : MRowG w mp mn M) :
    Calls Tryz.prog 50 #[.agg #[.int .i64 (W : Int), .int .i64 (H : Int), .slice (some ⟨b, off, none⟩) zs.length cap, .slice cb n ccap], .slice mp mn mc] w fun e w' => MmTo (kdn ks n) (ty zs W H) mn M w w' e := by
  have C29 : Hid (∀ W' : World, Below w.heap.size w W' → Calls Tryz.prog 51 #[.agg #[.int .i64 (W : Int), .int .i64 (H : Int), .slice (some ⟨b, off, none⟩) zs.length cap, .slice cb n ccap]] W' fun e w' => ∃ v, e = .returned v ∧ w'.ownsRow (W'.heap.size + 1) 51 3 v (ty zs W H).length (flatV (ty zs W H)) ∧ Below W'.heap.size W' w') := fun W' hW' => trisOf_any W H b off cap zs _ W' (hr.kept hW') hW hH hl hm
  have CK : Hid (∀ (W' : World) (p q r s : Int), Below w.heap.size w W' → Calls Tryz.prog 125 #[.agg #[.int .i64 (W : Int), .int .i64 (H : Int), .slice (some ⟨b, off, none⟩) zs.length cap, .slice cb n ccap], .agg #[.int .i64 p, .int .i64 q, .int .i64 r, .int .i64 s]] W' fun e w' => e = .returned (.int .i64 (kdn ks n (p, q, r, s))) ∧ Below W'.heap.size W' w') := fun W' p q r s hW' => kindOf_any W' _ _ _ cb n ccap ks p q r s (hC.kept hW') h1 hn2
  have HBD : Hid (∀ t ∈ ty zs W H, (0 ≤ t.1 ∧ t.1 ≤ 8) ∧ (0 ≤ t.2.1 ∧ t.2.1 ≤ 8) ∧ (0 ≤ t.2.2 ∧ t.2.2 ≤ 3)) := ty_bd hW.2 hH.2
  have HND : Hid ((ty zs W H).Nodup) := ty_nodup zs W H
  have hlen : (ty zs W H).length ≤ 256 := by have := ty_len zs W H hW.2; omega
  have HMG : Hid (MRowG w mp mn M) := hM
  obtain ⟨kd, hkd⟩ : ∃ kd, kd = kdn ks n := ⟨_, rfl⟩
  rw [← hkd] at CK ⊢
  obtain ⟨L, hL⟩ : ∃ L, L = ty zs W H := ⟨_, rfl⟩
  rw [← hL] at C29 HBD HND hlen ⊢
  clear hr hW hH hl hm hC h1 hL hkd hM
  have hnq := neqM
  go_enter Tryz.func50, Tryz.ntmps50
  go_upto_region 2 with (go_at_call 51; refine (C29.out _ (by with_reducible exact bl_alloc (bl_refl _))).mono ?_; rintro e w1 ⟨v, rfl, ho, hb⟩; obtain ⟨a, ca, rfl, hT⟩ := own_tris ho; have HW : Hid (TRow w1 a L ∧ Below w.heap.size w w1 ∧ Sh w1 w.heap.size (.int .i64 (W : Int)) (.int .i64 (H : Int)) (.slice (some ⟨b, off, none⟩) zs.length cap) (.slice cb n ccap)) := ⟨hT, bl_via (bl_alloc (bl_refl _)) hb, Sh.kept (by simp [Sh, go_sem]) hb⟩; clear hT ho hb)
  by_cases hmn : mn = L.length
  · subst hmn
    have qn : ((L.length : Int) != (L.length : Int)) = false := by simp
    go_wp2
    go_loopg [6] L.length (fun gk s6 wx => ∃ i : Nat, i ≤ L.length ∧ gk = L.length - i ∧ s6 = .int .i64 (i : Int) ∧ MMs kd L M i ∧ Below w1.heap.size w1 wx)
    case atStart => exact ⟨0, by omega, rfl, rfl, fun i h => by omega, bl_refl _⟩
    case round =>
      obtain ⟨i, hi, rfl, rfl, hMM, hB⟩ := hrel
      have HB : Hid (MMs kd L M i ∧ Below w1.heap.size w1 wr ∧ Below w.heap.size w wr) := ⟨hMM, hB, bl_via HW.out.2.1 hB⟩
      clear hMM hB
      by_cases hi1 : i < L.length
      · have i1 : (i : Int) < (L.length : Int) := by omega
        have i0 : (0 : Int) ≤ (i : Int) := by omega
        obtain ⟨ga, rfl, t0, t1, t2⟩ := (HW.out.1.kept HB.out.2.1) i hi1
        obtain ⟨gm, o, rfl, y0, y1, y2, y3, y4, y5⟩ := (HMG.out.kept HB.out.2.2) i hi1
        obtain ⟨x, y, kk, ht⟩ : ∃ x y kk, L[i] = (x, y, kk) := ⟨_, _, _, rfl⟩
        obtain ⟨A, B, C, D, E, F, hmi⟩ : ∃ A B C D E F, M i = (A, B, C, D, E, F) := ⟨_, _, _, _, _, _, rfl⟩
        have hbd := HBD.out _ (List.getElem_mem hi1)
        rw [ht] at t0 t1 t2 hbd
        rw [hmi] at y0 y1 y2 y3 y4 y5
        dsimp only at t0 t1 t2 hbd y0 y1 y2 y3 y4 y5
        have HT : Hid ((x, y, kk) = L[i] ∧ L.getD i (0, 0, 0) = (x, y, kk) ∧ M i = (A, B, C, D, E, F)) := ⟨ht.symm, by rw [getD_at L i hi1, ht], hmi⟩
        have HTB : Hid (triB x y kk = true ∧ Kd (x, y, kk) ∧ ((0 ≤ x ∧ x ≤ 8) ∧ (0 ≤ y ∧ y ≤ 8) ∧ (0 ≤ kk ∧ kk ≤ 3))) := by
          have : triB x y kk = true ∧ Kd (x, y, kk) ∧ ((0 ≤ x ∧ x ≤ 8) ∧ (0 ≤ y ∧ y ≤ 8) ∧ (0 ≤ kk ∧ kk ≤ 3)) := ⟨by simp [triB]; omega, hbd.2.2, hbd⟩
          exact this
        have zt : ga < wr.heap.size := World.block_lt_of_cell? _ _ t0
        have zy : gm < wr.heap.size := World.block_lt_of_cell? _ _ y0
        have C56 : Hid (∀ W' : World, Calls Tryz.prog 61 #[.agg #[.int .i64 A, .int .i64 B, .int .i64 C, .int .i64 D, .int .i64 E, .int .i64 F]] W' fun e w' => e = .returned (.bool (mapM (A, B, C, D, E, F))) ∧ Below W'.heap.size W' w') := fun W' => (mapMay_any A B C D E F W').mono fun e w' ⟨h, o', hw⟩ => ⟨h, by rw [hw]; exact bl_alloc (bl_refl _)⟩
        clear ht hmi hbd
        obtain ⟨bb, HBB⟩ : ∃ bb : Bool, Hid (bb = false ↔ MOk1 L M i) := by
          by_cases q : MOk1 L M i
          · exact ⟨false, ⟨fun _ => q, fun _ => rfl⟩⟩
          · exact ⟨true, ⟨(fun h => by cases h), fun h => absurd h q⟩⟩
        have HM1 : Hid (MOk1 L M i ↔ (mapM (A, B, C, D, E, F) = true ∧ triT (mvt (A, B, C, D, E, F) (x, y, kk)) = true)) := by
          have : MOk1 L M i ↔ (mapM (A, B, C, D, E, F) = true ∧ triT (mvt (A, B, C, D, E, F) (x, y, kk)) = true) := by
            unfold MOk1
            rw [HT.out.2.1, HT.out.2.2]
          exact this
        go_upto_region 7 with fail
        go_cut [44] (fun s44 wx => s44 = .bool bb ∧ Below wr.heap.size wr wx)
        case first =>
          cases hmm : mapM (A, B, C, D, E, F)
          · have HT1 : Hid (bb = true) := by
              cases q : bb
              · have := (HM1.out.1 (HBB.out.1 q)).1
                rw [hmm] at this
                cases this
              · exact rfl
            rw [hmm] at C56
            have kc := Kin.cells wr
            have kn : Nonempty (Kin wr) := ⟨⟨wr, bl_refl _⟩⟩
            refine wp_region_kin (by kernel_rfl) (by kernel_rfl) ?_
            repeat (go_big_quiet_step ((first | (go_at_call 61; exact kin_of (C56.out _)))))
            refine wpQuiet_nil ?_
            intro wq hw'
            obtain ⟨nq, hw''⟩ := hw'
            have hq : Below wr.heap.size wr wq := hw'' ▸ nq.h
            clear hw'' nq kc kn
            go_wp2
            go_meet
            case rel => exact ⟨by rw [HT1.out], hq⟩
          · obtain ⟨X, Y, K, hmv⟩ : ∃ X Y K, mvt (A, B, C, D, E, F) (x, y, kk) = (X, Y, K) := ⟨_, _, _, rfl⟩
            have C33 : Hid (∀ W' : World, Calls Tryz.prog 54 #[.agg #[.int .i64 A, .int .i64 B, .int .i64 C, .int .i64 D, .int .i64 E, .int .i64 F], .agg #[.int .i64 x, .int .i64 y, .int .i64 kk]] W' fun e w' => e = .returned (.agg #[.int .i64 X, .int .i64 Y, .int .i64 K]) ∧ Below W'.heap.size W' w') := fun W' => by
              have := MoveOf_gen (A, B, C, D, E, F) (x, y, kk) W' hmm HTB.out.2.2
              rw [hmv] at this
              exact this
            obtain ⟨tb, htb⟩ : ∃ tb, tb = triB X Y K := ⟨_, rfl⟩
            have C13 : Hid (∀ W' : World, Calls Tryz.prog 62 #[.agg #[.int .i64 X, .int .i64 Y, .int .i64 K]] W' fun e w' => e = .returned (.bool tb) ∧ Below W'.heap.size W' w') := fun W' => (triMay_any X Y K W').mono fun e w' ⟨h, o', hw⟩ => ⟨by rw [htb]; exact h, by rw [hw]; exact bl_alloc (bl_refl _)⟩
            have HT1 : Hid (bb = !tb) := by
              have : bb = !tb := by
                have h2 : MOk1 L M i ↔ tb = true := by
                  rw [HM1.out, hmv, htb]
                  exact ⟨fun h => h.2, fun h => ⟨hmm, h⟩⟩
                cases q : bb
                · rw [h2.1 (HBB.out.1 q)]
                  rfl
                · cases q2 : tb
                  · rfl
                  · have := HBB.out.2 (h2.2 q2)
                    rw [q] at this
                    cases this
              exact this
            rw [hmm] at C56
            clear hmv htb
            have kc := Kin.cells wr
            have kn : Nonempty (Kin wr) := ⟨⟨wr, bl_refl _⟩⟩
            refine wp_region_kin (by kernel_rfl) (by kernel_rfl) ?_
            repeat (go_big_quiet_step ((first | (go_at_call 61; exact kin_of (C56.out _)) | (go_at_call 54; exact kin_of (C33.out _)) | (go_at_call 62; exact kin_of (C13.out _)))))
            refine wpQuiet_nil ?_
            intro wq hw'
            obtain ⟨nq, hw''⟩ := hw'
            have hq : Below wr.heap.size wr wq := hw'' ▸ nq.h
            clear hw'' nq kc kn
            go_wp2
            go_meet
            case rel => exact ⟨by rw [HT1.out], hq⟩
        case rest =>
          obtain ⟨rfl, hBc⟩ := hcut
          have HBc : Hid (Below w1.heap.size w1 wc ∧ Below w.heap.size w wc) := ⟨bl_via HB.out.2.1 hBc, bl_via HB.out.2.2 hBc⟩
          replace t0 := cl_kept hBc t0
          replace t1 := cl_kept hBc t1
          replace t2 := cl_kept hBc t2
          replace zt : ga < wc.heap.size := World.block_lt_of_cell? _ _ t0
          clear y0 y1 y2 y3 y4 y5 zy hBc C56
          cases bb
          · have HOKi : Hid (MOk1 L M i) := HBB.out.1 rfl
            have HMM : Hid (mapM (A, B, C, D, E, F) = true) := (HM1.out.1 (HBB.out.1 rfl)).1
            have C31 : Hid (∀ W' : World, Calls Tryz.prog 123 #[.agg #[.int .i64 x, .int .i64 y, .int .i64 kk]] W' fun e w' => ∃ g, e = .returned (.slice (some ⟨g, 0, none⟩) 3 3) ∧ W'.heap.size ≤ g ∧ Twl w' g (ue0 x y kk) (ue1 x y kk) (ue2 x y kk) (ue3 x y kk) (ue4 x y kk) (ue5 x y kk) (ue6 x y kk) (ue7 x y kk) (ue8 x y kk) (ue9 x y kk) (ue10 x y kk) (ue11 x y kk) ∧ Below W'.heap.size W' w') := fun W' => edgesOf_any x y kk W' (by have := HTB.out.2.2; omega) (by have := HTB.out.2.2; omega) (by have := HTB.out.2.2; omega) (by have := HTB.out.2.2; omega) (by have := HTB.out.2.2; omega) (by have := HTB.out.2.2; omega)
            go_wp2_with (go_at_call 123; refine (C31.out _).mono ?_; rintro e w4 ⟨ge, rfl, hge, hTw, hb⟩; have HG4 : Hid (E3 w4 ge (x, y, kk) ∧ Below w1.heap.size w1 w4) := ⟨hTw.e3, bl_via HBc.out.1 hb⟩; clear hge hTw hb)
            go_loopg [8] 3 (fun gk s8 wx => ∃ k : Nat, k ≤ 3 ∧ gk = 3 - k ∧ s8 = .int .i64 (k : Int) ∧ (∀ k', k' < k → Acr1 kd L M i k') ∧ E3 wx ge (x, y, kk) ∧ Below w1.heap.size w1 wx)
            case atStart => exact ⟨0, by omega, rfl, rfl, fun k' h => by omega, HG4.out.1, HG4.out.2⟩
            case round =>
              clear HG4 C31 t0 t1 t2 zt HBc HBB
              obtain ⟨k, hk, rfl, rfl, hAc, hE3, hB4⟩ := hrel
              have HG : Hid ((∀ k', k' < k → Acr1 kd L M i k') ∧ E3 wr ge (x, y, kk) ∧ Below w1.heap.size w1 wr ∧ Below w.heap.size w wr) := ⟨hAc, hE3, hB4, bl_via HW.out.2.1 hB4⟩
              clear hAc hE3 hB4
              by_cases hk1 : k < 3
              · have ik : (k : Int) < 3 := by omega
                have ik0 : (0 : Int) ≤ (k : Int) := by omega
                obtain ⟨ga', ea, t0, t1, t2⟩ := (HW.out.1.kept HG.out.2.2.1) i hi1
                simp only [Option.some.injEq, Addr.mk.injEq, and_true] at ea
                subst ea
                rw [← HT.out.1] at t0 t1 t2
                dsimp only at t0 t1 t2
                obtain ⟨m0, m1, m2, m3⟩ := HG.out.2.1 k hk1
                obtain ⟨q0, q1, q2, q3, hq⟩ : ∃ q0 q1 q2 q3, edg (x, y, kk) k = (q0, q1, q2, q3) := ⟨_, _, _, _, rfl⟩
                rw [hq] at m0 m1 m2 m3
                dsimp only at m0 m1 m2 m3
                have hhb : hasB x y kk q0 q1 q2 q3 = true := by
                  have h9 := edg_own (x, y, kk) k
                  rw [hq] at h9
                  exact h9
                have HQ : Hid (edg (x, y, kk) k = (q0, q1, q2, q3) ∧ hasB x y kk q0 q1 q2 q3 = true) := ⟨hq, hhb⟩
                obtain ⟨ux, hux⟩ : ∃ u, u = acX x y kk q0 q1 q2 q3 := ⟨_, rfl⟩
                obtain ⟨uy, huy⟩ : ∃ u, u = acY x y kk q0 q1 q2 q3 := ⟨_, rfl⟩
                obtain ⟨uk, huk⟩ : ∃ u, u = acK x y kk q0 q1 q2 q3 := ⟨_, rfl⟩
                have CA : Hid (∀ W' : World, Calls Tryz.prog 124 #[.agg #[.int .i64 x, .int .i64 y, .int .i64 kk], .agg #[.int .i64 q0, .int .i64 q1, .int .i64 q2, .int .i64 q3]] W' fun e w' => e = .returned (.tuple #[.agg #[.int .i64 ux, .int .i64 uy, .int .i64 uk], .bool true]) ∧ Below W'.heap.size W' w') := fun W' => by
                  rw [hux, huy, huk]
                  exact acrossOf_yes x y kk q0 q1 q2 q3 W' HTB.out.1 hhb
                have HU : Hid (acr (x, y, kk) (q0, q1, q2, q3) = (ux, uy, uk)) := by
                  have : acr (x, y, kk) (q0, q1, q2, q3) = (ux, uy, uk) := by
                    rw [hux, huy, huk]
                    rfl
                  exact this
                have zt : ga < wr.heap.size := World.block_lt_of_cell? _ _ t0
                have ze : ge < wr.heap.size := World.block_lt_of_cell? _ _ m0
                clear hq hhb hux huy huk
                go_wp2
                go_cut [9, 10] (fun sa sb wx => ∃ g11 : Nat, sa = .pointer (some ⟨g11, 0, none⟩) ∧ sb = .bool true ∧ Tr wx g11 ux uy uk ∧ Below wr.heap.size wr wx)
                case first =>
                  go_region_held3 (fun w' => w'.cell? ⟨ga, i * 3, none⟩ = some (.int .i64 x) ∧ w'.cell? ⟨ga, i * 3 + 1, none⟩ = some (.int .i64 y) ∧ w'.cell? ⟨ga, i * 3 + 2, none⟩ = some (.int .i64 kk) ∧ w'.cell? ⟨ge, k * 4, none⟩ = some (.int .i64 q0) ∧ w'.cell? ⟨ge, k * 4 + 1, none⟩ = some (.int .i64 q1) ∧ w'.cell? ⟨ge, k * 4 + 2, none⟩ = some (.int .i64 q2) ∧ w'.cell? ⟨ge, k * 4 + 3, none⟩ = some (.int .i64 q3))
                    ((refine ⟨?_, ?_, ?_, ?_, ?_, ?_, ?_⟩ <;> (repeat' (first | (with_reducible assumption) | (with_reducible refine st_far ?_ ?_) | (dsimp only; omega) | (simp [go_sem]; done) | (with_reducible refine al_old ?_) | (with_reducible refine dr_old ?_)))))
                    ((go_at_call 124; refine (CA.out _).mono ?_; rintro e w8 ⟨rfl, hb⟩; have t0_w8 : w8.cell? ⟨ga, i * 3, none⟩ = some (.int .i64 x) := cl_kept hb (by with_reducible (repeat (first | assumption | refine dr_old ?_ | refine al_old ?_))); have t1_w8 : w8.cell? ⟨ga, i * 3 + 1, none⟩ = some (.int .i64 y) := cl_kept hb (by with_reducible (repeat (first | assumption | refine dr_old ?_ | refine al_old ?_))); have t2_w8 : w8.cell? ⟨ga, i * 3 + 2, none⟩ = some (.int .i64 kk) := cl_kept hb (by with_reducible (repeat (first | assumption | refine dr_old ?_ | refine al_old ?_))); have m0_w8 : w8.cell? ⟨ge, k * 4, none⟩ = some (.int .i64 q0) := cl_kept hb (by with_reducible (repeat (first | assumption | refine dr_old ?_ | refine al_old ?_))); have m1_w8 : w8.cell? ⟨ge, k * 4 + 1, none⟩ = some (.int .i64 q1) := cl_kept hb (by with_reducible (repeat (first | assumption | refine dr_old ?_ | refine al_old ?_))); have m2_w8 : w8.cell? ⟨ge, k * 4 + 2, none⟩ = some (.int .i64 q2) := cl_kept hb (by with_reducible (repeat (first | assumption | refine dr_old ?_ | refine al_old ?_))); have m3_w8 : w8.cell? ⟨ge, k * 4 + 3, none⟩ = some (.int .i64 q3) := cl_kept hb (by with_reducible (repeat (first | assumption | refine dr_old ?_ | refine al_old ?_))); (first | (have hfz := fresh_a (g := wr.heap.size) rfl hb; obtain ⟨fy0, fy1, fy2, fz0, fz1, fz2, fz3⟩ := hfz) | (have hfz := fresh_d (g := wr.heap.size) rfl hb; obtain ⟨fy0, fy1, fy2, fz0, fz1, fz2, fz3⟩ := hfz) | (have hfz := fresh_dd (g := wr.heap.size) rfl hb; obtain ⟨fy0, fy1, fy2, fz0, fz1, fz2, fz3⟩ := hfz) | skip); have hq8 : Below wr.heap.size wr w8 := (by with_reducible (first | exact hb | exact bl_undrew hb | exact bl_undrew (bl_undrew hb) | exact bl_via (bl_alloc (bl_refl _)) hb | exact bl_via (bl_drew (bl_alloc (bl_refl _))) hb | exact bl_via (bl_alloc (bl_drew (bl_refl _))) hb | exact bl_via (bl_drew (bl_alloc (bl_drew (bl_refl _)))) hb)); have HQ8 : Hid (Below wr.heap.size wr w8) := hq8; have zs0 : ga < w8.heap.size := World.block_lt_of_cell? _ _ t0_w8; have zs1 : ge < w8.heap.size := World.block_lt_of_cell? _ _ m0_w8; clear hb hq8))
                  all_goals
                    go_wp2
                    go_meet
                    case rel =>
                      refine ⟨_, rfl, rfl, ?_, ?_⟩
                      · first | (simp [Tr, go_sem]; done) | (simp [Tr, go_sem, *]; done)
                      · with_reducible repeat' (first | exact HQ8.out | refine bl_set ?_ ?_ | refine bl_alloc ?_ | refine bl_drew ?_)
                        all_goals (first | omega | (dsimp only; omega) | (simp; done))
                case rest =>
                  obtain ⟨g11, rfl, rfl, hTr, hBd⟩ := hcut
                  have HG1 : Hid (E3 wc ge (x, y, kk) ∧ Below w1.heap.size w1 wc ∧ Below w.heap.size w wc) := ⟨HG.out.2.1.kept hBd, bl_via HG.out.2.2.1 hBd, bl_via HG.out.2.2.2 hBd⟩
                  obtain ⟨n0, n1, n2⟩ := hTr
                  have zn : g11 < wc.heap.size := World.block_lt_of_cell? _ _ n0
                  clear hBd CA t0 t1 t2 m0 m1 m2 m3 zt ze
                  obtain ⟨pj, hpj⟩ : ∃ p, p = plc L (ux, uy, uk) := ⟨_, rfl⟩
                  have C43 : Hid (∀ W' : World, TRow W' (some ⟨ga, 0, none⟩) L → Calls Tryz.prog 53 #[.slice (some ⟨ga, 0, none⟩) L.length ca, .agg #[.int .i64 ux, .int .i64 uy, .int .i64 uk]] W' fun e w' => e = .returned (.int .i64 pj) ∧ Below W'.heap.size W' w') := fun W' hT => hpj ▸ placeOf_any _ ca L _ _ _ W' hT hlen
                  have HPJ : Hid (pj = plc L (ux, uy, uk)) := hpj
                  clear hpj
                  go_upto_region 16 with (go_at_call 53; refine (C43.out _ (HW.out.1.kept HG1.out.2.1)).mono ?_; rintro e w10 ⟨rfl, hb⟩; have HG2 : Hid (E3 w10 ge (x, y, kk) ∧ Below w1.heap.size w1 w10 ∧ Below w.heap.size w w10) := ⟨HG1.out.1.kept hb, bl_via HG1.out.2.1 hb, bl_via HG1.out.2.2 hb⟩; have hrow := (HMG.out.kept HG2.out.2.2) i hi1; rw [HT.out.2.2] at hrow; obtain ⟨gm', o', eo, y0, y1, y2, y3, y4, y5⟩ := hrow; cases eo; dsimp only at y0 y1 y2 y3 y4 y5; have zy : gm < w10.heap.size := World.block_lt_of_cell? _ _ y0; clear hb)
                  refine wp_named (fun W0 hW0 => ?_)
                  obtain ⟨b12, hb12⟩ : ∃ b, b = w10.heap.size := ⟨_, rfl⟩
                  have HB0 : Hid (Below w10.heap.size w10 W0 ∧ b12 = w10.heap.size) := by
                    refine ⟨?_, hb12⟩
                    rw [hW0]
                    with_reducible repeat (first | exact bl_refl _ | refine bl_alloc ?_ | refine bl_set ?_ ?_)
                    all_goals (dsimp only; omega)
                  have HM12 : Hid (∀ o, o < 6 → W0.frozen? ⟨b12, o, none⟩ = false ∧ W0.cell? ⟨b12, o, none⟩ = some (.int .i64 ([A, B, C, D, E, F].getD o 0))) := by
                    have : ∀ o, o < 6 → W0.frozen? ⟨b12, o, none⟩ = false ∧ W0.cell? ⟨b12, o, none⟩ = some (.int .i64 ([A, B, C, D, E, F].getD o 0)) := by
                      rw [hW0, hb12]
                      intro o ho
                      rcases six_cases ho with rfl | rfl | rfl | rfl | rfl | rfl <;> simp [go_sem]
                    exact this
                  rw [← hb12]
                  clear hW0 hb12 y0 y1 y2 y3 y4 y5 zy n0 n1 n2 zn
                  obtain ⟨m0, m1, m2, m3⟩ := (HG2.out.1.kept HB0.out.1) k hk1
                  rw [HQ.out.1] at m0 m1 m2 m3
                  dsimp only at m0 m1 m2 m3
                  obtain ⟨s0, s1, s2, s3⟩ := HW.out.2.2.kept (bl_via HG2.out.2.1 HB0.out.1)
                  have zge : ge < W0.heap.size := World.block_lt_of_cell? _ _ m0
                  have zsh : w.heap.size < W0.heap.size := World.block_lt_of_cell? _ _ s0
                  obtain ⟨z, hz⟩ : ∃ z, z = kd (q0, q1, q2, q3) := ⟨_, rfl⟩
                  have CK2 : Hid (∀ W' : World, Below W0.heap.size W0 W' → Calls Tryz.prog 125 #[.agg #[.int .i64 (W : Int), .int .i64 (H : Int), .slice (some ⟨b, off, none⟩) zs.length cap, .slice cb n ccap], .agg #[.int .i64 q0, .int .i64 q1, .int .i64 q2, .int .i64 q3]] W' fun e w' => e = .returned (.int .i64 z) ∧ Below W'.heap.size W' w') := fun W' hW' => by
                    rw [hz]
                    exact CK.out W' q0 q1 q2 q3 (bl_via HG2.out.2.2 (bl_via HB0.out.1 hW'))
                  have HZ : Hid (z = kd (q0, q1, q2, q3)) := hz
                  clear hz
                  have kc := Kin.cells W0
                  have kn : Nonempty (Kin W0) := ⟨⟨W0, bl_refl _⟩⟩
                  refine wp_region_kin (by kernel_rfl) (by kernel_rfl) ?_
                  repeat (go_big_quiet_step ((first | (go_at_call 125; exact kin_of (CK2.out _ (Kin.h _))))))
                  refine wpQuiet_nil ?_
                  intro wq hw'
                  obtain ⟨nq, hw''⟩ := hw'
                  have hqq : Below W0.heap.size W0 wq := hw'' ▸ nq.h
                  clear hw'' nq kc kn
                  have HQQ : Hid (Below W0.heap.size W0 wq) := hqq
                  replace m0 := cl_kept hqq m0
                  replace m1 := cl_kept hqq m1
                  replace m2 := cl_kept hqq m2
                  replace m3 := cl_kept hqq m3
                  have zge2 : ge < wq.heap.size := World.block_lt_of_cell? _ _ m0
                  clear hqq s0 s1 s2 s3 zsh zge
                  obtain ⟨f0, f1, f2, f3, f4, f5, hfar⟩ : ∃ f0 f1 f2 f3 f4 f5, farM kd (q0, q1, q2, q3) (A, B, C, D, E, F) = (f0, f1, f2, f3, f4, f5) := ⟨_, _, _, _, _, _, rfl⟩
                  have HFAR : Hid (farM kd (q0, q1, q2, q3) (A, B, C, D, E, F) = (f0, f1, f2, f3, f4, f5)) := hfar
                  clear hfar
                  go_upto_if 79 with fail
                  go_cut [12] (fun s12 wx => s12 = .pointer (some ⟨b12, 0, none⟩) ∧ M1 wx b12 f0 f1 f2 f3 f4 f5 ∧ Below w10.heap.size w10 wx)
                  case first =>
                    by_cases hz0 : z = 0
                    · have hfe : (A, B, C, D, E, F) = (f0, f1, f2, f3, f4, f5) := by
                        have := HFAR.out
                        simp only [farM, ← HZ.out, if_pos hz0] at this
                        exact this
                      have qz : (z != 0) = false := by rw [hz0]; rfl
                      have HM1' : Hid (M1 wq b12 f0 f1 f2 f3 f4 f5) := by
                        simp only [Prod.mk.injEq] at hfe
                        obtain ⟨rfl, rfl, rfl, rfl, rfl, rfl⟩ := hfe
                        exact ⟨cl_kept HQQ.out (HM12.out 0 (by omega)).2, cl_kept HQQ.out (HM12.out 1 (by omega)).2, cl_kept HQQ.out (HM12.out 2 (by omega)).2, cl_kept HQQ.out (HM12.out 3 (by omega)).2, cl_kept HQQ.out (HM12.out 4 (by omega)).2, cl_kept HQQ.out (HM12.out 5 (by omega)).2⟩
                      clear hfe hz0
                      go_wp2
                      go_meet
                      case rel => exact ⟨rfl, HM1'.out, bl_via HB0.out.1 HQQ.out⟩
                    · have qz : (z != 0) = true := by simpa using hz0
                      have hth : hasT (x, y, kk) (q0, q1, q2, q3) = true := HQ.out.2
                      have hbde := edge_bd hth HTB.out.2.2
                      have hlm := line_may hth HTB.out.2.2
                      dsimp only at hbde
                      have hmm := mir_may hlm.1 hlm.2
                      obtain ⟨V, hV3, hVw, hVc, hVe, hVn⟩ := line_along hth HTB.out.2.2
                      obtain ⟨c, hc⟩ : ∃ c, c = alongOf (V : Int) q0 q1 := ⟨_, rfl⟩
                      have CLn : Hid (∀ W' : World, Calls Tryz.prog 127 #[.agg #[.int .i64 q0, .int .i64 q1, .int .i64 q2, .int .i64 q3]] W' fun e w' => e = .returned (.agg #[.int .i64 (V : Int), .int .i64 c]) ∧ Below W'.heap.size W' w') := fun W' => by
                        rw [hc]
                        exact refLine_any q0 q1 q2 q3 W' V hV3 ⟨hbde.1, hbde.2.1⟩ hbde.2.2 hVe hVn
                      rw [hVw, hVc, ← hc] at hlm hmm
                      obtain ⟨ma, mb, mc', md, me, mf, hmv⟩ : ∃ ma mb mc md me mf, mir (V : Int) c = (ma, mb, mc, md, me, mf) := ⟨_, _, _, _, _, _, rfl⟩
                      have CMi : Hid (∀ W' : World, Calls Tryz.prog 126 #[.agg #[.int .i64 (V : Int), .int .i64 c]] W' fun e w' => e = .returned (.agg #[.int .i64 ma, .int .i64 mb, .int .i64 mc', .int .i64 md, .int .i64 me, .int .i64 mf]) ∧ Below W'.heap.size W' w') := fun W' => by
                        have h := mirrorOf_any (V : Int) c W' hlm.1
                        simp only [mir, Prod.mk.injEq] at hmv
                        obtain ⟨rfl, rfl, rfl, rfl, rfl, rfl⟩ := hmv
                        refine h.mono ?_
                        rintro e w' ⟨rfl, o1, o2, rfl⟩
                        exact ⟨rfl, bl_alloc (bl_alloc (bl_refl _))⟩
                      rw [hmv] at hmm
                      have CAf : Hid (∀ W' : World, Calls Tryz.prog 60 #[.agg #[.int .i64 ma, .int .i64 mb, .int .i64 mc', .int .i64 md, .int .i64 me, .int .i64 mf], .agg #[.int .i64 A, .int .i64 B, .int .i64 C, .int .i64 D, .int .i64 E, .int .i64 F]] W' fun e w' => e = .returned (.agg #[.int .i64 f0, .int .i64 f1, .int .i64 f2, .int .i64 f3, .int .i64 f4, .int .i64 f5]) ∧ Below W'.heap.size W' w') := fun W' => by
                        have h := afterOf_any ma mb mc' md me mf A B C D E F W' (map_bd hmm.1).1 (map_bd HMM.out).1 (map_bd hmm.1).2.1 (map_bd HMM.out).2.1
                        have hf := HFAR.out
                        simp only [farM, ← HZ.out, if_neg hz0, hVw, hVc, ← hc, hmv, aft, Prod.mk.injEq] at hf
                        obtain ⟨rfl, rfl, rfl, rfl, rfl, rfl⟩ := hf
                        exact h
                      have r0 := cl_kept HQQ.out (HM12.out 0 (by omega)).2
                      have r1 := cl_kept HQQ.out (HM12.out 1 (by omega)).2
                      have r2 := cl_kept HQQ.out (HM12.out 2 (by omega)).2
                      have r3 := cl_kept HQQ.out (HM12.out 3 (by omega)).2
                      have r4 := cl_kept HQQ.out (HM12.out 4 (by omega)).2
                      have r5 := cl_kept HQQ.out (HM12.out 5 (by omega)).2
                      simp only [List.getD_cons_zero, List.getD_cons_succ] at r0 r1 r2 r3 r4 r5
                      have zb12 : b12 < wq.heap.size := World.block_lt_of_cell? _ _ r0
                      have zb0 : b12 < W0.heap.size := World.block_lt_of_cell? _ _ (HM12.out 0 (by omega)).2
                      have zw12 : w10.heap.size ≤ b12 := by rw [HB0.out.2]; exact Nat.le_refl _
                      have zgeb : ge < b12 := by rw [HB0.out.2]; exact World.block_lt_of_cell? _ _ (HG2.out.1 k hk1).1
                      clear hth hbde hlm hmm hV3 hVw hVc hVe hVn hc hmv hz0
                      go_wp2
                      go_region_with
                        (first
                          | (go_at_call 127; refine (CLn.out _).mono ?_; rintro e w8 ⟨rfl, hb⟩; have m0_w8 : w8.cell? ⟨ge, k * 4, none⟩ = some (.int .i64 q0) := cl_kept hb (by with_reducible (repeat (first | assumption | refine dr_old ?_ | refine al_old ?_))); have m1_w8 : w8.cell? ⟨ge, k * 4 + 1, none⟩ = some (.int .i64 q1) := cl_kept hb (by with_reducible (repeat (first | assumption | refine dr_old ?_ | refine al_old ?_))); have m2_w8 : w8.cell? ⟨ge, k * 4 + 2, none⟩ = some (.int .i64 q2) := cl_kept hb (by with_reducible (repeat (first | assumption | refine dr_old ?_ | refine al_old ?_))); have m3_w8 : w8.cell? ⟨ge, k * 4 + 3, none⟩ = some (.int .i64 q3) := cl_kept hb (by with_reducible (repeat (first | assumption | refine dr_old ?_ | refine al_old ?_))); have r0_w8 : w8.cell? ⟨b12, 0, none⟩ = some (.int .i64 A) := cl_kept hb (by with_reducible (repeat (first | assumption | refine dr_old ?_ | refine al_old ?_))); have r1_w8 : w8.cell? ⟨b12, 1, none⟩ = some (.int .i64 B) := cl_kept hb (by with_reducible (repeat (first | assumption | refine dr_old ?_ | refine al_old ?_))); have r2_w8 : w8.cell? ⟨b12, 2, none⟩ = some (.int .i64 C) := cl_kept hb (by with_reducible (repeat (first | assumption | refine dr_old ?_ | refine al_old ?_))); have r3_w8 : w8.cell? ⟨b12, 3, none⟩ = some (.int .i64 D) := cl_kept hb (by with_reducible (repeat (first | assumption | refine dr_old ?_ | refine al_old ?_))); have r4_w8 : w8.cell? ⟨b12, 4, none⟩ = some (.int .i64 E) := cl_kept hb (by with_reducible (repeat (first | assumption | refine dr_old ?_ | refine al_old ?_))); have r5_w8 : w8.cell? ⟨b12, 5, none⟩ = some (.int .i64 F) := cl_kept hb (by with_reducible (repeat (first | assumption | refine dr_old ?_ | refine al_old ?_))); have hq8 : Below wq.heap.size wq w8 := bl_via (by with_reducible repeat (first | exact bl_refl _ | refine bl_drew ?_)) hb; have HQ8 : Hid (Below wq.heap.size wq w8) := hq8; clear hb hq8)
                          | (go_at_call 126; refine (CMi.out _).mono ?_; rintro e w9 ⟨rfl, hb⟩; have m0_w9 : w9.cell? ⟨ge, k * 4, none⟩ = some (.int .i64 q0) := cl_kept hb (by with_reducible (repeat (first | assumption | refine dr_old ?_ | refine al_old ?_))); have m1_w9 : w9.cell? ⟨ge, k * 4 + 1, none⟩ = some (.int .i64 q1) := cl_kept hb (by with_reducible (repeat (first | assumption | refine dr_old ?_ | refine al_old ?_))); have m2_w9 : w9.cell? ⟨ge, k * 4 + 2, none⟩ = some (.int .i64 q2) := cl_kept hb (by with_reducible (repeat (first | assumption | refine dr_old ?_ | refine al_old ?_))); have m3_w9 : w9.cell? ⟨ge, k * 4 + 3, none⟩ = some (.int .i64 q3) := cl_kept hb (by with_reducible (repeat (first | assumption | refine dr_old ?_ | refine al_old ?_))); have r0_w9 : w9.cell? ⟨b12, 0, none⟩ = some (.int .i64 A) := cl_kept hb (by with_reducible (repeat (first | assumption | refine dr_old ?_ | refine al_old ?_))); have r1_w9 : w9.cell? ⟨b12, 1, none⟩ = some (.int .i64 B) := cl_kept hb (by with_reducible (repeat (first | assumption | refine dr_old ?_ | refine al_old ?_))); have r2_w9 : w9.cell? ⟨b12, 2, none⟩ = some (.int .i64 C) := cl_kept hb (by with_reducible (repeat (first | assumption | refine dr_old ?_ | refine al_old ?_))); have r3_w9 : w9.cell? ⟨b12, 3, none⟩ = some (.int .i64 D) := cl_kept hb (by with_reducible (repeat (first | assumption | refine dr_old ?_ | refine al_old ?_))); have r4_w9 : w9.cell? ⟨b12, 4, none⟩ = some (.int .i64 E) := cl_kept hb (by with_reducible (repeat (first | assumption | refine dr_old ?_ | refine al_old ?_))); have r5_w9 : w9.cell? ⟨b12, 5, none⟩ = some (.int .i64 F) := cl_kept hb (by with_reducible (repeat (first | assumption | refine dr_old ?_ | refine al_old ?_))); have hq9 : Below w8.heap.size w8 w9 := bl_via (by with_reducible repeat (first | exact bl_refl _ | refine bl_drew ?_)) hb; have HQ9 : Hid (Below wq.heap.size wq w9) := bl_via HQ8.out hq9; clear hb hq9)
                          | (go_at_call 60; refine (CAf.out _).mono ?_; rintro e w11 ⟨rfl, hb⟩; have m0_w11 : w11.cell? ⟨ge, k * 4, none⟩ = some (.int .i64 q0) := cl_kept hb (by with_reducible (repeat (first | assumption | refine dr_old ?_ | refine al_old ?_))); have m1_w11 : w11.cell? ⟨ge, k * 4 + 1, none⟩ = some (.int .i64 q1) := cl_kept hb (by with_reducible (repeat (first | assumption | refine dr_old ?_ | refine al_old ?_))); have m2_w11 : w11.cell? ⟨ge, k * 4 + 2, none⟩ = some (.int .i64 q2) := cl_kept hb (by with_reducible (repeat (first | assumption | refine dr_old ?_ | refine al_old ?_))); have m3_w11 : w11.cell? ⟨ge, k * 4 + 3, none⟩ = some (.int .i64 q3) := cl_kept hb (by with_reducible (repeat (first | assumption | refine dr_old ?_ | refine al_old ?_))); have r0_w11 : w11.cell? ⟨b12, 0, none⟩ = some (.int .i64 A) := cl_kept hb (by with_reducible (repeat (first | assumption | refine dr_old ?_ | refine al_old ?_))); have r1_w11 : w11.cell? ⟨b12, 1, none⟩ = some (.int .i64 B) := cl_kept hb (by with_reducible (repeat (first | assumption | refine dr_old ?_ | refine al_old ?_))); have r2_w11 : w11.cell? ⟨b12, 2, none⟩ = some (.int .i64 C) := cl_kept hb (by with_reducible (repeat (first | assumption | refine dr_old ?_ | refine al_old ?_))); have r3_w11 : w11.cell? ⟨b12, 3, none⟩ = some (.int .i64 D) := cl_kept hb (by with_reducible (repeat (first | assumption | refine dr_old ?_ | refine al_old ?_))); have r4_w11 : w11.cell? ⟨b12, 4, none⟩ = some (.int .i64 E) := cl_kept hb (by with_reducible (repeat (first | assumption | refine dr_old ?_ | refine al_old ?_))); have r5_w11 : w11.cell? ⟨b12, 5, none⟩ = some (.int .i64 F) := cl_kept hb (by with_reducible (repeat (first | assumption | refine dr_old ?_ | refine al_old ?_))); have hq11 : Below w9.heap.size w9 w11 := bl_via (by with_reducible repeat (first | exact bl_refl _ | refine bl_drew ?_)) hb; have HQ10 : Hid (Below W0.heap.size W0 w11) := bl_via (bl_via HQQ.out HQ9.out) hq11; have fr0 := (HQ10.out.frozen (p := ⟨b12, 0, none⟩) zb0).trans (HM12.out 0 (by omega)).1; have fr1 := (HQ10.out.frozen (p := ⟨b12, 1, none⟩) zb0).trans (HM12.out 1 (by omega)).1; have fr2 := (HQ10.out.frozen (p := ⟨b12, 2, none⟩) zb0).trans (HM12.out 2 (by omega)).1; have fr3 := (HQ10.out.frozen (p := ⟨b12, 3, none⟩) zb0).trans (HM12.out 3 (by omega)).1; have fr4 := (HQ10.out.frozen (p := ⟨b12, 4, none⟩) zb0).trans (HM12.out 4 (by omega)).1; have fr5 := (HQ10.out.frozen (p := ⟨b12, 5, none⟩) zb0).trans (HM12.out 5 (by omega)).1; have zr : b12 < w11.heap.size := World.block_lt_of_cell? _ _ r0_w11; clear hb hq11))
                      all_goals
                        go_wp2
                        go_meet
                        case rel =>
                          refine ⟨rfl, ?_, ?_⟩
                          · first | (simp [M1, go_sem]; done) | (simp [M1, go_sem, *]; done)
                          · with_reducible repeat' (first | exact bl_via HB0.out.1 HQ10.out | refine bl_set ?_ ?_ | refine bl_alloc ?_ | refine bl_drew ?_)
                            all_goals (first | omega | (dsimp only; omega) | (simp; done))
                  case rest =>
                    obtain ⟨rfl, hM1, hBe⟩ := hcut
                    have HG3 : Hid (E3 wc ge (x, y, kk) ∧ Below w1.heap.size w1 wc ∧ Below w.heap.size w wc) := ⟨HG2.out.1.kept hBe, bl_via HG2.out.2.1 hBe, bl_via HG2.out.2.2 hBe⟩
                    obtain ⟨g0, g1, g2, g3, g4, g5⟩ := hM1
                    have zg : b12 < wc.heap.size := World.block_lt_of_cell? _ _ g0
                    clear hBe m0 m1 m2 m3 zge2
                    rcases plc_bd L (ux, uy, uk) with hp | ⟨j, hj, hp⟩
                    · have ej : pj = -1 := HPJ.out.trans hp
                      subst ej
                      have HOK : Hid (Acr1 kd L M i k) := fun j hj hja => by
                        exfalso
                        rw [HT.out.2.1, HQ.out.1, HU.out] at hja
                        have := plc_self HND.out hj
                        rw [hja, hp] at this
                        omega
                      clear hp
                      go_upto_region 18 with fail
                      have kc := Kin.cells wc
                      have kn : Nonempty (Kin wc) := ⟨⟨wc, bl_refl _⟩⟩
                      refine wp_region_kin (by kernel_rfl) (by kernel_rfl) ?_
                      repeat (go_big_quiet_step (fail))
                      refine wpQuiet_nil ?_
                      intro wq hw'
                      obtain ⟨nq, hw''⟩ := hw'
                      have hq : Below wc.heap.size wc wq := hw'' ▸ nq.h
                      clear hw'' nq kc kn
                      go_wp2
                      go_roundg (3 - (k + 1))
                      case measure => omega
                      case rel =>
                        refine ⟨k + 1, by omega, rfl, by go_num, fun k' hk' => ?_, HG3.out.1.kept hq, bl_via HG3.out.2.1 hq⟩
                        by_cases e : k' = k
                        · exact e ▸ HOK.out
                        · exact HG.out.1 k' (by omega)
                    · have ej : pj = (j : Int) := HPJ.out.trans hp
                      subst ej
                      have hLj : L[j] = (ux, uy, uk) := plc_get hj hp
                      have j1 : (j : Int) < (L.length : Int) := by omega
                      have j0 : (0 : Int) ≤ (j : Int) := by omega
                      obtain ⟨gm', o', eo, v0, v1, v2, v3, v4, v5⟩ := (HMG.out.kept HG3.out.2.2) j hj
                      cases eo
                      have zv : gm < wc.heap.size := World.block_lt_of_cell? _ _ v0
                      obtain ⟨c0, c1, c2, c3, c4, c5, hmj⟩ : ∃ c0 c1 c2 c3 c4 c5, M j = (c0, c1, c2, c3, c4, c5) := ⟨_, _, _, _, _, _, rfl⟩
                      rw [hmj] at v0 v1 v2 v3 v4 v5
                      dsimp only at v0 v1 v2 v3 v4 v5
                      have HAC : Hid (Acr1 kd L M i k ↔ sameM c0 c1 c2 c3 c4 c5 f0 f1 f2 f3 f4 f5 = true) := by
                        have : Acr1 kd L M i k ↔ sameM c0 c1 c2 c3 c4 c5 f0 f1 f2 f3 f4 f5 = true := by
                          constructor
                          · intro h
                            have := h j hj (by rw [HT.out.2.1, HQ.out.1, HU.out]; exact hLj)
                            rw [HT.out.2.1, HQ.out.1, HT.out.2.2, HFAR.out, hmj] at this
                            simp only [Prod.mk.injEq] at this
                            simp only [sameM, decide_eq_true_eq]
                            exact this
                          · intro h j' hj' hja
                            rw [HT.out.2.1, HQ.out.1, HU.out, ← hLj] at hja
                            have := nodup_inj HND.out hj' hj hja
                            subst this
                            rw [HT.out.2.1, HQ.out.1, HT.out.2.2, HFAR.out, hmj]
                            simp only [sameM, decide_eq_true_eq] at h
                            simp only [Prod.mk.injEq]
                            exact h
                        exact this
                      clear hp hLj hmj
                      go_upto_region 18 with fail
                      have kc := Kin.cells wc
                      have kn : Nonempty (Kin wc) := ⟨⟨wc, bl_refl _⟩⟩
                      refine wp_region_kin (by kernel_rfl) (by kernel_rfl) ?_
                      repeat (go_big_quiet_step (fail))
                      refine wpQuiet_nil ?_
                      intro wq hw'
                      obtain ⟨nq, hw''⟩ := hw'
                      have hq : Below wc.heap.size wc wq := hw'' ▸ nq.h
                      clear hw'' nq kc kn
                      clear v0 v1 v2 v3 v4 v5 g0 g1 g2 g3 g4 g5
                      cases hsm : sameM c0 c1 c2 c3 c4 c5 f0 f1 f2 f3 f4 f5
                      · go_wp2
                        go_ret
                        refine ⟨false, rfl, ?_, bl_via HG3.out.2.2 hq⟩
                        simp only [Bool.false_eq_true, false_iff]
                        intro hall
                        have := HAC.out.1 ((hall.2 i hi1).2 k hk1)
                        rw [hsm] at this
                        cases this
                      · go_wp2
                        go_roundg (3 - (k + 1))
                        case measure => omega
                        case rel =>
                          refine ⟨k + 1, by omega, rfl, by go_num, fun k' hk' => ?_, HG3.out.1.kept hq, bl_via HG3.out.2.1 hq⟩
                          by_cases e : k' = k
                          · rw [e]
                            exact HAC.out.2 hsm
                          · exact HG.out.1 k' (by omega)
              · have ik : ¬ (k : Int) < 3 := by omega
                go_wp2
                go_roundg (L.length - (i + 1))
                case measure => omega
                case rel =>
                  refine ⟨i + 1, by omega, rfl, by go_num, fun i' hi' => ?_, HG.out.2.2.1⟩
                  by_cases e : i' = i
                  · rw [e]
                    exact ⟨HOKi.out, fun k' hk' => HG.out.1 k' (by omega)⟩
                  · exact HB.out.1 i' (by omega)
          · go_wp2
            go_ret
            refine ⟨false, rfl, ?_, HBc.out.2⟩
            simp only [Bool.false_eq_true, false_iff]
            intro hall
            have := HBB.out.2 (hall.2 i hi1).1
            cases this
      · have i1 : ¬ (i : Int) < (L.length : Int) := by omega
        obtain rfl : i = L.length := by omega
        go_wp2
        go_ret
        exact ⟨true, rfl, ⟨fun _ => ⟨rfl, HB.out.1⟩, fun _ => rfl⟩, HB.out.2.2⟩
  · have qn : ((mn : Int) != (L.length : Int)) = true := by
      rw [bne_iff_ne]
      omega
    have HNE : Hid (mn ≠ L.length) := hmn
    clear hmn
    go_wp2
    go_ret
    refine ⟨false, rfl, ?_, HW.out.2.1⟩
    simp only [Bool.false_eq_true, false_iff]
    exact fun h => HNE.out h.1
end Go.Proofs.YtnpboeodhpenmaaGreatDoor
