/- Where each triangle comes to: the reference's rounds. -/
import Derived.Test.YtmjneoaciopioaaDoorQlby
namespace Go.Proofs.YtmjneoaciopioaaDoor
open Go.RowKit Go.ChangeMaps

set_option maxRecDepth 100000 in
set_option maxHeartbeats 12800000 in
theorem placeAll_any (W H b off cap n ccap : Nat) (cb : Option Addr) (zs ks : List Int) (w : World) (hr : Row w (some ⟨b, off, none⟩) zs) (hW : 1 ≤ W ∧ W ≤ 8) (hH : 1 ≤ H ∧ H ≤ 8) (hl : zs.length = W * H) (hm : maskB zs = true) (hC : CRow w cb ks n) (h1 : CrOne ks n) (hn2 : n ≤ 3518437208883) (hJ : Joined (ty zs W H)) :
    Calls Tryd.prog 20 #[.agg #[.int .i64 (W : Int), .int .i64 (H : Int), .slice (some ⟨b, off, none⟩) zs.length cap, .slice cb n ccap]] w fun e w' => Below w.heap.size w w' ∧ ((∃ M g, Cons (kdn ks n) (ty zs W H) M ∧ e = .returned (.tuple #[.slice (some ⟨g, 0, none⟩) (ty zs W H).length (ty zs W H).length, .bool true]) ∧ MRow w' g (ty zs W H).length M) ∨ ((¬ ∃ N, Cons (kdn ks n) (ty zs W H) N) ∧ e = .returned (.tuple #[.slice none 0 0, .bool false]))) := by
  have C29 : Hid (∀ W' : World, Below w.heap.size w W' → Calls Tryd.prog 30 #[.agg #[.int .i64 (W : Int), .int .i64 (H : Int), .slice (some ⟨b, off, none⟩) zs.length cap, .slice cb n ccap]] W' fun e w' => ∃ v, e = .returned v ∧ w'.ownsRow (W'.heap.size + 1) 80 3 v (ty zs W H).length (flatV (ty zs W H)) ∧ Below W'.heap.size W' w') := fun W' hW' => trisOf_any W H b off cap zs _ W' (hr.kept hW') hW hH hl hm
  have CK : Hid (∀ (W' : World) (p q r s : Int), Below w.heap.size w W' → Calls Tryd.prog 36 #[.agg #[.int .i64 (W : Int), .int .i64 (H : Int), .slice (some ⟨b, off, none⟩) zs.length cap, .slice cb n ccap], .agg #[.int .i64 p, .int .i64 q, .int .i64 r, .int .i64 s]] W' fun e w' => e = .returned (.int .i64 (kdn ks n (p, q, r, s))) ∧ Below W'.heap.size W' w') := fun W' p q r s hW' => kindOf_any W' _ _ _ cb n ccap ks p q r s (hC.kept hW') h1 hn2
  have HBD : Hid (∀ t ∈ ty zs W H, (0 ≤ t.1 ∧ t.1 ≤ 8) ∧ (0 ≤ t.2.1 ∧ t.2.1 ≤ 8) ∧ (0 ≤ t.2.2 ∧ t.2.2 ≤ 3)) := ty_bd hW.2 hH.2
  have HND : Hid ((ty zs W H).Nodup ∧ Joined (ty zs W H)) := ⟨ty_nodup zs W H, hJ⟩
  have hlen : (ty zs W H).length ≤ 256 := by have := ty_len zs W H hW.2; omega
  have h0 : 0 < (ty zs W H).length := hJ.1
  obtain ⟨i6, hi6, hz60, hz61, hz62⟩ := info_parts inf59
  have HI6 : Hid (Tryd.prog.info? 59 = some i6 ∧ i6.zero = some (.agg #[.int .i64 0, .int .i64 0, .int .i64 0, .int .i64 0, .int .i64 0, .int .i64 0]) ∧ i6.size = 6 ∧ i6.bytes = 48) := ⟨hi6, hz60, hz61, hz62⟩
  obtain ⟨i4, hi4, hz40, hz41, hz42⟩ := info_parts inf4
  have HI4 : Hid (Tryd.prog.info? 4 = some i4 ∧ i4.zero = some (.bool false) ∧ i4.size = 1 ∧ i4.bytes = 1) := ⟨hi4, hz40, hz41, hz42⟩
  obtain ⟨kd, hkd⟩ : ∃ kd, kd = kdn ks n := ⟨_, rfl⟩
  rw [← hkd] at CK ⊢
  obtain ⟨L, hL⟩ : ∃ L, L = ty zs W H := ⟨_, rfl⟩
  rw [← hL] at C29 HBD HND hlen h0 ⊢
  clear hr hW hH hl hm hC h1 hJ hL hkd hi6 hz60 hz61 hz62 hi4 hz40 hz41 hz42
  have il0 : (0 : Int) < (L.length : Int) := by omega
  have hnq := neqM
  go_enter Tryd.func20, Tryd.ntmps20
  go_wp2_with (first
    | (go_at_call 30; refine (C29.out _ (by with_reducible exact bl_alloc (bl_refl _))).mono ?_; rintro e w1 ⟨v, rfl, ho, hb⟩; obtain ⟨a, ca, rfl, hT⟩ := own_tris ho; have HW : Hid (TRow w1 a L ∧ Below w.heap.size w w1 ∧ Sh w1 w.heap.size (.int .i64 (W : Int)) (.int .i64 (H : Int)) (.slice (some ⟨b, off, none⟩) zs.length cap) (.slice cb n ccap)) := ⟨hT, bl_via (bl_alloc (bl_refl _)) hb, Sh.kept (by simp [Sh, go_sem]) hb⟩; clear hT ho hb)
    | (at_make; refine wpList_make_full _ rfl (.tmp 18) (.tmp 18) 53 rfl w1.heap.size 59 i6 (.agg #[.int .i64 0, .int .i64 0, .int .i64 0, .int .i64 0, .int .i64 0, .int .i64 0]) 6 Tryd.underlying53 HI6.out.1 HI6.out.2.1 HI6.out.2.2.1 .i64 .i64 _ _ L.length rfl rfl rfl rfl ?b2 ?b3 ?b4 ?mk))
  case b2 =>
    rw [HI6.out.2.2.2]
    omega
  case b3 =>
    unfold maxLen
    omega
  case b4 => exact Nat.le_refl _
  case mk =>
    intro w2 ho hg
    have hrow := maps_made ho
    have hlt : w1.heap.size < w2.heap.size := World.block_lt_of_cell? _ _ (hrow 0 h0).1.1
    have hbl : Below w1.heap.size w1 w2 := (Below.refl _ _).grown hg (Nat.le_refl _) (fun k h => by cases h)
    have HW2 : Hid (MRow w2 w1.heap.size L.length (fun _ => noM) ∧ Below w1.heap.size w1 w2) := ⟨hrow, hbl⟩
    clear ho hg hrow hbl
    go_wp2_with (at_make; refine wpList_make_full _ rfl (.tmp 21) (.tmp 21) 93 rfl w2.heap.size 4 i4 (.bool false) 1 Tryd.underlying93 HI4.out.1 HI4.out.2.1 HI4.out.2.2.1 .i64 .i64 _ _ L.length rfl rfl rfl rfl ?d2 ?d3 ?d4 ?mk2)
    case d2 =>
      rw [HI4.out.2.2.2]
      omega
    case d3 =>
      unfold maxLen
      omega
    case d4 => exact Nat.le_refl _
    case mk2 =>
      intro w3 ho hg
      have hrow := bools_made (by simpa using ho)
      have hlt3 : w2.heap.size < w3.heap.size := World.block_lt_of_cell? _ _ (hrow 0 h0).1
      have hbl : Below w2.heap.size w2 w3 := (Below.refl _ _).grown hg (Nat.le_refl _) (fun k h => by cases h)
      have HW3 : Hid (AM w1 w3 w1.heap.size w2.heap.size L.length (fun _ => noM) []) := ⟨HW2.out.1.kept hbl, hrow, bl_via HW2.out.2 hbl, Nat.le_refl _, hlt, hlt3⟩
      obtain ⟨⟨a0, a1, a2, a3, a4, a5⟩, b0, b1, b2, b3, b4, b5⟩ := HW3.out.1 0 h0
      simp only [Nat.zero_mul, Nat.zero_add, noM] at a0 a1 a2 a3 a4 a5 b0 b1 b2 b3 b4 b5
      obtain ⟨k0, k1⟩ := HW3.out.2.1 0 h0
      have k0' : w3.cell? ⟨w2.heap.size, 0, none⟩ = some (.bool false) := by simpa using k0
      have hlt1 : w1.heap.size < w3.heap.size := by omega
      have hne : w1.heap.size ≠ w2.heap.size := by omega
      have hne' : w2.heap.size ≠ w1.heap.size := by omega
      obtain ⟨g5, hg5⟩ : ∃ g, g = w1.heap.size := ⟨_, rfl⟩
      obtain ⟨g6, hg6⟩ : ∃ g, g = w2.heap.size := ⟨_, rfl⟩
      rw [← hg5, ← hg6] at HW3
      rw [← hg5] at a0 a1 a2 a3 a4 a5 b0 b1 b2 b3 b4 b5 hne hne' hlt1
      rw [← hg6] at k0' k1 hne hne' hlt3
      rw [← hg5, ← hg6]
      clear ho hg hrow hbl HW2 k0 hlt hg5 hg6
      go_wp2
      go_loopg [7] (L.length + 1) (fun gk s7 wx => ∃ (rd : Nat) (K : List Nat) (M : Nat → M6), rd ≤ L.length + 1 ∧ gk = L.length + 1 - rd ∧ s7 = .int .i64 (rd : Int) ∧ MI kd L K M ∧ (rd + 1 ≤ K.length ∨ L.length ≤ K.length) ∧ (rd = L.length + 1 → Cons kd L M) ∧ AM w1 wx g5 g6 L.length M K)
      case atStart =>
        refine ⟨0, [0], fun q => if q = 0 then idM else noM, by omega, rfl, rfl, MI.start h0 (by simp), Or.inl (by simp), fun h => by omega, ?_⟩
        exact HW3.out.told (K' := [0]) h0 idM (fun q => by simp)
      case round =>
        clear HW3 a0 a1 a2 a3 a4 a5 b0 b1 b2 b3 b4 b5 k0' k1 hne hne' hlt3 hlt1
        obtain ⟨rd, K, M, hrd, rfl, rfl, hI, hK, hCo, hM⟩ := hrel
        have HS1 : Hid (MI kd L K M ∧ (rd + 1 ≤ K.length ∨ L.length ≤ K.length) ∧ (rd = L.length + 1 → Cons kd L M) ∧ AM w1 wr g5 g6 L.length M K) := ⟨hI, hK, hCo, hM⟩
        clear hI hK hCo hM
        by_cases hr1 : rd ≤ L.length
        · have ir : (rd : Int) ≤ (L.length : Int) := by omega
          go_wp2
          go_loopg [8] L.length (fun gk s8 wx => ∃ (i : Nat) (X : List Nat) (M' : Nat → M6), i ≤ L.length ∧ gk = L.length - i ∧ s8 = .int .i64 (i : Int) ∧ MI kd L (K ++ X) M' ∧ (∀ i', i' < i → i' ∈ K → EdN kd L (K ++ X) M' i' 3) ∧ AM w1 wx g5 g6 L.length M' (K ++ X))
          case atStart => exact ⟨0, [], M, by omega, rfl, rfl, by simpa using HS1.out.1, fun i' h => by omega, by simpa using HS1.out.2.2.2⟩
          case round =>
            obtain ⟨i, X, M', hi, rfl, rfl, hI, hE, hM⟩ := hrel
            have HS2 : Hid (MI kd L (K ++ X) M' ∧ (∀ i', i' < i → i' ∈ K → EdN kd L (K ++ X) M' i' 3) ∧ AM w1 wr g5 g6 L.length M' (K ++ X)) := ⟨hI, hE, hM⟩
            clear hI hE hM
            by_cases hi1 : i < L.length
            · have i1 : (i : Int) < (L.length : Int) := by omega
              have i0 : (0 : Int) ≤ (i : Int) := by omega
              obtain ⟨kc0, kf0⟩ := HS2.out.2.2.2.1 i hi1
              have zk : g6 < wr.heap.size := World.block_lt_of_cell? _ _ kc0
              by_cases hik : i ∈ K ++ X
              · have kc1 : wr.cell? ⟨g6, i, none⟩ = some (.bool true) := by rw [kc0]; simp only [decide_eq_true hik]
                clear kc0
                obtain ⟨ga, rfl, t0, t1, t2⟩ := (HW.out.1.kept HS2.out.2.2.2.2.1) i hi1
                obtain ⟨t, ht⟩ : ∃ t, t = L[i] := ⟨_, rfl⟩
                obtain ⟨x, y, kk⟩ := t
                have hbd := HBD.out _ (List.getElem_mem hi1)
                rw [← ht] at t0 t1 t2 hbd
                dsimp only at t0 t1 t2 hbd
                have HT : Hid ((x, y, kk) = L[i]) := ht
                have zt : ga < wr.heap.size := World.block_lt_of_cell? _ _ t0
                have HTB : Hid (triB x y kk = true ∧ Kd (x, y, kk)) := by
                  have : triB x y kk = true ∧ Kd (x, y, kk) := ⟨by simp [triB]; omega, hbd.2.2⟩
                  exact this
                have C31 : Hid (∀ W' : World, Calls Tryd.prog 32 #[.agg #[.int .i64 x, .int .i64 y, .int .i64 kk]] W' fun e w' => ∃ g, e = .returned (.slice (some ⟨g, 0, none⟩) 3 3) ∧ W'.heap.size ≤ g ∧ Twl w' g (ue0 x y kk) (ue1 x y kk) (ue2 x y kk) (ue3 x y kk) (ue4 x y kk) (ue5 x y kk) (ue6 x y kk) (ue7 x y kk) (ue8 x y kk) (ue9 x y kk) (ue10 x y kk) (ue11 x y kk) ∧ Below W'.heap.size W' w') := fun W' => edgesOf_any x y kk W' (by omega) (by omega) (by omega) (by omega) (by omega) (by omega)
                have HIK : Hid (i ∈ K ++ X) := hik
                clear ht hbd hik
                go_wp2_with (go_at_call 32; refine (C31.out _).mono ?_; rintro e w4 ⟨ge, rfl, hge, hTw, hb⟩; have HG4 : Hid (AM w1 w4 g5 g6 L.length M' (K ++ X) ∧ E3 w4 ge (x, y, kk)) := ⟨HS2.out.2.2.kept hb, hTw.e3⟩; have hgg : g6 < ge := (by omega); clear hge hTw hb)
                go_loopg [10] 3 (fun gk s10 wx => ∃ (k : Nat) (Y : List Nat) (N : Nat → M6), k ≤ 3 ∧ gk = 3 - k ∧ s10 = .int .i64 (k : Int) ∧ MI kd L (K ++ Y) N ∧ (∀ i', i' < i → i' ∈ K → EdN kd L (K ++ Y) N i' 3) ∧ (i ∈ K ++ Y ∧ EdN kd L (K ++ Y) N i k) ∧ AM w1 wx g5 g6 L.length N (K ++ Y) ∧ E3 wx ge (x, y, kk))
                case atStart => exact ⟨0, X, M', by omega, rfl, rfl, HS2.out.1, HS2.out.2.1, ⟨HIK.out, fun k h => by omega⟩, HG4.out.1, HG4.out.2⟩
                case round =>
                  clear HG4 HS2 C31 HIK t0 t1 t2 zt kc1 kf0 zk
                  obtain ⟨k, Y, N, hk, rfl, rfl, hI, hE, hEd, hM, hE3⟩ := hrel
                  have HS3 : Hid (MI kd L (K ++ Y) N ∧ (∀ i', i' < i → i' ∈ K → EdN kd L (K ++ Y) N i' 3) ∧ (i ∈ K ++ Y ∧ EdN kd L (K ++ Y) N i k)) := ⟨hI, hE, hEd⟩
                  have HG : Hid (AM w1 wr g5 g6 L.length N (K ++ Y) ∧ E3 wr ge (x, y, kk)) := ⟨hM, hE3⟩
                  clear hI hE hEd hM hE3
                  by_cases hk1 : k < 3
                  · have ik : (k : Int) < 3 := by omega
                    have ik0 : (0 : Int) ≤ (k : Int) := by omega
                    obtain ⟨ga', ea, t0, t1, t2⟩ := (HW.out.1.kept HG.out.1.2.2.1) i hi1
                    simp only [Option.some.injEq, Addr.mk.injEq, and_true] at ea
                    subst ea
                    rw [← HT.out] at t0 t1 t2
                    dsimp only at t0 t1 t2
                    obtain ⟨m0, m1, m2, m3⟩ := HG.out.2 k hk1
                    obtain ⟨q0, q1, q2, q3, hq⟩ : ∃ q0 q1 q2 q3, edg (x, y, kk) k = (q0, q1, q2, q3) := ⟨_, _, _, _, rfl⟩
                    rw [hq] at m0 m1 m2 m3
                    dsimp only at m0 m1 m2 m3
                    have hhb : hasB x y kk q0 q1 q2 q3 = true := by
                      have h9 := edg_own (x, y, kk) k
                      rw [hq] at h9
                      exact h9
                    have HQ : Hid (edg (x, y, kk) k = (q0, q1, q2, q3) ∧ hasB x y kk q0 q1 q2 q3 = true) := ⟨hq, hhb⟩
                    obtain ⟨ux, hux⟩ : ∃ u, u = acX x y kk q0 q1 q2 q3 := ⟨_, rfl⟩
                    obtain ⟨uy, huy⟩ : ∃ u, u = acY x y kk q0 q1 q2 q3 := ⟨_, rfl⟩
                    obtain ⟨uk, huk⟩ : ∃ u, u = acK x y kk q0 q1 q2 q3 := ⟨_, rfl⟩
                    have CA : Hid (∀ W' : World, Calls Tryd.prog 43 #[.agg #[.int .i64 x, .int .i64 y, .int .i64 kk], .agg #[.int .i64 q0, .int .i64 q1, .int .i64 q2, .int .i64 q3]] W' fun e w' => e = .returned (.tuple #[.agg #[.int .i64 ux, .int .i64 uy, .int .i64 uk], .bool true]) ∧ Below W'.heap.size W' w') := fun W' => by
                      rw [hux, huy, huk]
                      exact acrossOf_yes x y kk q0 q1 q2 q3 W' HTB.out.1 hhb
                    have HU : Hid (acr L[i] (edg L[i] k) = (ux, uy, uk)) := by
                      have : acr L[i] (edg L[i] k) = (ux, uy, uk) := by
                        rw [← HT.out, hq, hux, huy, huk]
                        rfl
                      exact this
                    have zt : ga < wr.heap.size := World.block_lt_of_cell? _ _ t0
                    have ze : ge < wr.heap.size := World.block_lt_of_cell? _ _ m0
                    clear hq hhb hux huy huk
                    go_wp2
                    go_cut [11, 12] (fun sa sb wx => ∃ g11 : Nat, sa = .pointer (some ⟨g11, 0, none⟩) ∧ sb = .bool true ∧ Tr wx g11 ux uy uk ∧ Below wr.heap.size wr wx)
                    case first =>
                      go_region_held3 (fun w' => w'.cell? ⟨ga, i * 3, none⟩ = some (.int .i64 x) ∧ w'.cell? ⟨ga, i * 3 + 1, none⟩ = some (.int .i64 y) ∧ w'.cell? ⟨ga, i * 3 + 2, none⟩ = some (.int .i64 kk) ∧ w'.cell? ⟨ge, k * 4, none⟩ = some (.int .i64 q0) ∧ w'.cell? ⟨ge, k * 4 + 1, none⟩ = some (.int .i64 q1) ∧ w'.cell? ⟨ge, k * 4 + 2, none⟩ = some (.int .i64 q2) ∧ w'.cell? ⟨ge, k * 4 + 3, none⟩ = some (.int .i64 q3))
                        ((refine ⟨?_, ?_, ?_, ?_, ?_, ?_, ?_⟩ <;> (repeat' (first | (with_reducible assumption) | (with_reducible refine st_far ?_ ?_) | (dsimp only; omega) | (simp [go_sem]; done) | (with_reducible refine al_old ?_) | (with_reducible refine dr_old ?_)))))
                        ((go_at_call 43; refine (CA.out _).mono ?_; rintro e w8 ⟨rfl, hb⟩; have t0_8 : w8.cell? ⟨ga, i * 3, none⟩ = some (.int .i64 x) := cl_kept hb (by with_reducible (repeat (first | assumption | refine dr_old ?_ | refine al_old ?_))); have t1_8 : w8.cell? ⟨ga, i * 3 + 1, none⟩ = some (.int .i64 y) := cl_kept hb (by with_reducible (repeat (first | assumption | refine dr_old ?_ | refine al_old ?_))); have t2_8 : w8.cell? ⟨ga, i * 3 + 2, none⟩ = some (.int .i64 kk) := cl_kept hb (by with_reducible (repeat (first | assumption | refine dr_old ?_ | refine al_old ?_))); have m0_8 : w8.cell? ⟨ge, k * 4, none⟩ = some (.int .i64 q0) := cl_kept hb (by with_reducible (repeat (first | assumption | refine dr_old ?_ | refine al_old ?_))); have m1_8 : w8.cell? ⟨ge, k * 4 + 1, none⟩ = some (.int .i64 q1) := cl_kept hb (by with_reducible (repeat (first | assumption | refine dr_old ?_ | refine al_old ?_))); have m2_8 : w8.cell? ⟨ge, k * 4 + 2, none⟩ = some (.int .i64 q2) := cl_kept hb (by with_reducible (repeat (first | assumption | refine dr_old ?_ | refine al_old ?_))); have m3_8 : w8.cell? ⟨ge, k * 4 + 3, none⟩ = some (.int .i64 q3) := cl_kept hb (by with_reducible (repeat (first | assumption | refine dr_old ?_ | refine al_old ?_))); (first | (have hfz := fresh_a (g := wr.heap.size) rfl hb; obtain ⟨fy0, fy1, fy2, fz0, fz1, fz2, fz3⟩ := hfz) | (have hfz := fresh_d (g := wr.heap.size) rfl hb; obtain ⟨fy0, fy1, fy2, fz0, fz1, fz2, fz3⟩ := hfz) | (have hfz := fresh_dd (g := wr.heap.size) rfl hb; obtain ⟨fy0, fy1, fy2, fz0, fz1, fz2, fz3⟩ := hfz) | skip); have hq8 : Below wr.heap.size wr w8 := (by with_reducible (first | exact hb | exact bl_undrew hb | exact bl_undrew (bl_undrew hb) | exact bl_via (bl_alloc (bl_refl _)) hb | exact bl_via (bl_drew (bl_alloc (bl_refl _))) hb | exact bl_via (bl_alloc (bl_drew (bl_refl _))) hb | exact bl_via (bl_drew (bl_alloc (bl_drew (bl_refl _)))) hb)); have HQ8 : Hid (Below wr.heap.size wr w8) := hq8; have zs0 : ga < w8.heap.size := World.block_lt_of_cell? _ _ t0_8; have zs1 : ge < w8.heap.size := World.block_lt_of_cell? _ _ m0_8; clear hb hq8))
                      all_goals
                        go_wp2
                        go_meet
                        case rel =>
                          refine ⟨_, rfl, rfl, ?_, ?_⟩
                          · first | (simp [Tr, go_sem]; done) | (simp [Tr, go_sem, *]; done)
                          · with_reducible repeat' (first | exact HQ8.out | refine bl_set ?_ ?_ | refine bl_alloc ?_ | refine bl_drew ?_)
                            all_goals (first | omega | (dsimp only; omega) | (simp; done))
                    case rest =>
                      obtain ⟨g11, rfl, rfl, hTr, hBc⟩ := hcut
                      have HG1 : Hid (AM w1 wc g5 g6 L.length N (K ++ Y) ∧ E3 wc ge (x, y, kk)) := ⟨HG.out.1.kept hBc, HG.out.2.kept hBc⟩
                      obtain ⟨n0, n1, n2⟩ := hTr
                      have zn : g11 < wc.heap.size := World.block_lt_of_cell? _ _ n0
                      clear hBc HG CA t0 t1 t2 m0 m1 m2 m3 zt ze
                      rcases plc_bd L (ux, uy, uk) with hp | ⟨j, hj, hp⟩
                      · have C43 : Hid (∀ W' : World, TRow W' (some ⟨ga, 0, none⟩) L → Calls Tryd.prog 44 #[.slice (some ⟨ga, 0, none⟩) L.length ca, .agg #[.int .i64 ux, .int .i64 uy, .int .i64 uk]] W' fun e w' => e = .returned (.int .i64 (-1)) ∧ Below W'.heap.size W' w') := fun W' hT => hp ▸ placeOf_any _ ca L _ _ _ W' hT hlen
                        have HOK : Hid (EdN kd L (K ++ Y) N i (k + 1)) := HS3.out.2.2.2.step (fun hi' j hj hne hjt => by
                          exfalso
                          have e1 := acr_is (by rw [← HT.out]; exact HTB.out.2) (HBD.out _ (List.getElem_mem hj)).2.2 (edg_own L[i] k) hjt (fun e => hne (nodup_inj HND.out.1 hj hi' e).symm)
                          have e2 := plc_self HND.out.1 hj
                          rw [e1, HU.out, hp] at e2
                          omega)
                        clear hp
                        go_wp2_with (go_at_call 44; refine (C43.out _ (HW.out.1.kept HG1.out.1.2.2.1)).mono ?_; rintro e w10 ⟨rfl, hb⟩; have HG2 : Hid (AM w1 w10 g5 g6 L.length N (K ++ Y) ∧ E3 w10 ge (x, y, kk)) := ⟨HG1.out.1.kept hb, HG1.out.2.kept hb⟩; clear hb)
                        go_roundg (3 - (k + 1))
                        case measure => omega
                        case rel => exact ⟨k + 1, Y, N, by omega, rfl, by go_num, HS3.out.1, HS3.out.2.1, ⟨HS3.out.2.2.1, HOK.out⟩, HG2.out.1, HG2.out.2⟩
                      · have C43 : Hid (∀ W' : World, TRow W' (some ⟨ga, 0, none⟩) L → Calls Tryd.prog 44 #[.slice (some ⟨ga, 0, none⟩) L.length ca, .agg #[.int .i64 ux, .int .i64 uy, .int .i64 uk]] W' fun e w' => e = .returned (.int .i64 (j : Int)) ∧ Below W'.heap.size W' w') := fun W' hT => hp ▸ placeOf_any _ ca L _ _ _ W' hT hlen
                        have hLj : L[j] = acr L[i] (edg L[i] k) := by rw [HU.out]; exact plc_get hj hp
                        have hadj := acr_adj (t := L[i]) (e := edg L[i] k) (by rw [← HT.out]; exact HTB.out.2) (edg_own _ _)
                        have HNE : Hid (i ≠ j ∧ hasT L[j] (edg L[i] k) = true) := ⟨fun e => hadj.2.1 (by rw [← hLj]; subst e; rfl), by rw [hLj]; exact hadj.1⟩
                        have HONE : Hid (∀ j' (hj' : j' < L.length), i ≠ j' → hasT L[j'] (edg L[i] k) = true → j' = j) := fun j' hj' hne' hjt' => by
                          have e1 := acr_is (by rw [← HT.out]; exact HTB.out.2) (HBD.out _ (List.getElem_mem hj')).2.2 (edg_own L[i] k) hjt' (fun e => hne' (nodup_inj HND.out.1 hj' hi1 e).symm)
                          exact nodup_inj HND.out.1 hj' hj (by rw [e1, hLj])
                        have HEL : Hid (edg L[i] k = (q0, q1, q2, q3)) := by rw [← HT.out]; exact HQ.out.1
                        have hgi := ((HS3.out.1.2.2.2.1 i HS3.out.2.2.1).2).mono (C := 800000) (by have := HS3.out.1.len; omega)
                        obtain ⟨A, B, C, D, E, F, hmi⟩ : ∃ A B C D E F, N i = (A, B, C, D, E, F) := ⟨_, _, _, _, _, _, rfl⟩
                        rw [hmi] at hgi
                        obtain ⟨f0, f1, f2, f3, f4, f5, hfar⟩ : ∃ f0 f1 f2 f3 f4 f5, farM kd (q0, q1, q2, q3) (A, B, C, D, E, F) = (f0, f1, f2, f3, f4, f5) := ⟨_, _, _, _, _, _, rfl⟩
                        have HFAR : Hid (farM kd (q0, q1, q2, q3) (N i) = (f0, f1, f2, f3, f4, f5)) := by rw [hmi]; exact hfar
                        have HMI : Hid (N i = (A, B, C, D, E, F)) := hmi
                        have j1 : (j : Int) < (L.length : Int) := by omega
                        have j0 : (0 : Int) ≤ (j : Int) := by omega
                        have hth : hasT (x, y, kk) (q0, q1, q2, q3) = true := HQ.out.2
                        have hb8 : (0 ≤ x ∧ x ≤ 8) ∧ (0 ≤ y ∧ y ≤ 8) ∧ (0 ≤ kk ∧ kk ≤ 3) := by
                          have := HBD.out _ (List.getElem_mem hi1)
                          rw [← HT.out] at this
                          exact this
                        obtain ⟨z, hz⟩ : ∃ z, z = kd (q0, q1, q2, q3) := ⟨_, rfl⟩
                        have CK2 : Hid (∀ W' : World, Below w1.heap.size w1 W' → Calls Tryd.prog 36 #[.agg #[.int .i64 (W : Int), .int .i64 (H : Int), .slice (some ⟨b, off, none⟩) zs.length cap, .slice cb n ccap], .agg #[.int .i64 q0, .int .i64 q1, .int .i64 q2, .int .i64 q3]] W' fun e w' => e = .returned (.int .i64 z) ∧ Below W'.heap.size W' w') := fun W' hW' => by
                          rw [hz]
                          exact CK.out W' q0 q1 q2 q3 (bl_via HW.out.2.1 hW')
                        have HZF : Hid (z = kd (q0, q1, q2, q3) ∧ GoodM (A, B, C, D, E, F) 800000 ∧ hasT (x, y, kk) (q0, q1, q2, q3) = true ∧ ((0 ≤ x ∧ x ≤ 8) ∧ (0 ≤ y ∧ y ≤ 8) ∧ (0 ≤ kk ∧ kk ≤ 3)) ∧ farM kd (q0, q1, q2, q3) (A, B, C, D, E, F) = (f0, f1, f2, f3, f4, f5)) := ⟨hz, hgi, hth, hb8, hfar⟩
                        clear hp hLj hadj hgi hmi hfar hz hth hb8
                        go_wp2_with (go_at_call 44; refine (C43.out _ (HW.out.1.kept HG1.out.1.2.2.1)).mono ?_; rintro e w10 ⟨rfl, hb⟩; have HG2 : Hid (AM w1 w10 g5 g6 L.length N (K ++ Y) ∧ E3 w10 ge (x, y, kk)) := ⟨HG1.out.1.kept hb, HG1.out.2.kept hb⟩; have hrow := (HG2.out.1.1 i hi1).1; rw [HMI.out] at hrow; obtain ⟨y0, y1, y2, y3, y4, y5⟩ := hrow; dsimp only at y0 y1 y2 y3 y4 y5; have zy : g5 < w10.heap.size := World.block_lt_of_cell? _ _ y0; clear hb)
                        refine wp_named (fun W0 hW0 => ?_)
                        have HB0 : Hid (Below w10.heap.size w10 W0) := by
                          have : Below w10.heap.size w10 W0 := by rw [hW0]; exact bl_alloc (bl_refl _)
                          exact this
                        obtain ⟨b14, hb14⟩ : ∃ b, b = w10.heap.size := ⟨_, rfl⟩
                        have HM14 : Hid ((∀ o, o < 6 → W0.frozen? ⟨b14, o, none⟩ = false ∧ W0.cell? ⟨b14, o, none⟩ = some (.int .i64 ([A, B, C, D, E, F].getD o 0))) ∧ b14 < W0.heap.size) := by
                          have : (∀ o, o < 6 → W0.frozen? ⟨b14, o, none⟩ = false ∧ W0.cell? ⟨b14, o, none⟩ = some (.int .i64 ([A, B, C, D, E, F].getD o 0))) ∧ b14 < W0.heap.size := by
                            rw [hW0, hb14]
                            refine ⟨fun o ho => ?_, by simp⟩
                            rcases six_cases ho with rfl | rfl | rfl | rfl | rfl | rfl <;> simp [go_sem]
                          exact this
                        have HB14 : Hid (g6 < b14) := by rw [hb14]; exact HG2.out.1.2.2.2.2.2
                        have zw14 : w10.heap.size ≤ b14 := by omega
                        have zgeb : ge < b14 := by rw [hb14]; exact World.block_lt_of_cell? _ _ (HG2.out.2 k hk1).1
                        have z5b : g5 < b14 := by rw [hb14]; exact zy
                        obtain ⟨m0, m1, m2, m3⟩ := (HG2.out.2.kept HB0.out) k hk1
                        rw [HQ.out.1] at m0 m1 m2 m3
                        dsimp only at m0 m1 m2 m3
                        obtain ⟨s0, s1, s2, s3⟩ := HW.out.2.2.kept (bl_via HG2.out.1.2.2.1 HB0.out)
                        replace y0 := cl_kept HB0.out y0
                        replace y1 := cl_kept HB0.out y1
                        replace y2 := cl_kept HB0.out y2
                        replace y3 := cl_kept HB0.out y3
                        replace y4 := cl_kept HB0.out y4
                        replace y5 := cl_kept HB0.out y5
                        have zge : ge < W0.heap.size := World.block_lt_of_cell? _ _ m0
                        have zsh : w.heap.size < W0.heap.size := World.block_lt_of_cell? _ _ s0
                        have zyy : g5 < W0.heap.size := World.block_lt_of_cell? _ _ y0
                        rw [← hb14]
                        clear hW0 hb14 zy
                        have kc := Kin.cells W0
                        have kn : Nonempty (Kin W0) := ⟨⟨W0, bl_refl _⟩⟩
                        have HKB : Hid (Below w1.heap.size w1 W0) := bl_via HG2.out.1.2.2.1 HB0.out
                        refine wp_region_kin (by kernel_rfl) (by kernel_rfl) ?_
                        repeat (go_big_quiet_step ((go_at_call 36; exact kin_of (CK2.out _ (bl_via HKB.out (Kin.h _))))))
                        refine wpQuiet_nil ?_
                        intro wq hw'
                        obtain ⟨nq, hw''⟩ := hw'
                        have hqq : Below W0.heap.size W0 wq := hw'' ▸ nq.h
                        have HQQ : Hid (Below W0.heap.size W0 wq) := hqq
                        clear hw'' nq hqq kc kn s0 s1 s2 s3 zsh
                        by_cases hz0 : z = 0
                        · have hfe : (A, B, C, D, E, F) = (f0, f1, f2, f3, f4, f5) := by
                            have := HZF.out.2.2.2.2
                            simp only [farM, ← HZF.out.1, if_pos hz0] at this
                            exact this
                          have HZ : Hid (AM w1 wq g5 g6 L.length N (K ++ Y) ∧ E3 wq ge (x, y, kk) ∧ M1 wq b14 f0 f1 f2 f3 f4 f5 ∧ Below w1.heap.size w1 wq) := by
                            have hbb := bl_via HB0.out HQQ.out
                            simp only [Prod.mk.injEq] at hfe
                            obtain ⟨rfl, rfl, rfl, rfl, rfl, rfl⟩ := hfe
                            have : AM w1 wq g5 g6 L.length N (K ++ Y) ∧ E3 wq ge (x, y, kk) ∧ M1 wq b14 A B C D E F ∧ Below w1.heap.size w1 wq := ⟨HG2.out.1.kept hbb, HG2.out.2.kept hbb, ⟨cl_kept HQQ.out (HM14.out.1 0 (by omega)).2, cl_kept HQQ.out (HM14.out.1 1 (by omega)).2, cl_kept HQQ.out (HM14.out.1 2 (by omega)).2, cl_kept HQQ.out (HM14.out.1 3 (by omega)).2, cl_kept HQQ.out (HM14.out.1 4 (by omega)).2, cl_kept HQQ.out (HM14.out.1 5 (by omega)).2⟩, bl_via HG2.out.1.2.2.1 hbb⟩
                            exact this
                          clear hfe y0 y1 y2 y3 y4 y5 m0 m1 m2 m3 zge zyy
                          subst hz0
                          go_wp2
                          obtain ⟨⟨v0, v1, v2, v3, v4, v5⟩, b0, b1, b2, b3, b4, b5⟩ := HZ.out.1.1 j hj
                          obtain ⟨kc0, kf0⟩ := HZ.out.1.2.1 j hj
                          obtain ⟨g0, g1, g2, g3, g4, g5'⟩ := HZ.out.2.2.1
                          have z14 : b14 < wq.heap.size := World.block_lt_of_cell? _ _ g0
                          have zg5 : g5 < wq.heap.size := World.block_lt_of_cell? _ _ v0
                          have zg6 : g6 < wq.heap.size := World.block_lt_of_cell? _ _ kc0
                          have z56 : g5 < g6 := HZ.out.1.2.2.2.2.1
                          have hne1 : g5 ≠ b14 := by have := HB14.out; omega
                          have hne2 : g6 ≠ b14 := by have := HB14.out; omega
                          have hne3 : b14 ≠ g5 := by have := HB14.out; omega
                          have hne4 : b14 ≠ g6 := by have := HB14.out; omega
                          have hne5 : g5 ≠ g6 := by omega
                          have hne6 : g6 ≠ g5 := by omega
                          by_cases hjm : j ∈ K ++ Y
                          · have kc1 : wq.cell? ⟨g6, j, none⟩ = some (.bool true) := by rw [kc0]; simp only [decide_eq_true hjm]
                            clear kc0
                            obtain ⟨c0, c1, c2, c3, c4, c5, hmj⟩ : ∃ c0 c1 c2 c3 c4 c5, N j = (c0, c1, c2, c3, c4, c5) := ⟨_, _, _, _, _, _, rfl⟩
                            rw [hmj] at v0 v1 v2 v3 v4 v5
                            dsimp only at v0 v1 v2 v3 v4 v5
                            by_cases heq : (c0, c1, c2, c3, c4, c5) = (f0, f1, f2, f3, f4, f5)
                            · have hsm : sameM c0 c1 c2 c3 c4 c5 f0 f1 f2 f3 f4 f5 = true := by
                                simp only [Prod.mk.injEq] at heq
                                simp only [sameM, decide_eq_true_eq]
                                exact heq
                              have HOK : Hid (N j = (f0, f1, f2, f3, f4, f5) ∧ j ∈ K ++ Y) := ⟨by rw [hmj, heq], hjm⟩
                              clear heq hmj hjm
                              go_quiet (fail)
                              generalize hwd : World.drewN wq _ = wd
                              have hbd9 : Below wq.heap.size wq wd := by rw [← hwd]; exact bl_drewN (bl_refl _)
                              have HZd : Hid (AM w1 wd g5 g6 L.length N (K ++ Y) ∧ E3 wd ge (x, y, kk)) := ⟨HZ.out.1.kept hbd9, HZ.out.2.1.kept hbd9⟩
                              replace g0 := cl_kept hbd9 g0
                              replace g1 := cl_kept hbd9 g1
                              replace g2 := cl_kept hbd9 g2
                              replace g3 := cl_kept hbd9 g3
                              replace g4 := cl_kept hbd9 g4
                              replace g5' := cl_kept hbd9 g5'
                              clear v0 v1 v2 v3 v4 v5 b0 b1 b2 b3 b4 b5 kc1 kf0 z14 zg5 zg6 hbd9 hwd
                              obtain ⟨⟨v0, v1, v2, v3, v4, v5⟩, b0, b1, b2, b3, b4, b5⟩ := HZd.out.1.1 j hj
                              obtain ⟨kc0, kf0⟩ := HZd.out.1.2.1 j hj
                              have z14 : b14 < wd.heap.size := World.block_lt_of_cell? _ _ g0
                              have zg5 : g5 < wd.heap.size := World.block_lt_of_cell? _ _ v0
                              have zg6 : g6 < wd.heap.size := World.block_lt_of_cell? _ _ kc0
                              go_wp2
                              go_roundg (3 - (k + 1))
                              case measure => omega
                              case rel =>
                                have h9 := HZd.out.1.told (K' := K ++ Y) hj (f0, f1, f2, f3, f4, f5) (fun q => ⟨fun h => Or.inl h, fun h => by rcases h with h | rfl; exact h; exact HOK.out.2⟩)
                                rw [same_map HOK.out.1] at h9
                                have h8 : E3 ((set6 wd g5 j (f0, f1, f2, f3, f4, f5)).setCell ⟨g6, j, none⟩ (.bool true)) ge (x, y, kk) := (HZd.out.2.grown (set6_grown wd g5 j (f0, f1, f2, f3, f4, f5)) (by simp; omega)).grown (grown_cell _ g6 j _) (by simp; omega)
                                refine ⟨k + 1, Y, N, by omega, rfl, by go_num, HS3.out.1, HS3.out.2.1, ⟨HS3.out.2.2.1, HS3.out.2.2.2.step (fun hi' j' hj' hne' hjt' => ?_)⟩, h9, h8⟩
                                have e1 := HONE.out j' hj' hne' hjt'
                                subst e1
                                exact ⟨HOK.out.2, by rw [HOK.out.1, HEL.out]; exact HFAR.out.symm⟩
                            · have hsm : sameM c0 c1 c2 c3 c4 c5 f0 f1 f2 f3 f4 f5 = false := by
                                simp only [Prod.mk.injEq] at heq
                                simp only [sameM, decide_eq_false_iff_not]
                                exact heq
                              have HTE : Hid (¬ ∃ N, Cons kd L N) := HS3.out.1.tear (i := i) (j := j) HS3.out.2.2.1 hjm HNE.out.1 (e := edg L[i] k) (fun _ => edg_own _ _) (fun _ => HNE.out.2) (by rw [HEL.out, HFAR.out, hmj]; exact heq)
                              clear heq hmj hjm
                              go_quiet (fail)
                              go_wp2
                              exact bodyPost_ret (v := .tuple #[.slice none 0 0, .bool false]) (by simp [results, Tryd.results20, go_sem]) rfl ⟨bl_drewN (bl_via HW.out.2.1 HZ.out.1.2.2.1), Or.inr ⟨HTE.out, rfl⟩⟩
                          · have kc1 : wq.cell? ⟨g6, j, none⟩ = some (.bool false) := by rw [kc0]; simp only [decide_eq_false hjm]
                            clear kc0
                            have HF : Hid (MI kd L (K ++ (Y ++ [j])) (fun q => if q = j then (f0, f1, f2, f3, f4, f5) else N q) ∧ j ∉ K ++ Y) := by
                              have h9 := HS3.out.1.found (by omega) HBD.out (i := i) (j := j) HS3.out.2.2.1 hj hjm (e := edg L[i] k) (fun _ => edg_own _ _) HNE.out.2
                              rw [HEL.out, HFAR.out, List.append_assoc] at h9
                              exact ⟨h9, hjm⟩
                            clear hjm
                            go_quiet (fail)
                            generalize hwd : World.drewN wq _ = wd
                            have hbd9 : Below wq.heap.size wq wd := by rw [← hwd]; exact bl_drewN (bl_refl _)
                            have HZd : Hid (AM w1 wd g5 g6 L.length N (K ++ Y) ∧ E3 wd ge (x, y, kk)) := ⟨HZ.out.1.kept hbd9, HZ.out.2.1.kept hbd9⟩
                            replace g0 := cl_kept hbd9 g0
                            replace g1 := cl_kept hbd9 g1
                            replace g2 := cl_kept hbd9 g2
                            replace g3 := cl_kept hbd9 g3
                            replace g4 := cl_kept hbd9 g4
                            replace g5' := cl_kept hbd9 g5'
                            clear v0 v1 v2 v3 v4 v5 b0 b1 b2 b3 b4 b5 kc1 kf0 z14 zg5 zg6 hbd9 hwd
                            obtain ⟨⟨v0, v1, v2, v3, v4, v5⟩, b0, b1, b2, b3, b4, b5⟩ := HZd.out.1.1 j hj
                            obtain ⟨kc0, kf0⟩ := HZd.out.1.2.1 j hj
                            have z14 : b14 < wd.heap.size := World.block_lt_of_cell? _ _ g0
                            have zg5 : g5 < wd.heap.size := World.block_lt_of_cell? _ _ v0
                            have zg6 : g6 < wd.heap.size := World.block_lt_of_cell? _ _ kc0
                            go_wp2
                            go_roundg (3 - (k + 1))
                            case measure => omega
                            case rel =>
                              have h9 := HZd.out.1.told (K' := K ++ (Y ++ [j])) hj (f0, f1, f2, f3, f4, f5) (fun q => by simp [or_assoc])
                              have h8 : E3 ((set6 wd g5 j (f0, f1, f2, f3, f4, f5)).setCell ⟨g6, j, none⟩ (.bool true)) ge (x, y, kk) := (HZd.out.2.grown (set6_grown wd g5 j (f0, f1, f2, f3, f4, f5)) (by simp; omega)).grown (grown_cell _ g6 j _) (by simp; omega)
                              have hmono : ∀ q ∈ K ++ Y, q ∈ K ++ (Y ++ [j]) ∧ (fun q => if q = j then (f0, f1, f2, f3, f4, f5) else N q) q = N q := fun q hq => by
                                have h7 := found_mono (M := N) (v := (f0, f1, f2, f3, f4, f5)) HF.out.2 q hq
                                rw [List.append_assoc] at h7
                                exact h7
                              have hiY := HS3.out.2.2.1
                              have hni : i ≠ j := HNE.out.1
                              refine ⟨k + 1, Y ++ [j], (fun q => if q = j then (f0, f1, f2, f3, f4, f5) else N q), by omega, rfl, by go_num, HF.out.1, fun i' hi' hiK => (HS3.out.2.1 i' hi' hiK).mono (List.mem_append_left _ hiK) hmono, ⟨(hmono i hiY).1, (HS3.out.2.2.2.mono hiY hmono).step (fun hi' j' hj' hne' hjt' => ?_)⟩, h9, h8⟩
                              have e1 := HONE.out j' hj' hne' hjt'
                              subst e1
                              simp only [if_true, if_neg hni]
                              exact ⟨by simp, by rw [HEL.out]; exact HFAR.out.symm⟩
                        · have hgd := HZF.out.2.1
                          obtain ⟨V, hV3, hVw, hVc, hVe, hVn⟩ := line_along HZF.out.2.2.1 HZF.out.2.2.2.1
                          have hbde := edge_bd HZF.out.2.2.1 HZF.out.2.2.2.1
                          have hlm := line_may HZF.out.2.2.1 HZF.out.2.2.2.1
                          dsimp only at hbde
                          have hmm := mir_may hlm.1 hlm.2
                          obtain ⟨c, hc⟩ : ∃ c, c = alongOf (V : Int) q0 q1 := ⟨_, rfl⟩
                          have CLn : Hid (∀ W' : World, Calls Tryd.prog 47 #[.agg #[.int .i64 q0, .int .i64 q1, .int .i64 q2, .int .i64 q3]] W' fun e w' => e = .returned (.agg #[.int .i64 (V : Int), .int .i64 c]) ∧ Below W'.heap.size W' w') := fun W' => by
                            rw [hc]
                            exact refLine_any q0 q1 q2 q3 W' V hV3 ⟨hbde.1, hbde.2.1⟩ hbde.2.2 hVe hVn
                          rw [hVw, hVc, ← hc] at hlm hmm
                          obtain ⟨ma, mb, mc, md, me, mf, hmv⟩ : ∃ ma mb mc md me mf, mir (V : Int) c = (ma, mb, mc, md, me, mf) := ⟨_, _, _, _, _, _, rfl⟩
                          have CMi : Hid (∀ W' : World, Calls Tryd.prog 46 #[.agg #[.int .i64 (V : Int), .int .i64 c]] W' fun e w' => e = .returned (.agg #[.int .i64 ma, .int .i64 mb, .int .i64 mc, .int .i64 md, .int .i64 me, .int .i64 mf]) ∧ Below W'.heap.size W' w') := fun W' => by
                            have h := mirrorOf_any (V : Int) c W' hlm.1
                            simp only [mir, Prod.mk.injEq] at hmv
                            obtain ⟨rfl, rfl, rfl, rfl, rfl, rfl⟩ := hmv
                            refine h.mono ?_
                            rintro e w' ⟨rfl, o1, o2, rfl⟩
                            exact ⟨rfl, bl_alloc (bl_alloc (bl_refl _))⟩
                          rw [hmv] at hmm
                          have CAf : Hid (∀ W' : World, Calls Tryd.prog 45 #[.agg #[.int .i64 ma, .int .i64 mb, .int .i64 mc, .int .i64 md, .int .i64 me, .int .i64 mf], .agg #[.int .i64 A, .int .i64 B, .int .i64 C, .int .i64 D, .int .i64 E, .int .i64 F]] W' fun e w' => e = .returned (.agg #[.int .i64 f0, .int .i64 f1, .int .i64 f2, .int .i64 f3, .int .i64 f4, .int .i64 f5]) ∧ Below W'.heap.size W' w') := fun W' => by
                            have h := afterOf_any ma mb mc md me mf A B C D E F W' (map_bd hmm.1).1 (map_bd hgd.1).1 (map_bd hmm.1).2.1 (map_bd hgd.1).2.1
                            have hf := HZF.out.2.2.2.2
                            simp only [farM, ← HZF.out.1, if_neg hz0, hVw, hVc, ← hc, hmv, aft, Prod.mk.injEq] at hf
                            obtain ⟨rfl, rfl, rfl, rfl, rfl, rfl⟩ := hf
                            exact h
                          clear hgd hV3 hVw hVc hVe hVn hbde hlm hmm hc hmv
                          replace m0 := cl_kept HQQ.out m0
                          replace m1 := cl_kept HQQ.out m1
                          replace m2 := cl_kept HQQ.out m2
                          replace m3 := cl_kept HQQ.out m3
                          replace y0 := cl_kept HQQ.out y0
                          replace y1 := cl_kept HQQ.out y1
                          replace y2 := cl_kept HQQ.out y2
                          replace y3 := cl_kept HQQ.out y3
                          replace y4 := cl_kept HQQ.out y4
                          replace y5 := cl_kept HQQ.out y5
                          have zge2 : ge < wq.heap.size := World.block_lt_of_cell? _ _ m0
                          have zyy2 : g5 < wq.heap.size := World.block_lt_of_cell? _ _ y0
                          clear zge zyy
                          go_wp2
                          go_cut [14] (fun s14 wx => s14 = .pointer (some ⟨b14, 0, none⟩) ∧ M1 wx b14 f0 f1 f2 f3 f4 f5 ∧ Below w10.heap.size w10 wx)
                          case first =>
                            go_region_held3 (fun w' => w'.cell? ⟨ge, k * 4, none⟩ = some (.int .i64 q0) ∧ w'.cell? ⟨ge, k * 4 + 1, none⟩ = some (.int .i64 q1) ∧ w'.cell? ⟨ge, k * 4 + 2, none⟩ = some (.int .i64 q2) ∧ w'.cell? ⟨ge, k * 4 + 3, none⟩ = some (.int .i64 q3) ∧ w'.cell? ⟨g5, i * 6, none⟩ = some (.int .i64 A) ∧ w'.cell? ⟨g5, i * 6 + 1, none⟩ = some (.int .i64 B) ∧ w'.cell? ⟨g5, i * 6 + 2, none⟩ = some (.int .i64 C) ∧ w'.cell? ⟨g5, i * 6 + 3, none⟩ = some (.int .i64 D) ∧ w'.cell? ⟨g5, i * 6 + 4, none⟩ = some (.int .i64 E) ∧ w'.cell? ⟨g5, i * 6 + 5, none⟩ = some (.int .i64 F))
                              ((refine ⟨?_, ?_, ?_, ?_, ?_, ?_, ?_, ?_, ?_, ?_⟩ <;> (repeat' (first | (with_reducible assumption) | (with_reducible refine st_far ?_ ?_) | (dsimp only; omega) | (simp [go_sem]; done) | (with_reducible refine al_old ?_) | (with_reducible refine dr_old ?_)))))
                              (first
                                | (go_at_call 47; refine (CLn.out _).mono ?_; rintro e w8 ⟨rfl, hb⟩; have m0_w8 : w8.cell? ⟨ge, k * 4, none⟩ = some (.int .i64 q0) := cl_kept hb (by with_reducible (repeat (first | assumption | refine dr_old ?_ | refine al_old ?_))); have m1_w8 : w8.cell? ⟨ge, k * 4 + 1, none⟩ = some (.int .i64 q1) := cl_kept hb (by with_reducible (repeat (first | assumption | refine dr_old ?_ | refine al_old ?_))); have m2_w8 : w8.cell? ⟨ge, k * 4 + 2, none⟩ = some (.int .i64 q2) := cl_kept hb (by with_reducible (repeat (first | assumption | refine dr_old ?_ | refine al_old ?_))); have m3_w8 : w8.cell? ⟨ge, k * 4 + 3, none⟩ = some (.int .i64 q3) := cl_kept hb (by with_reducible (repeat (first | assumption | refine dr_old ?_ | refine al_old ?_))); have y0_w8 : w8.cell? ⟨g5, i * 6, none⟩ = some (.int .i64 A) := cl_kept hb (by with_reducible (repeat (first | assumption | refine dr_old ?_ | refine al_old ?_))); have y1_w8 : w8.cell? ⟨g5, i * 6 + 1, none⟩ = some (.int .i64 B) := cl_kept hb (by with_reducible (repeat (first | assumption | refine dr_old ?_ | refine al_old ?_))); have y2_w8 : w8.cell? ⟨g5, i * 6 + 2, none⟩ = some (.int .i64 C) := cl_kept hb (by with_reducible (repeat (first | assumption | refine dr_old ?_ | refine al_old ?_))); have y3_w8 : w8.cell? ⟨g5, i * 6 + 3, none⟩ = some (.int .i64 D) := cl_kept hb (by with_reducible (repeat (first | assumption | refine dr_old ?_ | refine al_old ?_))); have y4_w8 : w8.cell? ⟨g5, i * 6 + 4, none⟩ = some (.int .i64 E) := cl_kept hb (by with_reducible (repeat (first | assumption | refine dr_old ?_ | refine al_old ?_))); have y5_w8 : w8.cell? ⟨g5, i * 6 + 5, none⟩ = some (.int .i64 F) := cl_kept hb (by with_reducible (repeat (first | assumption | refine dr_old ?_ | refine al_old ?_))); have hq8 : Below wq.heap.size wq w8 := bl_via (by with_reducible repeat (first | exact bl_refl _ | refine bl_drew ?_)) hb; have HQ8 : Hid (Below wq.heap.size wq w8) := hq8; clear hb hq8)
                                | (go_at_call 46; refine (CMi.out _).mono ?_; rintro e w9 ⟨rfl, hb⟩; have m0_w9 : w9.cell? ⟨ge, k * 4, none⟩ = some (.int .i64 q0) := cl_kept hb (by with_reducible (repeat (first | assumption | refine dr_old ?_ | refine al_old ?_))); have m1_w9 : w9.cell? ⟨ge, k * 4 + 1, none⟩ = some (.int .i64 q1) := cl_kept hb (by with_reducible (repeat (first | assumption | refine dr_old ?_ | refine al_old ?_))); have m2_w9 : w9.cell? ⟨ge, k * 4 + 2, none⟩ = some (.int .i64 q2) := cl_kept hb (by with_reducible (repeat (first | assumption | refine dr_old ?_ | refine al_old ?_))); have m3_w9 : w9.cell? ⟨ge, k * 4 + 3, none⟩ = some (.int .i64 q3) := cl_kept hb (by with_reducible (repeat (first | assumption | refine dr_old ?_ | refine al_old ?_))); have y0_w9 : w9.cell? ⟨g5, i * 6, none⟩ = some (.int .i64 A) := cl_kept hb (by with_reducible (repeat (first | assumption | refine dr_old ?_ | refine al_old ?_))); have y1_w9 : w9.cell? ⟨g5, i * 6 + 1, none⟩ = some (.int .i64 B) := cl_kept hb (by with_reducible (repeat (first | assumption | refine dr_old ?_ | refine al_old ?_))); have y2_w9 : w9.cell? ⟨g5, i * 6 + 2, none⟩ = some (.int .i64 C) := cl_kept hb (by with_reducible (repeat (first | assumption | refine dr_old ?_ | refine al_old ?_))); have y3_w9 : w9.cell? ⟨g5, i * 6 + 3, none⟩ = some (.int .i64 D) := cl_kept hb (by with_reducible (repeat (first | assumption | refine dr_old ?_ | refine al_old ?_))); have y4_w9 : w9.cell? ⟨g5, i * 6 + 4, none⟩ = some (.int .i64 E) := cl_kept hb (by with_reducible (repeat (first | assumption | refine dr_old ?_ | refine al_old ?_))); have y5_w9 : w9.cell? ⟨g5, i * 6 + 5, none⟩ = some (.int .i64 F) := cl_kept hb (by with_reducible (repeat (first | assumption | refine dr_old ?_ | refine al_old ?_))); have hq9 : Below w8.heap.size w8 w9 := bl_via (by with_reducible repeat (first | exact bl_refl _ | refine bl_drew ?_)) hb; have HQ9 : Hid (Below wq.heap.size wq w9) := bl_via HQ8.out hq9; clear hb hq9)
                                | (go_at_call 45; refine (CAf.out _).mono ?_; rintro e w11 ⟨rfl, hb⟩; have m0_w11 : w11.cell? ⟨ge, k * 4, none⟩ = some (.int .i64 q0) := cl_kept hb (by with_reducible (repeat (first | assumption | refine dr_old ?_ | refine al_old ?_))); have m1_w11 : w11.cell? ⟨ge, k * 4 + 1, none⟩ = some (.int .i64 q1) := cl_kept hb (by with_reducible (repeat (first | assumption | refine dr_old ?_ | refine al_old ?_))); have m2_w11 : w11.cell? ⟨ge, k * 4 + 2, none⟩ = some (.int .i64 q2) := cl_kept hb (by with_reducible (repeat (first | assumption | refine dr_old ?_ | refine al_old ?_))); have m3_w11 : w11.cell? ⟨ge, k * 4 + 3, none⟩ = some (.int .i64 q3) := cl_kept hb (by with_reducible (repeat (first | assumption | refine dr_old ?_ | refine al_old ?_))); have y0_w11 : w11.cell? ⟨g5, i * 6, none⟩ = some (.int .i64 A) := cl_kept hb (by with_reducible (repeat (first | assumption | refine dr_old ?_ | refine al_old ?_))); have y1_w11 : w11.cell? ⟨g5, i * 6 + 1, none⟩ = some (.int .i64 B) := cl_kept hb (by with_reducible (repeat (first | assumption | refine dr_old ?_ | refine al_old ?_))); have y2_w11 : w11.cell? ⟨g5, i * 6 + 2, none⟩ = some (.int .i64 C) := cl_kept hb (by with_reducible (repeat (first | assumption | refine dr_old ?_ | refine al_old ?_))); have y3_w11 : w11.cell? ⟨g5, i * 6 + 3, none⟩ = some (.int .i64 D) := cl_kept hb (by with_reducible (repeat (first | assumption | refine dr_old ?_ | refine al_old ?_))); have y4_w11 : w11.cell? ⟨g5, i * 6 + 4, none⟩ = some (.int .i64 E) := cl_kept hb (by with_reducible (repeat (first | assumption | refine dr_old ?_ | refine al_old ?_))); have y5_w11 : w11.cell? ⟨g5, i * 6 + 5, none⟩ = some (.int .i64 F) := cl_kept hb (by with_reducible (repeat (first | assumption | refine dr_old ?_ | refine al_old ?_))); have hq11 : Below w9.heap.size w9 w11 := bl_via (by with_reducible repeat (first | exact bl_refl _ | refine bl_drew ?_)) hb; have HQ10 : Hid (Below W0.heap.size W0 w11) := bl_via (bl_via HQQ.out HQ9.out) hq11; have r0 := cl_kept HQ10.out (HM14.out.1 0 (by omega)).2; have fr0 := (HQ10.out.frozen (p := ⟨b14, 0, none⟩) (by exact HM14.out.2)).trans (HM14.out.1 0 (by omega)).1; have r1 := cl_kept HQ10.out (HM14.out.1 1 (by omega)).2; have fr1 := (HQ10.out.frozen (p := ⟨b14, 1, none⟩) (by exact HM14.out.2)).trans (HM14.out.1 1 (by omega)).1; have r2 := cl_kept HQ10.out (HM14.out.1 2 (by omega)).2; have fr2 := (HQ10.out.frozen (p := ⟨b14, 2, none⟩) (by exact HM14.out.2)).trans (HM14.out.1 2 (by omega)).1; have r3 := cl_kept HQ10.out (HM14.out.1 3 (by omega)).2; have fr3 := (HQ10.out.frozen (p := ⟨b14, 3, none⟩) (by exact HM14.out.2)).trans (HM14.out.1 3 (by omega)).1; have r4 := cl_kept HQ10.out (HM14.out.1 4 (by omega)).2; have fr4 := (HQ10.out.frozen (p := ⟨b14, 4, none⟩) (by exact HM14.out.2)).trans (HM14.out.1 4 (by omega)).1; have r5 := cl_kept HQ10.out (HM14.out.1 5 (by omega)).2; have fr5 := (HQ10.out.frozen (p := ⟨b14, 5, none⟩) (by exact HM14.out.2)).trans (HM14.out.1 5 (by omega)).1; have zr : b14 < w11.heap.size := World.block_lt_of_cell? _ _ r0; clear hb hq11))
                            all_goals
                              go_wp2
                              go_meet
                              case rel =>
                                refine ⟨rfl, ?_, ?_⟩
                                · first | (simp [M1, go_sem]; done) | (simp [M1, go_sem, r0, r1, r2, r3, r4, r5]; done) | (simp [M1, go_sem, *]; done)
                                · with_reducible repeat' (first | exact bl_via HB0.out HQ10.out | refine bl_set ?_ ?_ | refine bl_alloc ?_ | refine bl_drew ?_)
                                  all_goals (first | omega | (dsimp only; omega) | (simp; done))
                          case rest =>
                            obtain ⟨rfl, hM1, hBc⟩ := hcut
                            have HZ : Hid (AM w1 wc g5 g6 L.length N (K ++ Y) ∧ E3 wc ge (x, y, kk) ∧ M1 wc b14 f0 f1 f2 f3 f4 f5 ∧ Below w1.heap.size w1 wc) := ⟨HG2.out.1.kept hBc, HG2.out.2.kept hBc, hM1, bl_via HG2.out.1.2.2.1 hBc⟩
                            clear hM1 hBc y0 y1 y2 y3 y4 y5 m0 m1 m2 m3 zge2 zyy2
                            go_wp2
                            obtain ⟨⟨v0, v1, v2, v3, v4, v5⟩, b0, b1, b2, b3, b4, b5⟩ := HZ.out.1.1 j hj
                            obtain ⟨kc0, kf0⟩ := HZ.out.1.2.1 j hj
                            obtain ⟨g0, g1, g2, g3, g4, g5'⟩ := HZ.out.2.2.1
                            have z14 : b14 < wc.heap.size := World.block_lt_of_cell? _ _ g0
                            have zg5 : g5 < wc.heap.size := World.block_lt_of_cell? _ _ v0
                            have zg6 : g6 < wc.heap.size := World.block_lt_of_cell? _ _ kc0
                            have z56 : g5 < g6 := HZ.out.1.2.2.2.2.1
                            have hne1 : g5 ≠ b14 := by have := HB14.out; omega
                            have hne2 : g6 ≠ b14 := by have := HB14.out; omega
                            have hne3 : b14 ≠ g5 := by have := HB14.out; omega
                            have hne4 : b14 ≠ g6 := by have := HB14.out; omega
                            have hne5 : g5 ≠ g6 := by omega
                            have hne6 : g6 ≠ g5 := by omega
                            by_cases hjm : j ∈ K ++ Y
                            · have kc1 : wc.cell? ⟨g6, j, none⟩ = some (.bool true) := by rw [kc0]; simp only [decide_eq_true hjm]
                              clear kc0
                              obtain ⟨c0, c1, c2, c3, c4, c5, hmj⟩ : ∃ c0 c1 c2 c3 c4 c5, N j = (c0, c1, c2, c3, c4, c5) := ⟨_, _, _, _, _, _, rfl⟩
                              rw [hmj] at v0 v1 v2 v3 v4 v5
                              dsimp only at v0 v1 v2 v3 v4 v5
                              by_cases heq : (c0, c1, c2, c3, c4, c5) = (f0, f1, f2, f3, f4, f5)
                              · have hsm : sameM c0 c1 c2 c3 c4 c5 f0 f1 f2 f3 f4 f5 = true := by
                                  simp only [Prod.mk.injEq] at heq
                                  simp only [sameM, decide_eq_true_eq]
                                  exact heq
                                have HOK : Hid (N j = (f0, f1, f2, f3, f4, f5) ∧ j ∈ K ++ Y) := ⟨by rw [hmj, heq], hjm⟩
                                clear heq hmj hjm
                                go_quiet (fail)
                                generalize hwd : World.drewN wc _ = wd
                                have hbd9 : Below wc.heap.size wc wd := by rw [← hwd]; exact bl_drewN (bl_refl _)
                                have HZd : Hid (AM w1 wd g5 g6 L.length N (K ++ Y) ∧ E3 wd ge (x, y, kk)) := ⟨HZ.out.1.kept hbd9, HZ.out.2.1.kept hbd9⟩
                                replace g0 := cl_kept hbd9 g0
                                replace g1 := cl_kept hbd9 g1
                                replace g2 := cl_kept hbd9 g2
                                replace g3 := cl_kept hbd9 g3
                                replace g4 := cl_kept hbd9 g4
                                replace g5' := cl_kept hbd9 g5'
                                clear v0 v1 v2 v3 v4 v5 b0 b1 b2 b3 b4 b5 kc1 kf0 z14 zg5 zg6 hbd9 hwd
                                obtain ⟨⟨v0, v1, v2, v3, v4, v5⟩, b0, b1, b2, b3, b4, b5⟩ := HZd.out.1.1 j hj
                                obtain ⟨kc0, kf0⟩ := HZd.out.1.2.1 j hj
                                have z14 : b14 < wd.heap.size := World.block_lt_of_cell? _ _ g0
                                have zg5 : g5 < wd.heap.size := World.block_lt_of_cell? _ _ v0
                                have zg6 : g6 < wd.heap.size := World.block_lt_of_cell? _ _ kc0
                                go_wp2
                                go_roundg (3 - (k + 1))
                                case measure => omega
                                case rel =>
                                  have h9 := HZd.out.1.told (K' := K ++ Y) hj (f0, f1, f2, f3, f4, f5) (fun q => ⟨fun h => Or.inl h, fun h => by rcases h with h | rfl; exact h; exact HOK.out.2⟩)
                                  rw [same_map HOK.out.1] at h9
                                  have h8 : E3 ((set6 wd g5 j (f0, f1, f2, f3, f4, f5)).setCell ⟨g6, j, none⟩ (.bool true)) ge (x, y, kk) := (HZd.out.2.grown (set6_grown wd g5 j (f0, f1, f2, f3, f4, f5)) (by simp; omega)).grown (grown_cell _ g6 j _) (by simp; omega)
                                  refine ⟨k + 1, Y, N, by omega, rfl, by go_num, HS3.out.1, HS3.out.2.1, ⟨HS3.out.2.2.1, HS3.out.2.2.2.step (fun hi' j' hj' hne' hjt' => ?_)⟩, h9, h8⟩
                                  have e1 := HONE.out j' hj' hne' hjt'
                                  subst e1
                                  exact ⟨HOK.out.2, by rw [HOK.out.1, HEL.out]; exact HFAR.out.symm⟩
                              · have hsm : sameM c0 c1 c2 c3 c4 c5 f0 f1 f2 f3 f4 f5 = false := by
                                  simp only [Prod.mk.injEq] at heq
                                  simp only [sameM, decide_eq_false_iff_not]
                                  exact heq
                                have HTE : Hid (¬ ∃ N, Cons kd L N) := HS3.out.1.tear (i := i) (j := j) HS3.out.2.2.1 hjm HNE.out.1 (e := edg L[i] k) (fun _ => edg_own _ _) (fun _ => HNE.out.2) (by rw [HEL.out, HFAR.out, hmj]; exact heq)
                                clear heq hmj hjm
                                go_quiet (fail)
                                go_wp2
                                exact bodyPost_ret (v := .tuple #[.slice none 0 0, .bool false]) (by simp [results, Tryd.results20, go_sem]) rfl ⟨bl_drewN (bl_via HW.out.2.1 HZ.out.1.2.2.1), Or.inr ⟨HTE.out, rfl⟩⟩
                            · have kc1 : wc.cell? ⟨g6, j, none⟩ = some (.bool false) := by rw [kc0]; simp only [decide_eq_false hjm]
                              clear kc0
                              have HF : Hid (MI kd L (K ++ (Y ++ [j])) (fun q => if q = j then (f0, f1, f2, f3, f4, f5) else N q) ∧ j ∉ K ++ Y) := by
                                have h9 := HS3.out.1.found (by omega) HBD.out (i := i) (j := j) HS3.out.2.2.1 hj hjm (e := edg L[i] k) (fun _ => edg_own _ _) HNE.out.2
                                rw [HEL.out, HFAR.out, List.append_assoc] at h9
                                exact ⟨h9, hjm⟩
                              clear hjm
                              go_quiet (fail)
                              generalize hwd : World.drewN wc _ = wd
                              have hbd9 : Below wc.heap.size wc wd := by rw [← hwd]; exact bl_drewN (bl_refl _)
                              have HZd : Hid (AM w1 wd g5 g6 L.length N (K ++ Y) ∧ E3 wd ge (x, y, kk)) := ⟨HZ.out.1.kept hbd9, HZ.out.2.1.kept hbd9⟩
                              replace g0 := cl_kept hbd9 g0
                              replace g1 := cl_kept hbd9 g1
                              replace g2 := cl_kept hbd9 g2
                              replace g3 := cl_kept hbd9 g3
                              replace g4 := cl_kept hbd9 g4
                              replace g5' := cl_kept hbd9 g5'
                              clear v0 v1 v2 v3 v4 v5 b0 b1 b2 b3 b4 b5 kc1 kf0 z14 zg5 zg6 hbd9 hwd
                              obtain ⟨⟨v0, v1, v2, v3, v4, v5⟩, b0, b1, b2, b3, b4, b5⟩ := HZd.out.1.1 j hj
                              obtain ⟨kc0, kf0⟩ := HZd.out.1.2.1 j hj
                              have z14 : b14 < wd.heap.size := World.block_lt_of_cell? _ _ g0
                              have zg5 : g5 < wd.heap.size := World.block_lt_of_cell? _ _ v0
                              have zg6 : g6 < wd.heap.size := World.block_lt_of_cell? _ _ kc0
                              go_wp2
                              go_roundg (3 - (k + 1))
                              case measure => omega
                              case rel =>
                                have h9 := HZd.out.1.told (K' := K ++ (Y ++ [j])) hj (f0, f1, f2, f3, f4, f5) (fun q => by simp [or_assoc])
                                have h8 : E3 ((set6 wd g5 j (f0, f1, f2, f3, f4, f5)).setCell ⟨g6, j, none⟩ (.bool true)) ge (x, y, kk) := (HZd.out.2.grown (set6_grown wd g5 j (f0, f1, f2, f3, f4, f5)) (by simp; omega)).grown (grown_cell _ g6 j _) (by simp; omega)
                                have hmono : ∀ q ∈ K ++ Y, q ∈ K ++ (Y ++ [j]) ∧ (fun q => if q = j then (f0, f1, f2, f3, f4, f5) else N q) q = N q := fun q hq => by
                                  have h7 := found_mono (M := N) (v := (f0, f1, f2, f3, f4, f5)) HF.out.2 q hq
                                  rw [List.append_assoc] at h7
                                  exact h7
                                have hiY := HS3.out.2.2.1
                                have hni : i ≠ j := HNE.out.1
                                refine ⟨k + 1, Y ++ [j], (fun q => if q = j then (f0, f1, f2, f3, f4, f5) else N q), by omega, rfl, by go_num, HF.out.1, fun i' hi' hiK => (HS3.out.2.1 i' hi' hiK).mono (List.mem_append_left _ hiK) hmono, ⟨(hmono i hiY).1, (HS3.out.2.2.2.mono hiY hmono).step (fun hi' j' hj' hne' hjt' => ?_)⟩, h9, h8⟩
                                have e1 := HONE.out j' hj' hne' hjt'
                                subst e1
                                simp only [if_true, if_neg hni]
                                exact ⟨by simp, by rw [HEL.out]; exact HFAR.out.symm⟩
                  · have ik : ¬ (k : Int) < 3 := by omega
                    obtain rfl : k = 3 := by omega
                    go_wp2
                    go_roundg (L.length - (i + 1))
                    case measure => omega
                    case rel =>
                      refine ⟨i + 1, Y, N, by omega, rfl, by go_num, HS3.out.1, fun i' hi' hiK => ?_, HG.out.1⟩
                      by_cases e : i' = i
                      · subst e
                        exact HS3.out.2.2.2
                      · exact HS3.out.2.1 i' (by omega) hiK
              · have kc1 : wr.cell? ⟨g6, i, none⟩ = some (.bool false) := by rw [kc0]; simp only [decide_eq_false hik]
                clear kc0
                have hik2 : i ∉ K := fun h => hik (List.mem_append_left _ h)
                have HIK : Hid (i ∉ K) := hik2
                clear hik hik2
                go_wp2
                go_roundg (L.length - (i + 1))
                case measure => omega
                case rel =>
                  refine ⟨i + 1, X, M', by omega, rfl, by go_num, HS2.out.1, fun i' hi' hiK => ?_, HS2.out.2.2⟩
                  by_cases e : i' = i
                  · subst e
                    exact absurd hiK HIK.out
                  · exact HS2.out.2.1 i' (by omega) hiK
            · have i1 : ¬ (i : Int) < (L.length : Int) := by omega
              obtain rfl : i = L.length := by omega
              go_wp2
              go_roundg (L.length + 1 - (rd + 1))
              case measure => omega
              case rel =>
                have hcl : ∀ i ∈ K, EdN kd L (K ++ X) M' i 3 := fun i hi => HS2.out.2.1 i (HS1.out.1.2.2.2.1 i hi).1 hi
                refine ⟨rd + 1, K ++ X, M', by omega, rfl, by go_num, HS2.out.1, ?_, fun he => ?_, HS2.out.2.2⟩
                · rw [List.length_append]
                  rcases round_all HND.out.2 HND.out.1 HS1.out.1.1 hcl with ha | hx
                  · have := len_of_all L.length K ha
                    omega
                  · have := HS1.out.2.1
                    omega
                · have hall : ∀ i, i < L.length → i ∈ K := all_of_len HS1.out.1.2.1 (fun i hi => (HS1.out.1.2.2.2.1 i hi).1) (by have := HS1.out.2.1; omega)
                  exact HS2.out.1.conss hall hcl
        · have ir : ¬ (rd : Int) ≤ (L.length : Int) := by omega
          obtain rfl : rd = L.length + 1 := by omega
          go_wp2
          exact bodyPost_ret (v := .tuple #[.slice (some ⟨g5, 0, none⟩) L.length L.length, .bool true]) (by simp [results, Tryd.results20, go_sem]) rfl ⟨bl_via HW.out.2.1 HS1.out.2.2.2.2.2.1, Or.inl ⟨M, (by first | exact HS1.out.2.2.1 trivial | exact HS1.out.2.2.1 rfl), g5, rfl, HS1.out.2.2.2.1⟩⟩
end Go.Proofs.YtmjneoaciopioaaDoor
