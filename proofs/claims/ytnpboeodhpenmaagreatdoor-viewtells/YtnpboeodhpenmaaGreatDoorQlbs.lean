/- A part of the proof of viewTells_holds. -/
import Derived.Test.YtnpboeodhpenmaaGreatDoorQlbo
import Derived.Test.YtnpboeodhpenmaaGreatDoorQlbr
import Derived.Test.YtnpboeodhpenmaaGreatDoorQlaf
namespace Go.Proofs.YtnpboeodhpenmaaGreatDoor
open Go.RowKit

/-- A state's copy, in memory. -/
def CopyAt (V : World) (mn : Nat) (zs ks : List Int) (M : Nat → M6) (S : List ((Int × Int × Int) × List (Int × Int × Int))) (a' b' ma t : Option Addr) : Prop := Row V a' zs ∧ Row V b' ks ∧ (0 < mn → ∃ g, ma = some ⟨g, 0, none⟩ ∧ MRow V g mn M) ∧ SRow V t S
theorem CopyAt.kept {V V' : World} {mn : Nat} {zs ks : List Int} {M : Nat → M6} {S : List ((Int × Int × Int) × List (Int × Int × Int))} {a' b' ma t : Option Addr} (h : CopyAt V mn zs ks M S a' b' ma t) (hb : Below V.heap.size V V') : CopyAt V' mn zs ks M S a' b' ma t :=
  ⟨h.1.kept hb, h.2.1.kept hb, fun h0 => by obtain ⟨g, e, hm⟩ := h.2.2.1 h0; exact ⟨g, e, hm.kept hb⟩, h.2.2.2.kept hb⟩
/-- ref.StateOf of what is handed in. -/
theorem state_copy (W H : Int) (a c mp sp : Option Addr) (ca cc n mn mc sc : Nat) (zs ks : List Int) (M : Nat → M6) (S : List ((Int × Int × Int) × List (Int × Int × Int))) (w : World) (hz : Row w a zs) (hk : Row w c ks) (hn : ks.length = n * 5) (h1 : zs.length ≤ 17592186044416) (h2 : n ≤ 3518437208883) (hM : MRowG w mp mn M) (hmn : mn ≤ 2932031007402) (hS : SRowG w sp S) (hSl : S.length ≤ 2932031007402) (hSe : ∀ s ∈ S, s.2.length ≤ 5864062014805) (_hs0 : Steps w) : ∀ V : World, Below w.heap.size w V → Calls Tryz.prog 9 #[.agg #[.int .i64 W, .int .i64 H, .slice a zs.length ca, .slice c n cc, .slice mp mn mc, .slice sp S.length sc]] V fun e w' => ∃ a' ca' b' cb' ma mc' t u, e = .returned (.agg #[.int .i64 W, .int .i64 H, .slice a' zs.length ca', .slice b' n cb', .slice ma mn mc', .slice t S.length u]) ∧ CopyAt w' mn zs ks M S a' b' ma t ∧ Below V.heap.size V w' := fun V hV =>
  (stateOf_any W H a c mp sp zs.length ca n cc mn mc sc zs ks M S V (fun V2 hV2 => sheetOf_any W H a c ca cc n zs ks V2 (hz.kept (bl_via hV hV2)) (hk.kept (bl_via hV hV2)) hn h1 h2) (hM.kept hV) hmn (hS.kept hV) hSl hSe).mono fun _ _ ⟨a', ca', b', cb', ma, mc', t, u, he, r1, r2, r3, r4, hb⟩ => ⟨a', ca', b', cb', ma, mc', t, u, he, ⟨r1, r2, r3, r4⟩, hb⟩
/-- Either the state may not be, for both, or it may be, for both. -/
theorem state_either (W H : Int) (a c mp sp : Option Addr) (ca cc n mn mc sc : Nat) (zs ks : List Int) (M : Nat → M6) (S : List ((Int × Int × Int) × List (Int × Int × Int))) (w : World) (hz : Row w a zs) (hk : Row w c ks) (hn : ks.length = n * 5) (_h1 : zs.length ≤ 17592186044416) (h2 : n ≤ 3518437208883) (hM : MRowG w mp mn M) (_hmn : mn ≤ 2932031007402) (hS : SRowG w sp S) (hSl : S.length ≤ 2932031007402) (hSe : ∀ s ∈ S, s.2.length ≤ 5864062014805) (hs0 : Steps w) :
    ((∀ V : World, Below w.heap.size w V → Calls Tryz.prog 12 #[.agg #[.int .i64 W, .int .i64 H, .slice a zs.length ca, .slice c n cc, .slice mp mn mc, .slice sp S.length sc]] V fun e w' => e = .returned (.bool false) ∧ Below V.heap.size V w')
      ∧ ∀ (V : World) (a' b' ma t : Option Addr) (ca' cb' mc' u : Nat), Below w.heap.size w V → CopyAt V mn zs ks M S a' b' ma t → Calls Tryz.prog 36 #[.agg #[.int .i64 W, .int .i64 H, .slice a' zs.length ca', .slice b' n cb', .slice ma mn mc', .slice t S.length u]] V fun e w' => OfNo V w' e)
    ∨ ∃ Wn Hn b off : Nat, W = (Wn : Int) ∧ H = (Hn : Int) ∧ a = some ⟨b, off, none⟩ ∧ (1 ≤ Wn ∧ Wn ≤ 8) ∧ (1 ≤ Hn ∧ Hn ≤ 8) ∧ zs.length = Wn * Hn ∧ maskB zs = true ∧ Joined (ty zs Wn Hn) ∧ (∀ i, i < n → CrOk (ty zs Wn Hn) ks i) ∧ SOk (kdn ks n) (ty zs Wn Hn) mn M S
      ∧ (∀ V : World, Below w.heap.size w V → Calls Tryz.prog 12 #[.agg #[.int .i64 W, .int .i64 H, .slice a zs.length ca, .slice c n cc, .slice mp mn mc, .slice sp S.length sc]] V fun e w' => e = .returned (.bool true) ∧ Below V.heap.size V w')
      ∧ ∀ (V : World) (a' b' ma t : Option Addr) (ca' cb' mc' u : Nat), Below w.heap.size w V → CopyAt V mn zs ks M S a' b' ma t → Calls Tryz.prog 36 #[.agg #[.int .i64 W, .int .i64 H, .slice a' zs.length ca', .slice b' n cb', .slice ma mn mc', .slice t S.length u]] V fun e w' => ∃ ad k ra rk gm cm pa pc f, e = .returned (.tuple #[.agg #[.slice ad (ty zs Wn Hn).length k, .map (some ra), .map (some rk), .slice (some ⟨gm, 0, none⟩) (ty zs Wn Hn).length cm, .slice pa (ty zs Wn Hn).length pc], f, .bool true]) ∧ PileAt w' ad k ra rk gm cm pa pc (ty zs Wn Hn) (kdn ks n) M ∧ Below V.heap.size V w' := by
  rcases sheet_either W H a c ca cc n zs ks w hz hk hn h2 hs0 with ⟨q1, q2⟩ | ⟨Wn, Hn, b, off, rfl, rfl, rfl, hW, hH, hl, hm, hJ, hC, hMay⟩
  · refine Or.inl ⟨fun V hV => stateMay_no W H a c mp sp zs.length ca n cc mn mc S.length sc V (fun V2 hV2 => q2 V2 (bl_via hV hV2)), fun V a' b' ma t ca' cb' mc' u hV hc => ?_⟩
    exact of_no W H a' b' ma t zs.length ca' n cb' mn mc' S.length u V (fun V2 hV2 => q1 V2 a' b' ca' cb' (bl_via hV hV2) (hc.1.kept hV2) (hc.2.1.kept hV2))
  · have hlen : (ty zs Wn Hn).length ≤ 256 := by have := ty_len zs Wn Hn hW.2; omega
    have hnd := ty_nodup zs Wn Hn
    have hbd := ty_bd (zs := zs) hW.2 hH.2
    have hz0 : 0 < zs.length := by
      rw [hl]
      exact Nat.mul_pos (by omega) (by omega)
    have LS : ∀ V : World, Below w.heap.size w V → Calls Tryz.prog 12 #[.agg #[.int .i64 (Wn : Int), .int .i64 (Hn : Int), .slice (some ⟨b, off, none⟩) zs.length ca, .slice c n cc, .slice mp mn mc, .slice sp S.length sc]] V fun e w' => SmTo (kdn ks n) (ty zs Wn Hn) mn M S V w' e := fun V hV =>
      stateMay_yes (Wn : Int) (Hn : Int) (some ⟨b, off, none⟩) c mp sp zs.length ca n cc mn mc sc V (kdn ks n) (ty zs Wn Hn) M S (fun V2 hV2 => hMay V2 (bl_via hV hV2))
        (fun V2 hV2 => mapsMay_any Wn Hn b off ca n cc mn mc c mp zs ks M V2 (hz.kept (bl_via hV hV2)) hW hH hl hm ((row_crow hk hn).kept (bl_via hV hV2)) (cr_one hC) h2 (hM.kept (bl_via hV hV2)))
        (fun V2 hV2 => (trisOf_any Wn Hn b off ca zs (.slice c n cc) V2 (hz.kept (bl_via hV hV2)) hW hH hl hm).mono fun e w' ⟨v, he, ho, hb⟩ => by
          obtain ⟨a9, c9, rfl, hT⟩ := own_tris ho
          exact ⟨a9, c9, he, hT, hb⟩)
        (hM.kept hV) (hS.kept hV) hnd hlen hbd (by omega) (fun s hs => by have := hSe s hs; omega)
    have LO : ∀ (V : World) (a' b' ma t : Option Addr) (ca' cb' mc' u : Nat), Below w.heap.size w V → CopyAt V mn zs ks M S a' b' ma t → Calls Tryz.prog 36 #[.agg #[.int .i64 (Wn : Int), .int .i64 (Hn : Int), .slice a' zs.length ca', .slice b' n cb', .slice ma mn mc', .slice t S.length u]] V fun e w' => OfTo V w' (kdn ks n) (ty zs Wn Hn) mn M S e := fun V a' b' ma t ca' cb' mc' u hV hc => by
      refine of_yes (Wn : Int) (Hn : Int) a' b' ma t zs.length ca' n cb' mn mc' u V ks n (ty zs Wn Hn) M S (hs0.kept hV) (fun V2 hV2 => ?_) hc.2.2.1 hc.2.2.2 (ty_up zs Wn Hn) hJ.1 (by omega) hbd (by omega) (fun s hs => by have := hSe s hs; omega)
      have r1 := hc.1.kept hV2
      obtain ⟨ba, oa, rfl, _⟩ := r1 0 hz0
      exact lay_yes Wn Hn ba oa ca' n cb' b' zs ks V2 r1 hW hH hl hm (hc.2.1.kept hV2) hn h2 (hs0.kept (bl_via hV hV2)) hJ hC
    by_cases hok : SOk (kdn ks n) (ty zs Wn Hn) mn M S
    · refine Or.inr ⟨Wn, Hn, b, off, rfl, rfl, rfl, hW, hH, hl, hm, hJ, hC, hok, fun V hV => (LS V hV).mono fun e w' ⟨bq, he, hb, hB⟩ => ⟨by rw [he, hb.2 hok], hB⟩, fun V a' b' ma t ca' cb' mc' u hV hc => (LO V a' b' ma t ca' cb' mc' u hV hc).mono fun e w' h => ?_⟩
      rcases h with ⟨_, hno⟩ | ⟨_, ad, k, ra, rk, gm, cm, pa, pc, f, he, hp, hB⟩
      · exact absurd hok hno
      · exact ⟨ad, k, ra, rk, gm, cm, pa, pc, f, he, hp, hB⟩
    · refine Or.inl ⟨fun V hV => (LS V hV).mono fun e w' ⟨bq, he, hb, hB⟩ => ⟨?_, hB⟩, fun V a' b' ma t ca' cb' mc' u hV hc => (LO V a' b' ma t ca' cb' mc' u hV hc).mono fun e w' h => ?_⟩
      · cases bq
        · exact he
        · exact absurd (hb.1 rfl) hok
      · rcases h with ⟨h, _⟩ | ⟨h, _⟩
        · exact h
        · exact absurd h hok

/-- Does a map turn over? -/
def tov (m : M6) : Bool := decide (m.1 * m.2.2.2.1 - m.2.1 * m.2.2.1 < 0)
theorem map_kinds {A B C D E F : Int} (h : mapM (A, B, C, D, E, F) = true) : ((A = 1 ∨ A = -1) ∧ B = 0 ∧ C = 0 ∧ (D = 1 ∨ D = -1)) ∨ (A = 0 ∧ (B = 1 ∨ B = -1) ∧ (C = 1 ∨ C = -1) ∧ D = 0) := by
  unfold mapM mapB at h
  simp [unitB] at h
  omega
set_option maxRecDepth 100000 in
set_option maxHeartbeats 3200000 in
theorem turnsOver_any (A B C D E F : Int) (w : World) (h : mapM (A, B, C, D, E, F) = true) :
    Calls Tryz.prog 74 #[.agg #[.int .i64 A, .int .i64 B, .int .i64 C, .int .i64 D, .int .i64 E, .int .i64 F]] w fun e w' => e = .returned (.bool (tov (A, B, C, D, E, F))) ∧ Below w.heap.size w w' := by
  rcases map_kinds h with ⟨rfl | rfl, rfl, rfl, rfl | rfl⟩ | ⟨rfl, rfl | rfl, rfl | rfl, rfl⟩
  all_goals
    clear h
    go_enter Tryz.func74, Tryz.ntmps74
    go_wp2
    go_ret
    refine ⟨by simp [tov, go_sem], ?_⟩
    with_reducible repeat (first | exact bl_refl _ | refine bl_alloc ?_ | refine bl_set ?_ ?_)
set_option maxRecDepth 100000 in
set_option maxHeartbeats 3200000 in
theorem turnedOver_any (w : World) (v0 v1 v2 v4 : Value) (gm n cm i : Nat) (M : Nat → M6) (hM : MRow w gm n M) (hi : i < n) (_hn : n ≤ 300) (h : mapM (M i) = true) :
    Calls Tryz.prog 72 #[.agg #[v0, v1, v2, .slice (some ⟨gm, 0, none⟩) n cm, v4], .int .i64 (i : Int)] w fun e w' => e = .returned (.bool (tov (M i))) ∧ Below w.heap.size w w' := by
  obtain ⟨⟨y0, y1, y2, y3, y4, y5⟩, _⟩ := hM i hi
  obtain ⟨A, B, C, D, E, F, hmi⟩ : ∃ A B C D E F, M i = (A, B, C, D, E, F) := ⟨_, _, _, _, _, _, rfl⟩
  rw [hmi] at y0 y1 y2 y3 y4 y5 h ⊢
  dsimp only at y0 y1 y2 y3 y4 y5
  have i1 : (i : Int) < (n : Int) := by omega
  have i0 : (0 : Int) ≤ (i : Int) := by omega
  have zg : gm < w.heap.size := World.block_lt_of_cell? _ _ y0
  clear hmi hM
  rcases map_kinds h with ⟨rfl | rfl, rfl, rfl, rfl | rfl⟩ | ⟨rfl, rfl | rfl, rfl | rfl, rfl⟩
  all_goals
    clear h
    go_enter Tryz.func72, Tryz.ntmps72
    go_wp2
    go_ret
    refine ⟨by simp [tov, go_sem], ?_⟩
    with_reducible repeat (first | exact bl_refl _ | refine bl_alloc ?_ | refine bl_set ?_ ?_)
end Go.Proofs.YtnpboeodhpenmaaGreatDoor
