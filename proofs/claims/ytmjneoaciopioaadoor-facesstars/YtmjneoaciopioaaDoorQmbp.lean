/- Which triangles are joined across edges without creases: the reference's groups. -/
import Derived.Test.YtmjneoaciopioaaDoorQmay
import Derived.Test.YtmjneoaciopioaaDoorQmbm
import Derived.Test.YtmjneoaciopioaaDoorQmbo
namespace Go.Proofs.YtmjneoaciopioaaDoor
open Go.RowKit
attribute [local go_sem ↓] Go.wp_at_zero Go.wp_at_succ

/-- Each is joined to its number, which is no greater. -/
def InvC (cr : Int × Int × Int × Int → Bool) (l : List (Int × Int × Int)) (who : Nat → Nat) : Prop := ∀ i (hi : i < l.length), who i ≤ i ∧ ∃ hw : who i < l.length, ReachC cr l l[i] l[who i]
/-- Across an edge nothing has a lesser number. -/
def OkC (cr : Int × Int × Int × Int → Bool) (l : List (Int × Int × Int)) (who : Nat → Nat) (i e : Nat) : Prop := ∀ (hi : i < l.length), cr (edg l[i] e) = true → ∀ j (_ : j < l.length), plc l (acr l[i] (edg l[i] e)) = (j : Int) → who i ≤ who j
theorem invC_id (cr : Int × Int × Int × Int → Bool) (l : List (Int × Int × Int)) : InvC cr l (fun i => i) := fun _ hi => ⟨Nat.le_refl _, hi, .here (List.getElem_mem hi)⟩
theorem invC_upd {cr : Int × Int × Int × Int → Bool} {l : List (Int × Int × Int)} {who : Nat → Nat} {i j e : Nat} (hI : InvC cr l who) (hi : i < l.length) (hj : j < l.length) (hk : Kd l[i]) (hc : cr (edg l[i] e) = true) (hp : plc l (acr l[i] (edg l[i] e)) = (j : Int)) (hlt : who j < who i) : InvC cr l (upd who i (who j)) := by
  intro m hm
  by_cases h : m = i
  · subst h
    simp only [upd, if_true]
    obtain ⟨h1, _, _⟩ := hI m hm
    obtain ⟨_, hw, hr⟩ := hI j hj
    have ha : AdjC cr l[m] l[j] := by
      have h3 := acr_adj hk (edg_own l[m] e)
      rw [plc_get hj hp]
      exact ⟨h3.2.1, _, edg_own _ _, h3.1, hc⟩
    exact ⟨by omega, hw, ((ReachC.here (List.getElem_mem hm)).step (List.getElem_mem hj) ha).trans hr⟩
  · simp only [upd, if_neg h]
    exact hI m hm

set_option maxRecDepth 100000 in
set_option maxHeartbeats 3200000 in
theorem groupsC_any (W H b off cap : Nat) (n ccap : Nat) (cb : Option Addr) (zs ks : List Int) (w : World) (hr : Row w (some ⟨b, off, none⟩) zs) (hW : 1 ≤ W ∧ W ≤ 8) (hH : 1 ≤ H ∧ H ≤ 8) (hl : zs.length = W * H) (hm : maskB zs = true) (hCR : CRow w cb ks n) (hC1 : CrOne ks n) (hn2 : n ≤ 3518437208883) :
    Calls Tryd.prog 31 #[.agg #[.int .i64 (W : Int), .int .i64 (H : Int), .slice (some ⟨b, off, none⟩) zs.length cap, .slice cb n ccap], .bool false] w fun e w' => ∃ g who, e = .returned (.slice (some ⟨g, 0, none⟩) (ty zs W H).length (ty zs W H).length) ∧ WRow w' g (ty zs W H).length who ∧ InvC (fun e => decide (kdn ks n e = 0)) (ty zs W H) who ∧ (∀ i e, i < (ty zs W H).length → e < 3 → OkC (fun e => decide (kdn ks n e = 0)) (ty zs W H) who i e) ∧ Below w.heap.size w w' := by
  have C38 : Hid (∀ W' : World, Below w.heap.size w W' → Calls Tryd.prog 30 #[.agg #[.int .i64 (W : Int), .int .i64 (H : Int), .slice (some ⟨b, off, none⟩) zs.length cap, .slice cb n ccap]] W' fun e w' => ∃ v, e = .returned v ∧ w'.ownsRow (W'.heap.size + 1) 80 3 v (ty zs W H).length (flatV (ty zs W H)) ∧ Below W'.heap.size W' w') := fun W' hW' => trisOf_any W H b off cap zs (.slice cb n ccap) W' (hr.kept hW') hW hH hl hm
  have HBD : Hid (∀ t ∈ ty zs W H, (0 ≤ t.1 ∧ t.1 ≤ 8) ∧ (0 ≤ t.2.1 ∧ t.2.1 ≤ 8) ∧ (0 ≤ t.2.2 ∧ t.2.2 ≤ 3)) := ty_bd hW.2 hH.2
  have hlen : (ty zs W H).length ≤ 256 := by have := ty_len zs W H hW.2; omega
  obtain ⟨i3, hi3, hz0, hz1, hz2⟩ := info_parts inf3
  have HI3 : Hid (Tryd.prog.info? 3 = some i3 ∧ i3.zero = some (.int .i64 0) ∧ i3.size = 1 ∧ i3.bytes = 8) := ⟨hi3, hz0, hz1, hz2⟩
  have CK0 : Hid (∀ (p q r s : Int) (W' : World), Below w.heap.size w W' → Calls Tryd.prog 36 #[.agg #[.int .i64 (W : Int), .int .i64 (H : Int), .slice (some ⟨b, off, none⟩) zs.length cap, .slice cb n ccap], .agg #[.int .i64 p, .int .i64 q, .int .i64 r, .int .i64 s]] W' fun e w' => e = .returned (.int .i64 (kdn ks n (p, q, r, s))) ∧ Below W'.heap.size W' w') := fun p q r s W' hW' => kindOf_any W' _ _ _ cb n ccap ks p q r s (hCR.kept2 hW') hC1 hn2
  clear hCR hC1 hr hl hm hW hH hi3 hz0 hz1 hz2
  obtain ⟨L, hL⟩ : ∃ L, L = ty zs W H := ⟨_, rfl⟩
  rw [← hL] at C38 HBD hlen ⊢
  clear hL
  go_enter Tryd.func31, Tryd.ntmps31
  go_wp2_with (first
    | (go_at_call 30; refine (C38.out _ (by with_reducible exact bl_alloc (bl_refl _))).mono ?_; rintro e w1 ⟨v, rfl, ho, hb⟩; obtain ⟨a, ca, rfl, hT⟩ := own_tris ho; have HWX : Hid (∃ wB, Below w.heap.size w wB ∧ (wB.cell? ⟨w.heap.size, 0, none⟩ = some (.int .i64 (W : Int)) ∧ wB.cell? ⟨w.heap.size, 1, none⟩ = some (.int .i64 (H : Int)) ∧ wB.cell? ⟨w.heap.size, 2, none⟩ = some (.slice (some ⟨b, off, none⟩) zs.length cap) ∧ wB.cell? ⟨w.heap.size, 3, none⟩ = some (.slice cb n ccap)) ∧ Below wB.heap.size wB w1) := ⟨_, bl_alloc (bl_refl _), ⟨by simp [go_sem], by simp [go_sem], by simp [go_sem], by simp [go_sem]⟩, hb⟩; have HWT : Hid (TRow w1 a L) := hT; clear hT ho hb)
    | (at_make; refine wpList_make_full _ rfl (.tmp 18) (.tmp 18) 22 rfl w1.heap.size 3 i3 (.int .i64 0) 1 Tryd.underlying22 HI3.out.1 HI3.out.2.1 HI3.out.2.2.1 .i64 .i64 _ _ L.length rfl rfl rfl rfl ?b2 ?b3 ?b4 ?mk))
  all_goals obtain ⟨wB, hwB, hbox, hwB1⟩ := HWX.out
  all_goals have HW : Hid (TRow w1 a L ∧ Below wB.heap.size wB w1) := ⟨HWT.out, hwB1⟩
  all_goals have HBOX : Hid (Below w.heap.size w wB ∧ wB.cell? ⟨w.heap.size, 0, none⟩ = some (.int .i64 (W : Int)) ∧ wB.cell? ⟨w.heap.size, 1, none⟩ = some (.int .i64 (H : Int)) ∧ wB.cell? ⟨w.heap.size, 2, none⟩ = some (.slice (some ⟨b, off, none⟩) zs.length cap) ∧ wB.cell? ⟨w.heap.size, 3, none⟩ = some (.slice cb n ccap)) := ⟨hwB, hbox⟩
  all_goals clear hwB hbox hwB1 HWX HWT
  case b2 =>
    rw [HI3.out.2.2.2]
    omega
  case b3 =>
    unfold maxLen
    omega
  case b4 => exact Nat.le_refl _
  case mk =>
    intro w2 ho hg
    have hbel : Below w1.heap.size w1 w2 := (Below.refl _ _).grown hg (Nat.le_refl _) (fun k h => by cases h)
    have hF : ∀ i, i < L.length → (∃ u, w2.cell? ⟨w1.heap.size, i, none⟩ = some u) ∧ w2.frozen? ⟨w1.heap.size, i, none⟩ = false := fun i hi => by
      have h1 := ho.1
      have h2 := ho.cellAt i (by omega)
      exact ⟨⟨_, h2.trans (List.getElem?_eq_getElem (by omega))⟩, ho.frozenAt i⟩
    obtain ⟨g, hgg⟩ : ∃ g, g = w1.heap.size := ⟨_, rfl⟩
    have HF : Hid (TRB w2 a L g ∧ (∀ i, i < L.length → (∃ u, w2.cell? ⟨g, i, none⟩ = some u) ∧ w2.frozen? ⟨g, i, none⟩ = false) ∧ Below wB.heap.size wB w2 ∧ wB.heap.size ≤ g) := ⟨(row_trb HW.out.1 (by omega)).kept hbel, by rw [hgg]; exact hF, bl_via HW.out.2 hbel, by rw [hgg]; exact HW.out.2.size⟩
    rw [← hgg]
    clear hF hbel ho hg hgg HW
    go_wp2
    go_loopg [7] L.length (fun gk s7 wx => ∃ i : Nat, i ≤ L.length ∧ gk = L.length - i ∧ s7 = .int .i64 (i : Int) ∧ TRB wx a L g ∧ (∀ j, j < L.length → (∃ u, wx.cell? ⟨g, j, none⟩ = some u) ∧ wx.frozen? ⟨g, j, none⟩ = false) ∧ (∀ j, j < i → wx.cell? ⟨g, j, none⟩ = some (.int .i64 (j : Int))) ∧ Below wB.heap.size wB wx)
    case atStart => exact ⟨0, by omega, rfl, rfl, HF.out.1, HF.out.2.1, fun j h => by omega, HF.out.2.2.1⟩
    case round =>
      obtain ⟨i, hi, rfl, rfl, hT, hC, hD, hB⟩ := hrel
      have HR : Hid (TRB wr a L g ∧ (∀ j, j < L.length → (∃ u, wr.cell? ⟨g, j, none⟩ = some u) ∧ wr.frozen? ⟨g, j, none⟩ = false) ∧ (∀ j, j < i → wr.cell? ⟨g, j, none⟩ = some (.int .i64 (j : Int))) ∧ Below wB.heap.size wB wr) := ⟨hT, hC, hD, hB⟩
      clear hT hC hD hB
      by_cases h1 : i < L.length
      · have i1 : (i : Int) < (L.length : Int) := by omega
        have i0 : (0 : Int) ≤ (i : Int) := by omega
        obtain ⟨⟨u, hu⟩, hf⟩ := HR.out.2.1 i h1
        go_wp2
        go_roundg (L.length - (i + 1))
        case measure => omega
        case rel =>
          refine ⟨i + 1, by omega, rfl, by go_num, HR.out.1.set, fun j hj => ?_, fun j hj => ?_, bl_set HR.out.2.2.2 HF.out.2.2.2⟩
          · refine ⟨?_, by rw [World.frozen?_setCell]; exact (HR.out.2.1 j hj).2⟩
            by_cases e : j = i
            · subst e
              exact ⟨_, World.cell?_setCell_same _ _ _ hu⟩
            · obtain ⟨u', hu'⟩ := (HR.out.2.1 j hj).1
              exact ⟨u', (World.cell?_setCell_other _ _ _ _ (by intro hh; injection hh with _ h2; exact e h2.symm)).trans hu'⟩
          · by_cases e : j = i
            · subst e
              exact World.cell?_setCell_same _ _ _ hu
            · exact (World.cell?_setCell_other _ _ _ _ (by intro hh; injection hh with _ h2; exact e h2.symm)).trans (HR.out.2.2.1 j (by omega))
      · have i1 : ¬ (i : Int) < (L.length : Int) := by omega
        have HG : Hid (GWp wB wr a L g (fun j => j)) := ⟨HR.out.1, fun j hj => ⟨HR.out.2.2.1 j (by omega), (HR.out.2.1 j hj).2⟩, HR.out.2.2.2⟩
        have hgl : wB.heap.size ≤ g := HF.out.2.2.2
        clear HR HF
        go_wp2
        go_loopg [8] (sumW (fun j => j) L.length + 1) (fun gk s8 wx => ∃ (who : Nat → Nat) (ch : Bool), s8 = .bool ch ∧ gk = sumW who L.length + (if ch = true then 1 else 0) ∧ InvC (fun e => decide (kdn ks n e = 0)) L who ∧ (ch = false → ∀ i e, i < L.length → e < 3 → OkC (fun e => decide (kdn ks n e = 0)) L who i e) ∧ GWp wB wx a L g who)
        case atStart => exact ⟨fun j => j, true, rfl, rfl, invC_id _ L, by simp, HG.out⟩
        case round =>
          clear HG
          obtain ⟨who, ch, rfl, rfl, hI, hO, hG⟩ := hrel
          have HI : Hid (InvC (fun e => decide (kdn ks n e = 0)) L who) := hI
          have HO : Hid (ch = false → ∀ i e, i < L.length → e < 3 → OkC (fun e => decide (kdn ks n e = 0)) L who i e) := hO
          have HG : Hid (GWp wB wr a L g who) := hG
          clear hI hO hG
          cases ch
          · go_wp2
            go_ret
            exact ⟨g, rfl, who, HG.out.2.1, HI.out, HO.out (by simp), bl_via HBOX.out.1 HG.out.2.2⟩
          · obtain ⟨S0, hS0⟩ : ∃ S, S = sumW who L.length := ⟨_, rfl⟩
            have HS0 : Hid (S0 = sumW who L.length) := hS0
            go_wp2
            go_loopg [8, 9] L.length (fun gk s8 s9 wx => ∃ (i : Nat) (who : Nat → Nat) (ch : Bool), i ≤ L.length ∧ gk = L.length - i ∧ s8 = .bool ch ∧ s9 = .int .i64 (i : Int) ∧ InvC (fun e => decide (kdn ks n e = 0)) L who ∧ (sumW who L.length ≤ S0 ∧ (ch = true → sumW who L.length < S0)) ∧ (ch = false → ∀ i' e, i' < i → e < 3 → OkC (fun e => decide (kdn ks n e = 0)) L who i' e) ∧ GWp wB wx a L g who)
            case atStart => exact ⟨0, who, false, by omega, rfl, rfl, rfl, HI.out, ⟨by omega, by simp⟩, fun _ i' e h => by omega, HG.out⟩
            case round =>
              clear HG HI HO
              obtain ⟨i, who1, ch, hi, rfl, rfl, rfl, hI, hS, hO, hG⟩ := hrel
              have HI : Hid (InvC (fun e => decide (kdn ks n e = 0)) L who1 ∧ (sumW who1 L.length ≤ S0 ∧ (ch = true → sumW who1 L.length < S0)) ∧ (ch = false → ∀ i' e, i' < i → e < 3 → OkC (fun e => decide (kdn ks n e = 0)) L who1 i' e)) := ⟨hI, hS, hO⟩
              have HG : Hid (GWp wB wr a L g who1) := hG
              clear hI hS hO hG
              by_cases h1 : i < L.length
              · have i1 : (i : Int) < (L.length : Int) := by omega
                have i0 : (0 : Int) ≤ (i : Int) := by omega
                obtain ⟨ga, rfl, hne, t0, t1, t2⟩ := HG.out.1 i h1
                have hbd := HBD.out _ (List.getElem_mem h1)
                have zg : g < wr.heap.size := World.block_lt_of_cell? _ _ (HG.out.2.1 i h1).1
                obtain ⟨t, ht⟩ : ∃ t, t = L[i] := ⟨_, rfl⟩
                obtain ⟨x, y, k⟩ := t
                rw [← ht] at t0 t1 t2 hbd
                dsimp only at t0 t1 t2 hbd
                have HE : Hid ((x, y, k) = L[i]) := ht
                have HTB : Hid (triB x y k = true ∧ Kd L[i]) := ⟨by simp [triB]; omega, by rw [← ht]; exact hbd.2.2⟩
                have C13 : Hid (∀ W' : World, Calls Tryd.prog 32 #[.agg #[.int .i64 x, .int .i64 y, .int .i64 k]] W' fun e w' => ∃ g, e = .returned (.slice (some ⟨g, 0, none⟩) 3 3) ∧ W'.heap.size ≤ g ∧ Twl w' g (ue0 x y k) (ue1 x y k) (ue2 x y k) (ue3 x y k) (ue4 x y k) (ue5 x y k) (ue6 x y k) (ue7 x y k) (ue8 x y k) (ue9 x y k) (ue10 x y k) (ue11 x y k) ∧ Below W'.heap.size W' w') := fun W' => edgesOf_any x y k W' (by omega) (by omega) (by omega) (by omega) hbd.2.2.1 hbd.2.2.2
                clear ht hbd
                go_wp2_with (go_at_call 32; refine (C13.out _).mono ?_; rintro e w3 ⟨ge, rfl, hge, hM, hb⟩; have HG3 : Hid (GWp wB w3 (some ⟨ga, 0, none⟩) L g who1 ∧ Twl w3 ge (ue0 x y k) (ue1 x y k) (ue2 x y k) (ue3 x y k) (ue4 x y k) (ue5 x y k) (ue6 x y k) (ue7 x y k) (ue8 x y k) (ue9 x y k) (ue10 x y k) (ue11 x y k)) := ⟨HG.out.kept hb, hM⟩; have hgg : g < ge := (by omega); clear hge hM hb)
                go_loopg [8, 11] 3 (fun gk s8 s11 wx => ∃ (k' : Nat) (who : Nat → Nat) (ch : Bool), k' ≤ 3 ∧ gk = 3 - k' ∧ s8 = .bool ch ∧ s11 = .int .i64 (k' : Int) ∧ InvC (fun e => decide (kdn ks n e = 0)) L who ∧ (sumW who L.length ≤ S0 ∧ (ch = true → sumW who L.length < S0)) ∧ (ch = false → (∀ i' e, i' < i → e < 3 → OkC (fun e => decide (kdn ks n e = 0)) L who i' e) ∧ ∀ e, e < k' → OkC (fun e => decide (kdn ks n e = 0)) L who i e) ∧ GWp wB wx (some ⟨ga, 0, none⟩) L g who ∧ Twl wx ge (ue0 x y k) (ue1 x y k) (ue2 x y k) (ue3 x y k) (ue4 x y k) (ue5 x y k) (ue6 x y k) (ue7 x y k) (ue8 x y k) (ue9 x y k) (ue10 x y k) (ue11 x y k))
                case atStart => exact ⟨0, who1, ch, by omega, rfl, rfl, rfl, HI.out.1, HI.out.2.1, fun h => ⟨HI.out.2.2 h, fun e h => by omega⟩, HG3.out.1, HG3.out.2⟩
                case round =>
                  clear HG HG3 HI t0 t1 t2 zg
                  obtain ⟨k', who2, ch2, hk', rfl, rfl, rfl, hI, hS, hO, hG, hTw⟩ := hrel
                  have HI : Hid (InvC (fun e => decide (kdn ks n e = 0)) L who2 ∧ (sumW who2 L.length ≤ S0 ∧ (ch2 = true → sumW who2 L.length < S0)) ∧ (ch2 = false → (∀ i' e, i' < i → e < 3 → OkC (fun e => decide (kdn ks n e = 0)) L who2 i' e) ∧ ∀ e, e < k' → OkC (fun e => decide (kdn ks n e = 0)) L who2 i e)) := ⟨hI, hS, hO⟩
                  have HG : Hid (GWp wB wr (some ⟨ga, 0, none⟩) L g who2 ∧ Twl wr ge (ue0 x y k) (ue1 x y k) (ue2 x y k) (ue3 x y k) (ue4 x y k) (ue5 x y k) (ue6 x y k) (ue7 x y k) (ue8 x y k) (ue9 x y k) (ue10 x y k) (ue11 x y k)) := ⟨hG, hTw⟩
                  clear hI hS hO hG hTw
                  have hk4 : k' = 0 ∨ k' = 1 ∨ k' = 2 ∨ k' = 3 := by omega
                  rcases hk4 with rfl | rfl | rfl | rfl
                  · obtain ⟨ga', ea, hne', t0, t1, t2⟩ := HG.out.1.1 i h1
                    obtain ⟨m0, m1, m2, m3, m4, m5, m6, m7, m8, m9, m10, m11⟩ := HG.out.2
                    simp only [Option.some.injEq, Addr.mk.injEq, and_true] at ea
                    subst ea
                    rw [← HE.out] at t0 t1 t2
                    dsimp only at t0 t1 t2
                    have zt : ga < wr.heap.size := World.block_lt_of_cell? _ _ t0
                    have ze : ge < wr.heap.size := World.block_lt_of_cell? _ _ m0
                    go_wp2
                    go_cut [12, 13] (fun sa sb wx => ∃ g12 : Nat, sa = .pointer (some ⟨g12, 0, none⟩) ∧ sb = .bool true ∧ Tr wx g12 (acX x y k (ue0 x y k) (ue1 x y k) (ue2 x y k) (ue3 x y k)) (acY x y k (ue0 x y k) (ue1 x y k) (ue2 x y k) (ue3 x y k)) (acK x y k (ue0 x y k) (ue1 x y k) (ue2 x y k) (ue3 x y k)) ∧ Below wr.heap.size wr wx)
                    case first =>
                      go_region_held3 (fun w' => w'.cell? ⟨ga, i * 3, none⟩ = some (.int .i64 x) ∧ w'.cell? ⟨ga, i * 3 + 1, none⟩ = some (.int .i64 y) ∧ w'.cell? ⟨ga, i * 3 + 2, none⟩ = some (.int .i64 k) ∧ w'.cell? ⟨ge, 0, none⟩ = some (.int .i64 (ue0 x y k)) ∧ w'.cell? ⟨ge, 1, none⟩ = some (.int .i64 (ue1 x y k)) ∧ w'.cell? ⟨ge, 2, none⟩ = some (.int .i64 (ue2 x y k)) ∧ w'.cell? ⟨ge, 3, none⟩ = some (.int .i64 (ue3 x y k)))
                        ((refine ⟨?_, ?_, ?_, ?_, ?_, ?_, ?_⟩ <;> (repeat' (first | (with_reducible assumption) | (with_reducible refine st_far ?_ ?_) | (dsimp only; omega) | (simp [go_sem]; done) | (with_reducible refine al_old ?_) | (with_reducible refine dr_old ?_)))))
                        ((go_at_call 43; refine (acrossOf_yes _ _ _ _ _ _ _ _ HTB.out.1 (by simp [hasB, e0, sameB])).mono ?_; rintro e w8 ⟨rfl, hb⟩; have t0_w8 : w8.cell? ⟨ga, i * 3, none⟩ = some (.int .i64 x) := cl_kept hb (by with_reducible (repeat (first | assumption | refine dr_old ?_ | refine al_old ?_))); have t1_w8 : w8.cell? ⟨ga, i * 3 + 1, none⟩ = some (.int .i64 y) := cl_kept hb (by with_reducible (repeat (first | assumption | refine dr_old ?_ | refine al_old ?_))); have t2_w8 : w8.cell? ⟨ga, i * 3 + 2, none⟩ = some (.int .i64 k) := cl_kept hb (by with_reducible (repeat (first | assumption | refine dr_old ?_ | refine al_old ?_))); have m0_w8 : w8.cell? ⟨ge, 0, none⟩ = some (.int .i64 (ue0 x y k)) := cl_kept hb (by with_reducible (repeat (first | assumption | refine dr_old ?_ | refine al_old ?_))); have m1_w8 : w8.cell? ⟨ge, 1, none⟩ = some (.int .i64 (ue1 x y k)) := cl_kept hb (by with_reducible (repeat (first | assumption | refine dr_old ?_ | refine al_old ?_))); have m2_w8 : w8.cell? ⟨ge, 2, none⟩ = some (.int .i64 (ue2 x y k)) := cl_kept hb (by with_reducible (repeat (first | assumption | refine dr_old ?_ | refine al_old ?_))); have m3_w8 : w8.cell? ⟨ge, 3, none⟩ = some (.int .i64 (ue3 x y k)) := cl_kept hb (by with_reducible (repeat (first | assumption | refine dr_old ?_ | refine al_old ?_))); (first | (have hfz := fresh_a (g := wr.heap.size) rfl hb; obtain ⟨fy0, fy1, fy2, fz0, fz1, fz2, fz3⟩ := hfz) | (have hfz := fresh_d (g := wr.heap.size) rfl hb; obtain ⟨fy0, fy1, fy2, fz0, fz1, fz2, fz3⟩ := hfz) | (have hfz := fresh_dd (g := wr.heap.size) rfl hb; obtain ⟨fy0, fy1, fy2, fz0, fz1, fz2, fz3⟩ := hfz) | skip); have hq : Below wr.heap.size wr w8 := (by with_reducible (first | exact hb | exact bl_undrew hb | exact bl_undrew (bl_undrew hb) | exact bl_via (bl_alloc (bl_refl _)) hb | exact bl_via (bl_drew (bl_alloc (bl_refl _))) hb | exact bl_via (bl_alloc (bl_drew (bl_refl _))) hb | exact bl_via (bl_drew (bl_alloc (bl_drew (bl_refl _)))) hb)); have HQ : Hid (Below wr.heap.size wr w8) := hq; have zs0 : ga < w8.heap.size := World.block_lt_of_cell? _ _ t0_w8; have zs1 : ge < w8.heap.size := World.block_lt_of_cell? _ _ m0_w8; clear hb hq))
                      all_goals
                        go_wp2
                        go_meet
                        case rel =>
                          refine ⟨_, rfl, rfl, ?_, ?_⟩
                          · first | (simp [Tr, go_sem]; done) | (simp [Tr, go_sem, *]; done)
                          · with_reducible repeat' (first | exact HQ.out | refine bl_set ?_ ?_ | refine bl_alloc ?_ | refine bl_drew ?_)
                            all_goals (first | omega | (dsimp only; omega) | (simp; done))
                    case rest =>
                      obtain ⟨g12, rfl, rfl, hTr, hBc⟩ := hcut
                      have HG1 : Hid (GWp wB wc (some ⟨ga, 0, none⟩) L g who2 ∧ Twl wc ge (ue0 x y k) (ue1 x y k) (ue2 x y k) (ue3 x y k) (ue4 x y k) (ue5 x y k) (ue6 x y k) (ue7 x y k) (ue8 x y k) (ue9 x y k) (ue10 x y k) (ue11 x y k)) := ⟨HG.out.1.kept hBc, HG.out.2.kept hBc⟩
                      have HTr : Hid (Tr wc g12 (acX x y k (ue0 x y k) (ue1 x y k) (ue2 x y k) (ue3 x y k)) (acY x y k (ue0 x y k) (ue1 x y k) (ue2 x y k) (ue3 x y k)) (acK x y k (ue0 x y k) (ue1 x y k) (ue2 x y k) (ue3 x y k))) := hTr
                      clear hTr hBc HG t0 t1 t2 m0 m1 m2 m3 m4 m5 m6 m7 m8 m9 m10 m11 zt ze
                      obtain ⟨n0, n1, n2⟩ := HTr.out
                      have zn : g12 < wc.heap.size := World.block_lt_of_cell? _ _ n0
                      have HPL : Hid (plc L (acr L[i] (edg L[i] 0)) = plc L ((acX x y k (ue0 x y k) (ue1 x y k) (ue2 x y k) (ue3 x y k)), (acY x y k (ue0 x y k) (ue1 x y k) (ue2 x y k) (ue3 x y k)), (acK x y k (ue0 x y k) (ue1 x y k) (ue2 x y k) (ue3 x y k)))) := by
                        show plc L (acr L[i] (edg L[i] 0)) = plc L ((acX x y k (ue0 x y k) (ue1 x y k) (ue2 x y k) (ue3 x y k)), (acY x y k (ue0 x y k) (ue1 x y k) (ue2 x y k) (ue3 x y k)), (acK x y k (ue0 x y k) (ue1 x y k) (ue2 x y k) (ue3 x y k)))
                        rw [← HE.out]
                        rfl
                      have hgi : edg L[i] 0 = (ue0 x y k, ue1 x y k, ue2 x y k, ue3 x y k) := by rw [← HE.out]; rfl
                      obtain ⟨z, hz⟩ : ∃ z, z = kdn ks n (ue0 x y k, ue1 x y k, ue2 x y k, ue3 x y k) := ⟨_, rfl⟩
                      have HZ : Hid (decide (kdn ks n (edg L[i] 0) = 0) = decide (z = 0)) := by
                        have : decide (kdn ks n (edg L[i] 0) = 0) = decide (z = 0) := by rw [hgi, hz]
                        exact this
                      have CK : Hid (∀ W' : World, Below wc.heap.size wc W' → Calls Tryd.prog 36 #[.agg #[.int .i64 (W : Int), .int .i64 (H : Int), .slice (some ⟨b, off, none⟩) zs.length cap, .slice cb n ccap], .agg #[.int .i64 (ue0 x y k), .int .i64 (ue1 x y k), .int .i64 (ue2 x y k), .int .i64 (ue3 x y k)]] W' fun e w' => e = .returned (.int .i64 z) ∧ Below W'.heap.size W' w') := fun W' hW' => hz ▸ CK0.out _ _ _ _ W' (bl_via HBOX.out.1 (bl_via HG1.out.1.2.2 hW'))
                      clear hgi hz
                      have b0 := cl_kept HG1.out.1.2.2 HBOX.out.2.1
                      have b1 := cl_kept HG1.out.1.2.2 HBOX.out.2.2.1
                      have b2 := cl_kept HG1.out.1.2.2 HBOX.out.2.2.2.1
                      have b3 := cl_kept HG1.out.1.2.2 HBOX.out.2.2.2.2
                      obtain ⟨m0, m1, m2, m3, m4, m5, m6, m7, m8, m9, m10, m11⟩ := HG1.out.2
                      have zb : w.heap.size < wc.heap.size := World.block_lt_of_cell? _ _ b0
                      have ze : ge < wc.heap.size := World.block_lt_of_cell? _ _ m0
                      have kc := Kin.cells wc
                      have kn : Nonempty (Kin wc) := ⟨⟨wc, bl_refl _⟩⟩
                      go_wp2
                      refine wp_region_kin (by kernel_rfl) (by kernel_rfl) ?_
                      repeat (go_big_quiet_step ((go_at_call 36; exact kin_of (CK.out _ (Kin.h _)))))
                      refine wpQuiet_nil ?_
                      intro we hw'
                      obtain ⟨nq, hw''⟩ := hw'
                      have hq : Below wc.heap.size wc we := hw'' ▸ nq.h
                      have n0' := cl_kept hq n0
                      have n1' := cl_kept hq n1
                      have n2' := cl_kept hq n2
                      have zn' : g12 < we.heap.size := World.block_lt_of_cell? _ _ n0'
                      have HGe : Hid (GWp wB we (some ⟨ga, 0, none⟩) L g who2 ∧ Twl we ge (ue0 x y k) (ue1 x y k) (ue2 x y k) (ue3 x y k) (ue4 x y k) (ue5 x y k) (ue6 x y k) (ue7 x y k) (ue8 x y k) (ue9 x y k) (ue10 x y k) (ue11 x y k)) := ⟨HG1.out.1.kept hq, HG1.out.2.kept hq⟩
                      clear hw'' nq hq kc kn zb ze b0 b1 b2 b3 m0 m1 m2 m3 m4 m5 m6 m7 m8 m9 m10 m11 HG1 n0 n1 n2 zn HTr CK
                      by_cases hz0 : z = 0
                      · have HCR : Hid (decide (kdn ks n (edg L[i] 0) = 0) = true) := by
                          have : decide (kdn ks n (edg L[i] 0) = 0) = true := by rw [HZ.out]; simpa using hz0
                          exact this
                        subst hz0
                        rcases plc_bd L ((acX x y k (ue0 x y k) (ue1 x y k) (ue2 x y k) (ue3 x y k)), (acY x y k (ue0 x y k) (ue1 x y k) (ue2 x y k) (ue3 x y k)), (acK x y k (ue0 x y k) (ue1 x y k) (ue2 x y k) (ue3 x y k))) with hp | ⟨j, hj, hp⟩
                        · have C110 : Hid (∀ W' : World, TRow W' (some ⟨ga, 0, none⟩) L → Calls Tryd.prog 44 #[.slice (some ⟨ga, 0, none⟩) L.length ca, .agg #[.int .i64 (acX x y k (ue0 x y k) (ue1 x y k) (ue2 x y k) (ue3 x y k)), .int .i64 (acY x y k (ue0 x y k) (ue1 x y k) (ue2 x y k) (ue3 x y k)), .int .i64 (acK x y k (ue0 x y k) (ue1 x y k) (ue2 x y k) (ue3 x y k))]] W' fun e w' => e = .returned (.int .i64 (-1)) ∧ Below W'.heap.size W' w') := fun W' hT => hp ▸ placeOf_any _ ca L _ _ _ W' hT hlen
                          have HOK : Hid (OkC (fun e => decide (kdn ks n e = 0)) L who2 i 0) := fun hi' _ j' hj' hq => by
                            rw [HPL.out, hp] at hq
                            omega
                          clear hp
                          go_wp2_with (go_at_call 44; refine (C110.out _ (HGe.out.1.1.row)).mono ?_; rintro e w10 ⟨rfl, hb⟩; have HG2 : Hid (GWp wB w10 (some ⟨ga, 0, none⟩) L g who2 ∧ Twl w10 ge (ue0 x y k) (ue1 x y k) (ue2 x y k) (ue3 x y k) (ue4 x y k) (ue5 x y k) (ue6 x y k) (ue7 x y k) (ue8 x y k) (ue9 x y k) (ue10 x y k) (ue11 x y k)) := ⟨HGe.out.1.kept hb, HGe.out.2.kept hb⟩; clear hb)
                          go_quiet (fail)
                          go_wp2
                          go_roundg 2
                          case measure => omega
                          case rel =>
                            refine ⟨1, who2, ch2, by omega, rfl, rfl, by go_num, HI.out.1, HI.out.2.1, fun h => ⟨(HI.out.2.2 h).1, fun e' he' => ?_⟩, HG2.out.1.kept (bl_drewN (bl_refl _)), HG2.out.2.kept (bl_drewN (bl_refl _))⟩
                            by_cases ee : e' = 0
                            · subst ee; exact HOK.out
                            · exact (HI.out.2.2 h).2 e' (by omega)
                        · have C110 : Hid (∀ W' : World, TRow W' (some ⟨ga, 0, none⟩) L → Calls Tryd.prog 44 #[.slice (some ⟨ga, 0, none⟩) L.length ca, .agg #[.int .i64 (acX x y k (ue0 x y k) (ue1 x y k) (ue2 x y k) (ue3 x y k)), .int .i64 (acY x y k (ue0 x y k) (ue1 x y k) (ue2 x y k) (ue3 x y k)), .int .i64 (acK x y k (ue0 x y k) (ue1 x y k) (ue2 x y k) (ue3 x y k))]] W' fun e w' => e = .returned (.int .i64 (j : Int)) ∧ Below W'.heap.size W' w') := fun W' hT => hp ▸ placeOf_any _ ca L _ _ _ W' hT hlen
                          have HP : Hid (plc L (acr L[i] (edg L[i] 0)) = (j : Int)) := HPL.out.trans hp
                          have j1 : (j : Int) < (L.length : Int) := by omega
                          have j0 : (0 : Int) ≤ (j : Int) := by omega
                          clear hp
                          go_wp2_with (go_at_call 44; refine (C110.out _ (HGe.out.1.1.row)).mono ?_; rintro e w10 ⟨rfl, hb⟩; have HG2 : Hid (GWp wB w10 (some ⟨ga, 0, none⟩) L g who2 ∧ Twl w10 ge (ue0 x y k) (ue1 x y k) (ue2 x y k) (ue3 x y k) (ue4 x y k) (ue5 x y k) (ue6 x y k) (ue7 x y k) (ue8 x y k) (ue9 x y k) (ue10 x y k) (ue11 x y k)) := ⟨HGe.out.1.kept hb, HGe.out.2.kept hb⟩; clear hb)
                          obtain ⟨ci, fi⟩ := HG2.out.1.2.1 i h1
                          obtain ⟨cj, fj⟩ := HG2.out.1.2.1 j hj
                          by_cases hlt : who2 j < who2 i
                          · have q1 : (who2 j : Int) < (who2 i : Int) := by omega
                            go_quiet (fail)
                            generalize hwd : World.drewN w10 _ = wd
                            have ci' : wd.cell? ⟨g, i, none⟩ = some (.int .i64 (who2 i : Int)) := by rw [← hwd]; exact ci
                            have cj' : wd.cell? ⟨g, j, none⟩ = some (.int .i64 (who2 j : Int)) := by rw [← hwd]; exact cj
                            have fi' : wd.frozen? ⟨g, i, none⟩ = false := by rw [← hwd]; exact fi
                            have HGd : Hid (GWp wB wd (some ⟨ga, 0, none⟩) L g who2 ∧ Twl wd ge (ue0 x y k) (ue1 x y k) (ue2 x y k) (ue3 x y k) (ue4 x y k) (ue5 x y k) (ue6 x y k) (ue7 x y k) (ue8 x y k) (ue9 x y k) (ue10 x y k) (ue11 x y k)) := by
                              rw [← hwd]
                              exact ⟨HG2.out.1.kept (bl_drewN (bl_refl _)), HG2.out.2.kept (bl_drewN (bl_refl _))⟩
                            clear ci cj fi fj hwd HG2 HGe n0' n1' n2' zn'
                            go_wp2
                            go_roundg 2
                            case measure => omega
                            case rel => exact ⟨1, upd who2 i (who2 j), true, by omega, rfl, rfl, by go_num, invC_upd HI.out.1 h1 hj HTB.out.2 HCR.out HP.out hlt, ⟨Nat.le_trans (Nat.le_of_lt (sum_upd hlt _ h1)) HI.out.2.1.1, fun _ => Nat.lt_of_lt_of_le (sum_upd hlt _ h1) HI.out.2.1.1⟩, by simp, ⟨HGd.out.1.1.set, HGd.out.1.2.1.set h1, bl_set HGd.out.1.2.2 hgl⟩, HGd.out.2.set (by dsimp only; omega)⟩
                          · have q1 : ¬ (who2 j : Int) < (who2 i : Int) := by omega
                            have HOK : Hid (OkC (fun e => decide (kdn ks n e = 0)) L who2 i 0) := fun hi' _ j' hj' hq => by
                              rw [HP.out] at hq
                              obtain rfl : j = j' := by omega
                              omega
                            go_quiet (fail)
                            go_wp2
                            go_roundg 2
                            case measure => omega
                            case rel =>
                              refine ⟨1, who2, ch2, by omega, rfl, rfl, by go_num, HI.out.1, HI.out.2.1, fun h => ⟨(HI.out.2.2 h).1, fun e' he' => ?_⟩, HG2.out.1.kept (bl_drewN (bl_refl _)), HG2.out.2.kept (bl_drewN (bl_refl _))⟩
                              by_cases ee : e' = 0
                              · subst ee; exact HOK.out
                              · exact (HI.out.2.2 h).2 e' (by omega)
                      · have HOK : Hid (OkC (fun e => decide (kdn ks n e = 0)) L who2 i 0) := fun hi' hc => by
                          have h9 := HZ.out.symm.trans hc
                          simp at h9
                          exact absurd h9 hz0
                        go_wp2
                        go_roundg 2
                        case measure => omega
                        case rel =>
                          refine ⟨1, who2, ch2, by omega, rfl, rfl, by go_num, HI.out.1, HI.out.2.1, fun h => ⟨(HI.out.2.2 h).1, fun e' he' => ?_⟩, HGe.out.1, HGe.out.2⟩
                          by_cases ee : e' = 0
                          · subst ee; exact HOK.out
                          · exact (HI.out.2.2 h).2 e' (by omega)
                  · obtain ⟨ga', ea, hne', t0, t1, t2⟩ := HG.out.1.1 i h1
                    obtain ⟨m0, m1, m2, m3, m4, m5, m6, m7, m8, m9, m10, m11⟩ := HG.out.2
                    simp only [Option.some.injEq, Addr.mk.injEq, and_true] at ea
                    subst ea
                    rw [← HE.out] at t0 t1 t2
                    dsimp only at t0 t1 t2
                    have zt : ga < wr.heap.size := World.block_lt_of_cell? _ _ t0
                    have ze : ge < wr.heap.size := World.block_lt_of_cell? _ _ m0
                    go_wp2
                    go_cut [12, 13] (fun sa sb wx => ∃ g12 : Nat, sa = .pointer (some ⟨g12, 0, none⟩) ∧ sb = .bool true ∧ Tr wx g12 (acX x y k (ue4 x y k) (ue5 x y k) (ue6 x y k) (ue7 x y k)) (acY x y k (ue4 x y k) (ue5 x y k) (ue6 x y k) (ue7 x y k)) (acK x y k (ue4 x y k) (ue5 x y k) (ue6 x y k) (ue7 x y k)) ∧ Below wr.heap.size wr wx)
                    case first =>
                      go_region_held3 (fun w' => w'.cell? ⟨ga, i * 3, none⟩ = some (.int .i64 x) ∧ w'.cell? ⟨ga, i * 3 + 1, none⟩ = some (.int .i64 y) ∧ w'.cell? ⟨ga, i * 3 + 2, none⟩ = some (.int .i64 k) ∧ w'.cell? ⟨ge, 4, none⟩ = some (.int .i64 (ue4 x y k)) ∧ w'.cell? ⟨ge, 5, none⟩ = some (.int .i64 (ue5 x y k)) ∧ w'.cell? ⟨ge, 6, none⟩ = some (.int .i64 (ue6 x y k)) ∧ w'.cell? ⟨ge, 7, none⟩ = some (.int .i64 (ue7 x y k)))
                        ((refine ⟨?_, ?_, ?_, ?_, ?_, ?_, ?_⟩ <;> (repeat' (first | (with_reducible assumption) | (with_reducible refine st_far ?_ ?_) | (dsimp only; omega) | (simp [go_sem]; done) | (with_reducible refine al_old ?_) | (with_reducible refine dr_old ?_)))))
                        ((go_at_call 43; refine (acrossOf_yes _ _ _ _ _ _ _ _ HTB.out.1 (by simp [hasB, e1, sameB])).mono ?_; rintro e w8 ⟨rfl, hb⟩; have t0_w8 : w8.cell? ⟨ga, i * 3, none⟩ = some (.int .i64 x) := cl_kept hb (by with_reducible (repeat (first | assumption | refine dr_old ?_ | refine al_old ?_))); have t1_w8 : w8.cell? ⟨ga, i * 3 + 1, none⟩ = some (.int .i64 y) := cl_kept hb (by with_reducible (repeat (first | assumption | refine dr_old ?_ | refine al_old ?_))); have t2_w8 : w8.cell? ⟨ga, i * 3 + 2, none⟩ = some (.int .i64 k) := cl_kept hb (by with_reducible (repeat (first | assumption | refine dr_old ?_ | refine al_old ?_))); have m4_w8 : w8.cell? ⟨ge, 4, none⟩ = some (.int .i64 (ue4 x y k)) := cl_kept hb (by with_reducible (repeat (first | assumption | refine dr_old ?_ | refine al_old ?_))); have m5_w8 : w8.cell? ⟨ge, 5, none⟩ = some (.int .i64 (ue5 x y k)) := cl_kept hb (by with_reducible (repeat (first | assumption | refine dr_old ?_ | refine al_old ?_))); have m6_w8 : w8.cell? ⟨ge, 6, none⟩ = some (.int .i64 (ue6 x y k)) := cl_kept hb (by with_reducible (repeat (first | assumption | refine dr_old ?_ | refine al_old ?_))); have m7_w8 : w8.cell? ⟨ge, 7, none⟩ = some (.int .i64 (ue7 x y k)) := cl_kept hb (by with_reducible (repeat (first | assumption | refine dr_old ?_ | refine al_old ?_))); (first | (have hfz := fresh_a (g := wr.heap.size) rfl hb; obtain ⟨fy0, fy1, fy2, fz0, fz1, fz2, fz3⟩ := hfz) | (have hfz := fresh_d (g := wr.heap.size) rfl hb; obtain ⟨fy0, fy1, fy2, fz0, fz1, fz2, fz3⟩ := hfz) | (have hfz := fresh_dd (g := wr.heap.size) rfl hb; obtain ⟨fy0, fy1, fy2, fz0, fz1, fz2, fz3⟩ := hfz) | skip); have hq : Below wr.heap.size wr w8 := (by with_reducible (first | exact hb | exact bl_undrew hb | exact bl_undrew (bl_undrew hb) | exact bl_via (bl_alloc (bl_refl _)) hb | exact bl_via (bl_drew (bl_alloc (bl_refl _))) hb | exact bl_via (bl_alloc (bl_drew (bl_refl _))) hb | exact bl_via (bl_drew (bl_alloc (bl_drew (bl_refl _)))) hb)); have HQ : Hid (Below wr.heap.size wr w8) := hq; have zs0 : ga < w8.heap.size := World.block_lt_of_cell? _ _ t0_w8; have zs1 : ge < w8.heap.size := World.block_lt_of_cell? _ _ m4_w8; clear hb hq))
                      all_goals
                        go_wp2
                        go_meet
                        case rel =>
                          refine ⟨_, rfl, rfl, ?_, ?_⟩
                          · first | (simp [Tr, go_sem]; done) | (simp [Tr, go_sem, *]; done)
                          · with_reducible repeat' (first | exact HQ.out | refine bl_set ?_ ?_ | refine bl_alloc ?_ | refine bl_drew ?_)
                            all_goals (first | omega | (dsimp only; omega) | (simp; done))
                    case rest =>
                      obtain ⟨g12, rfl, rfl, hTr, hBc⟩ := hcut
                      have HG1 : Hid (GWp wB wc (some ⟨ga, 0, none⟩) L g who2 ∧ Twl wc ge (ue0 x y k) (ue1 x y k) (ue2 x y k) (ue3 x y k) (ue4 x y k) (ue5 x y k) (ue6 x y k) (ue7 x y k) (ue8 x y k) (ue9 x y k) (ue10 x y k) (ue11 x y k)) := ⟨HG.out.1.kept hBc, HG.out.2.kept hBc⟩
                      have HTr : Hid (Tr wc g12 (acX x y k (ue4 x y k) (ue5 x y k) (ue6 x y k) (ue7 x y k)) (acY x y k (ue4 x y k) (ue5 x y k) (ue6 x y k) (ue7 x y k)) (acK x y k (ue4 x y k) (ue5 x y k) (ue6 x y k) (ue7 x y k))) := hTr
                      clear hTr hBc HG t0 t1 t2 m0 m1 m2 m3 m4 m5 m6 m7 m8 m9 m10 m11 zt ze
                      obtain ⟨n0, n1, n2⟩ := HTr.out
                      have zn : g12 < wc.heap.size := World.block_lt_of_cell? _ _ n0
                      have HPL : Hid (plc L (acr L[i] (edg L[i] 1)) = plc L ((acX x y k (ue4 x y k) (ue5 x y k) (ue6 x y k) (ue7 x y k)), (acY x y k (ue4 x y k) (ue5 x y k) (ue6 x y k) (ue7 x y k)), (acK x y k (ue4 x y k) (ue5 x y k) (ue6 x y k) (ue7 x y k)))) := by
                        show plc L (acr L[i] (edg L[i] 1)) = plc L ((acX x y k (ue4 x y k) (ue5 x y k) (ue6 x y k) (ue7 x y k)), (acY x y k (ue4 x y k) (ue5 x y k) (ue6 x y k) (ue7 x y k)), (acK x y k (ue4 x y k) (ue5 x y k) (ue6 x y k) (ue7 x y k)))
                        rw [← HE.out]
                        rfl
                      have hgi : edg L[i] 1 = (ue4 x y k, ue5 x y k, ue6 x y k, ue7 x y k) := by rw [← HE.out]; rfl
                      obtain ⟨z, hz⟩ : ∃ z, z = kdn ks n (ue4 x y k, ue5 x y k, ue6 x y k, ue7 x y k) := ⟨_, rfl⟩
                      have HZ : Hid (decide (kdn ks n (edg L[i] 1) = 0) = decide (z = 0)) := by
                        have : decide (kdn ks n (edg L[i] 1) = 0) = decide (z = 0) := by rw [hgi, hz]
                        exact this
                      have CK : Hid (∀ W' : World, Below wc.heap.size wc W' → Calls Tryd.prog 36 #[.agg #[.int .i64 (W : Int), .int .i64 (H : Int), .slice (some ⟨b, off, none⟩) zs.length cap, .slice cb n ccap], .agg #[.int .i64 (ue4 x y k), .int .i64 (ue5 x y k), .int .i64 (ue6 x y k), .int .i64 (ue7 x y k)]] W' fun e w' => e = .returned (.int .i64 z) ∧ Below W'.heap.size W' w') := fun W' hW' => hz ▸ CK0.out _ _ _ _ W' (bl_via HBOX.out.1 (bl_via HG1.out.1.2.2 hW'))
                      clear hgi hz
                      have b0 := cl_kept HG1.out.1.2.2 HBOX.out.2.1
                      have b1 := cl_kept HG1.out.1.2.2 HBOX.out.2.2.1
                      have b2 := cl_kept HG1.out.1.2.2 HBOX.out.2.2.2.1
                      have b3 := cl_kept HG1.out.1.2.2 HBOX.out.2.2.2.2
                      obtain ⟨m0, m1, m2, m3, m4, m5, m6, m7, m8, m9, m10, m11⟩ := HG1.out.2
                      have zb : w.heap.size < wc.heap.size := World.block_lt_of_cell? _ _ b0
                      have ze : ge < wc.heap.size := World.block_lt_of_cell? _ _ m0
                      have kc := Kin.cells wc
                      have kn : Nonempty (Kin wc) := ⟨⟨wc, bl_refl _⟩⟩
                      go_wp2
                      refine wp_region_kin (by kernel_rfl) (by kernel_rfl) ?_
                      repeat (go_big_quiet_step ((go_at_call 36; exact kin_of (CK.out _ (Kin.h _)))))
                      refine wpQuiet_nil ?_
                      intro we hw'
                      obtain ⟨nq, hw''⟩ := hw'
                      have hq : Below wc.heap.size wc we := hw'' ▸ nq.h
                      have n0' := cl_kept hq n0
                      have n1' := cl_kept hq n1
                      have n2' := cl_kept hq n2
                      have zn' : g12 < we.heap.size := World.block_lt_of_cell? _ _ n0'
                      have HGe : Hid (GWp wB we (some ⟨ga, 0, none⟩) L g who2 ∧ Twl we ge (ue0 x y k) (ue1 x y k) (ue2 x y k) (ue3 x y k) (ue4 x y k) (ue5 x y k) (ue6 x y k) (ue7 x y k) (ue8 x y k) (ue9 x y k) (ue10 x y k) (ue11 x y k)) := ⟨HG1.out.1.kept hq, HG1.out.2.kept hq⟩
                      clear hw'' nq hq kc kn zb ze b0 b1 b2 b3 m0 m1 m2 m3 m4 m5 m6 m7 m8 m9 m10 m11 HG1 n0 n1 n2 zn HTr CK
                      by_cases hz0 : z = 0
                      · have HCR : Hid (decide (kdn ks n (edg L[i] 1) = 0) = true) := by
                          have : decide (kdn ks n (edg L[i] 1) = 0) = true := by rw [HZ.out]; simpa using hz0
                          exact this
                        subst hz0
                        rcases plc_bd L ((acX x y k (ue4 x y k) (ue5 x y k) (ue6 x y k) (ue7 x y k)), (acY x y k (ue4 x y k) (ue5 x y k) (ue6 x y k) (ue7 x y k)), (acK x y k (ue4 x y k) (ue5 x y k) (ue6 x y k) (ue7 x y k))) with hp | ⟨j, hj, hp⟩
                        · have C110 : Hid (∀ W' : World, TRow W' (some ⟨ga, 0, none⟩) L → Calls Tryd.prog 44 #[.slice (some ⟨ga, 0, none⟩) L.length ca, .agg #[.int .i64 (acX x y k (ue4 x y k) (ue5 x y k) (ue6 x y k) (ue7 x y k)), .int .i64 (acY x y k (ue4 x y k) (ue5 x y k) (ue6 x y k) (ue7 x y k)), .int .i64 (acK x y k (ue4 x y k) (ue5 x y k) (ue6 x y k) (ue7 x y k))]] W' fun e w' => e = .returned (.int .i64 (-1)) ∧ Below W'.heap.size W' w') := fun W' hT => hp ▸ placeOf_any _ ca L _ _ _ W' hT hlen
                          have HOK : Hid (OkC (fun e => decide (kdn ks n e = 0)) L who2 i 1) := fun hi' _ j' hj' hq => by
                            rw [HPL.out, hp] at hq
                            omega
                          clear hp
                          go_wp2_with (go_at_call 44; refine (C110.out _ (HGe.out.1.1.row)).mono ?_; rintro e w10 ⟨rfl, hb⟩; have HG2 : Hid (GWp wB w10 (some ⟨ga, 0, none⟩) L g who2 ∧ Twl w10 ge (ue0 x y k) (ue1 x y k) (ue2 x y k) (ue3 x y k) (ue4 x y k) (ue5 x y k) (ue6 x y k) (ue7 x y k) (ue8 x y k) (ue9 x y k) (ue10 x y k) (ue11 x y k)) := ⟨HGe.out.1.kept hb, HGe.out.2.kept hb⟩; clear hb)
                          go_quiet (fail)
                          go_wp2
                          go_roundg 1
                          case measure => omega
                          case rel =>
                            refine ⟨2, who2, ch2, by omega, rfl, rfl, by go_num, HI.out.1, HI.out.2.1, fun h => ⟨(HI.out.2.2 h).1, fun e' he' => ?_⟩, HG2.out.1.kept (bl_drewN (bl_refl _)), HG2.out.2.kept (bl_drewN (bl_refl _))⟩
                            by_cases ee : e' = 1
                            · subst ee; exact HOK.out
                            · exact (HI.out.2.2 h).2 e' (by omega)
                        · have C110 : Hid (∀ W' : World, TRow W' (some ⟨ga, 0, none⟩) L → Calls Tryd.prog 44 #[.slice (some ⟨ga, 0, none⟩) L.length ca, .agg #[.int .i64 (acX x y k (ue4 x y k) (ue5 x y k) (ue6 x y k) (ue7 x y k)), .int .i64 (acY x y k (ue4 x y k) (ue5 x y k) (ue6 x y k) (ue7 x y k)), .int .i64 (acK x y k (ue4 x y k) (ue5 x y k) (ue6 x y k) (ue7 x y k))]] W' fun e w' => e = .returned (.int .i64 (j : Int)) ∧ Below W'.heap.size W' w') := fun W' hT => hp ▸ placeOf_any _ ca L _ _ _ W' hT hlen
                          have HP : Hid (plc L (acr L[i] (edg L[i] 1)) = (j : Int)) := HPL.out.trans hp
                          have j1 : (j : Int) < (L.length : Int) := by omega
                          have j0 : (0 : Int) ≤ (j : Int) := by omega
                          clear hp
                          go_wp2_with (go_at_call 44; refine (C110.out _ (HGe.out.1.1.row)).mono ?_; rintro e w10 ⟨rfl, hb⟩; have HG2 : Hid (GWp wB w10 (some ⟨ga, 0, none⟩) L g who2 ∧ Twl w10 ge (ue0 x y k) (ue1 x y k) (ue2 x y k) (ue3 x y k) (ue4 x y k) (ue5 x y k) (ue6 x y k) (ue7 x y k) (ue8 x y k) (ue9 x y k) (ue10 x y k) (ue11 x y k)) := ⟨HGe.out.1.kept hb, HGe.out.2.kept hb⟩; clear hb)
                          obtain ⟨ci, fi⟩ := HG2.out.1.2.1 i h1
                          obtain ⟨cj, fj⟩ := HG2.out.1.2.1 j hj
                          by_cases hlt : who2 j < who2 i
                          · have q1 : (who2 j : Int) < (who2 i : Int) := by omega
                            go_quiet (fail)
                            generalize hwd : World.drewN w10 _ = wd
                            have ci' : wd.cell? ⟨g, i, none⟩ = some (.int .i64 (who2 i : Int)) := by rw [← hwd]; exact ci
                            have cj' : wd.cell? ⟨g, j, none⟩ = some (.int .i64 (who2 j : Int)) := by rw [← hwd]; exact cj
                            have fi' : wd.frozen? ⟨g, i, none⟩ = false := by rw [← hwd]; exact fi
                            have HGd : Hid (GWp wB wd (some ⟨ga, 0, none⟩) L g who2 ∧ Twl wd ge (ue0 x y k) (ue1 x y k) (ue2 x y k) (ue3 x y k) (ue4 x y k) (ue5 x y k) (ue6 x y k) (ue7 x y k) (ue8 x y k) (ue9 x y k) (ue10 x y k) (ue11 x y k)) := by
                              rw [← hwd]
                              exact ⟨HG2.out.1.kept (bl_drewN (bl_refl _)), HG2.out.2.kept (bl_drewN (bl_refl _))⟩
                            clear ci cj fi fj hwd HG2 HGe n0' n1' n2' zn'
                            go_wp2
                            go_roundg 1
                            case measure => omega
                            case rel => exact ⟨2, upd who2 i (who2 j), true, by omega, rfl, rfl, by go_num, invC_upd HI.out.1 h1 hj HTB.out.2 HCR.out HP.out hlt, ⟨Nat.le_trans (Nat.le_of_lt (sum_upd hlt _ h1)) HI.out.2.1.1, fun _ => Nat.lt_of_lt_of_le (sum_upd hlt _ h1) HI.out.2.1.1⟩, by simp, ⟨HGd.out.1.1.set, HGd.out.1.2.1.set h1, bl_set HGd.out.1.2.2 hgl⟩, HGd.out.2.set (by dsimp only; omega)⟩
                          · have q1 : ¬ (who2 j : Int) < (who2 i : Int) := by omega
                            have HOK : Hid (OkC (fun e => decide (kdn ks n e = 0)) L who2 i 1) := fun hi' _ j' hj' hq => by
                              rw [HP.out] at hq
                              obtain rfl : j = j' := by omega
                              omega
                            go_quiet (fail)
                            go_wp2
                            go_roundg 1
                            case measure => omega
                            case rel =>
                              refine ⟨2, who2, ch2, by omega, rfl, rfl, by go_num, HI.out.1, HI.out.2.1, fun h => ⟨(HI.out.2.2 h).1, fun e' he' => ?_⟩, HG2.out.1.kept (bl_drewN (bl_refl _)), HG2.out.2.kept (bl_drewN (bl_refl _))⟩
                              by_cases ee : e' = 1
                              · subst ee; exact HOK.out
                              · exact (HI.out.2.2 h).2 e' (by omega)
                      · have HOK : Hid (OkC (fun e => decide (kdn ks n e = 0)) L who2 i 1) := fun hi' hc => by
                          have h9 := HZ.out.symm.trans hc
                          simp at h9
                          exact absurd h9 hz0
                        go_wp2
                        go_roundg 1
                        case measure => omega
                        case rel =>
                          refine ⟨2, who2, ch2, by omega, rfl, rfl, by go_num, HI.out.1, HI.out.2.1, fun h => ⟨(HI.out.2.2 h).1, fun e' he' => ?_⟩, HGe.out.1, HGe.out.2⟩
                          by_cases ee : e' = 1
                          · subst ee; exact HOK.out
                          · exact (HI.out.2.2 h).2 e' (by omega)
                  · obtain ⟨ga', ea, hne', t0, t1, t2⟩ := HG.out.1.1 i h1
                    obtain ⟨m0, m1, m2, m3, m4, m5, m6, m7, m8, m9, m10, m11⟩ := HG.out.2
                    simp only [Option.some.injEq, Addr.mk.injEq, and_true] at ea
                    subst ea
                    rw [← HE.out] at t0 t1 t2
                    dsimp only at t0 t1 t2
                    have zt : ga < wr.heap.size := World.block_lt_of_cell? _ _ t0
                    have ze : ge < wr.heap.size := World.block_lt_of_cell? _ _ m0
                    go_wp2
                    go_cut [12, 13] (fun sa sb wx => ∃ g12 : Nat, sa = .pointer (some ⟨g12, 0, none⟩) ∧ sb = .bool true ∧ Tr wx g12 (acX x y k (ue8 x y k) (ue9 x y k) (ue10 x y k) (ue11 x y k)) (acY x y k (ue8 x y k) (ue9 x y k) (ue10 x y k) (ue11 x y k)) (acK x y k (ue8 x y k) (ue9 x y k) (ue10 x y k) (ue11 x y k)) ∧ Below wr.heap.size wr wx)
                    case first =>
                      go_region_held3 (fun w' => w'.cell? ⟨ga, i * 3, none⟩ = some (.int .i64 x) ∧ w'.cell? ⟨ga, i * 3 + 1, none⟩ = some (.int .i64 y) ∧ w'.cell? ⟨ga, i * 3 + 2, none⟩ = some (.int .i64 k) ∧ w'.cell? ⟨ge, 8, none⟩ = some (.int .i64 (ue8 x y k)) ∧ w'.cell? ⟨ge, 9, none⟩ = some (.int .i64 (ue9 x y k)) ∧ w'.cell? ⟨ge, 10, none⟩ = some (.int .i64 (ue10 x y k)) ∧ w'.cell? ⟨ge, 11, none⟩ = some (.int .i64 (ue11 x y k)))
                        ((refine ⟨?_, ?_, ?_, ?_, ?_, ?_, ?_⟩ <;> (repeat' (first | (with_reducible assumption) | (with_reducible refine st_far ?_ ?_) | (dsimp only; omega) | (simp [go_sem]; done) | (with_reducible refine al_old ?_) | (with_reducible refine dr_old ?_)))))
                        ((go_at_call 43; refine (acrossOf_yes _ _ _ _ _ _ _ _ HTB.out.1 (by simp [hasB, e2, sameB])).mono ?_; rintro e w8 ⟨rfl, hb⟩; have t0_w8 : w8.cell? ⟨ga, i * 3, none⟩ = some (.int .i64 x) := cl_kept hb (by with_reducible (repeat (first | assumption | refine dr_old ?_ | refine al_old ?_))); have t1_w8 : w8.cell? ⟨ga, i * 3 + 1, none⟩ = some (.int .i64 y) := cl_kept hb (by with_reducible (repeat (first | assumption | refine dr_old ?_ | refine al_old ?_))); have t2_w8 : w8.cell? ⟨ga, i * 3 + 2, none⟩ = some (.int .i64 k) := cl_kept hb (by with_reducible (repeat (first | assumption | refine dr_old ?_ | refine al_old ?_))); have m8_w8 : w8.cell? ⟨ge, 8, none⟩ = some (.int .i64 (ue8 x y k)) := cl_kept hb (by with_reducible (repeat (first | assumption | refine dr_old ?_ | refine al_old ?_))); have m9_w8 : w8.cell? ⟨ge, 9, none⟩ = some (.int .i64 (ue9 x y k)) := cl_kept hb (by with_reducible (repeat (first | assumption | refine dr_old ?_ | refine al_old ?_))); have m10_w8 : w8.cell? ⟨ge, 10, none⟩ = some (.int .i64 (ue10 x y k)) := cl_kept hb (by with_reducible (repeat (first | assumption | refine dr_old ?_ | refine al_old ?_))); have m11_w8 : w8.cell? ⟨ge, 11, none⟩ = some (.int .i64 (ue11 x y k)) := cl_kept hb (by with_reducible (repeat (first | assumption | refine dr_old ?_ | refine al_old ?_))); (first | (have hfz := fresh_a (g := wr.heap.size) rfl hb; obtain ⟨fy0, fy1, fy2, fz0, fz1, fz2, fz3⟩ := hfz) | (have hfz := fresh_d (g := wr.heap.size) rfl hb; obtain ⟨fy0, fy1, fy2, fz0, fz1, fz2, fz3⟩ := hfz) | (have hfz := fresh_dd (g := wr.heap.size) rfl hb; obtain ⟨fy0, fy1, fy2, fz0, fz1, fz2, fz3⟩ := hfz) | skip); have hq : Below wr.heap.size wr w8 := (by with_reducible (first | exact hb | exact bl_undrew hb | exact bl_undrew (bl_undrew hb) | exact bl_via (bl_alloc (bl_refl _)) hb | exact bl_via (bl_drew (bl_alloc (bl_refl _))) hb | exact bl_via (bl_alloc (bl_drew (bl_refl _))) hb | exact bl_via (bl_drew (bl_alloc (bl_drew (bl_refl _)))) hb)); have HQ : Hid (Below wr.heap.size wr w8) := hq; have zs0 : ga < w8.heap.size := World.block_lt_of_cell? _ _ t0_w8; have zs1 : ge < w8.heap.size := World.block_lt_of_cell? _ _ m8_w8; clear hb hq))
                      all_goals
                        go_wp2
                        go_meet
                        case rel =>
                          refine ⟨_, rfl, rfl, ?_, ?_⟩
                          · first | (simp [Tr, go_sem]; done) | (simp [Tr, go_sem, *]; done)
                          · with_reducible repeat' (first | exact HQ.out | refine bl_set ?_ ?_ | refine bl_alloc ?_ | refine bl_drew ?_)
                            all_goals (first | omega | (dsimp only; omega) | (simp; done))
                    case rest =>
                      obtain ⟨g12, rfl, rfl, hTr, hBc⟩ := hcut
                      have HG1 : Hid (GWp wB wc (some ⟨ga, 0, none⟩) L g who2 ∧ Twl wc ge (ue0 x y k) (ue1 x y k) (ue2 x y k) (ue3 x y k) (ue4 x y k) (ue5 x y k) (ue6 x y k) (ue7 x y k) (ue8 x y k) (ue9 x y k) (ue10 x y k) (ue11 x y k)) := ⟨HG.out.1.kept hBc, HG.out.2.kept hBc⟩
                      have HTr : Hid (Tr wc g12 (acX x y k (ue8 x y k) (ue9 x y k) (ue10 x y k) (ue11 x y k)) (acY x y k (ue8 x y k) (ue9 x y k) (ue10 x y k) (ue11 x y k)) (acK x y k (ue8 x y k) (ue9 x y k) (ue10 x y k) (ue11 x y k))) := hTr
                      clear hTr hBc HG t0 t1 t2 m0 m1 m2 m3 m4 m5 m6 m7 m8 m9 m10 m11 zt ze
                      obtain ⟨n0, n1, n2⟩ := HTr.out
                      have zn : g12 < wc.heap.size := World.block_lt_of_cell? _ _ n0
                      have HPL : Hid (plc L (acr L[i] (edg L[i] 2)) = plc L ((acX x y k (ue8 x y k) (ue9 x y k) (ue10 x y k) (ue11 x y k)), (acY x y k (ue8 x y k) (ue9 x y k) (ue10 x y k) (ue11 x y k)), (acK x y k (ue8 x y k) (ue9 x y k) (ue10 x y k) (ue11 x y k)))) := by
                        show plc L (acr L[i] (edg L[i] 2)) = plc L ((acX x y k (ue8 x y k) (ue9 x y k) (ue10 x y k) (ue11 x y k)), (acY x y k (ue8 x y k) (ue9 x y k) (ue10 x y k) (ue11 x y k)), (acK x y k (ue8 x y k) (ue9 x y k) (ue10 x y k) (ue11 x y k)))
                        rw [← HE.out]
                        rfl
                      have hgi : edg L[i] 2 = (ue8 x y k, ue9 x y k, ue10 x y k, ue11 x y k) := by rw [← HE.out]; rfl
                      obtain ⟨z, hz⟩ : ∃ z, z = kdn ks n (ue8 x y k, ue9 x y k, ue10 x y k, ue11 x y k) := ⟨_, rfl⟩
                      have HZ : Hid (decide (kdn ks n (edg L[i] 2) = 0) = decide (z = 0)) := by
                        have : decide (kdn ks n (edg L[i] 2) = 0) = decide (z = 0) := by rw [hgi, hz]
                        exact this
                      have CK : Hid (∀ W' : World, Below wc.heap.size wc W' → Calls Tryd.prog 36 #[.agg #[.int .i64 (W : Int), .int .i64 (H : Int), .slice (some ⟨b, off, none⟩) zs.length cap, .slice cb n ccap], .agg #[.int .i64 (ue8 x y k), .int .i64 (ue9 x y k), .int .i64 (ue10 x y k), .int .i64 (ue11 x y k)]] W' fun e w' => e = .returned (.int .i64 z) ∧ Below W'.heap.size W' w') := fun W' hW' => hz ▸ CK0.out _ _ _ _ W' (bl_via HBOX.out.1 (bl_via HG1.out.1.2.2 hW'))
                      clear hgi hz
                      have b0 := cl_kept HG1.out.1.2.2 HBOX.out.2.1
                      have b1 := cl_kept HG1.out.1.2.2 HBOX.out.2.2.1
                      have b2 := cl_kept HG1.out.1.2.2 HBOX.out.2.2.2.1
                      have b3 := cl_kept HG1.out.1.2.2 HBOX.out.2.2.2.2
                      obtain ⟨m0, m1, m2, m3, m4, m5, m6, m7, m8, m9, m10, m11⟩ := HG1.out.2
                      have zb : w.heap.size < wc.heap.size := World.block_lt_of_cell? _ _ b0
                      have ze : ge < wc.heap.size := World.block_lt_of_cell? _ _ m0
                      have kc := Kin.cells wc
                      have kn : Nonempty (Kin wc) := ⟨⟨wc, bl_refl _⟩⟩
                      go_wp2
                      refine wp_region_kin (by kernel_rfl) (by kernel_rfl) ?_
                      repeat (go_big_quiet_step ((go_at_call 36; exact kin_of (CK.out _ (Kin.h _)))))
                      refine wpQuiet_nil ?_
                      intro we hw'
                      obtain ⟨nq, hw''⟩ := hw'
                      have hq : Below wc.heap.size wc we := hw'' ▸ nq.h
                      have n0' := cl_kept hq n0
                      have n1' := cl_kept hq n1
                      have n2' := cl_kept hq n2
                      have zn' : g12 < we.heap.size := World.block_lt_of_cell? _ _ n0'
                      have HGe : Hid (GWp wB we (some ⟨ga, 0, none⟩) L g who2 ∧ Twl we ge (ue0 x y k) (ue1 x y k) (ue2 x y k) (ue3 x y k) (ue4 x y k) (ue5 x y k) (ue6 x y k) (ue7 x y k) (ue8 x y k) (ue9 x y k) (ue10 x y k) (ue11 x y k)) := ⟨HG1.out.1.kept hq, HG1.out.2.kept hq⟩
                      clear hw'' nq hq kc kn zb ze b0 b1 b2 b3 m0 m1 m2 m3 m4 m5 m6 m7 m8 m9 m10 m11 HG1 n0 n1 n2 zn HTr CK
                      by_cases hz0 : z = 0
                      · have HCR : Hid (decide (kdn ks n (edg L[i] 2) = 0) = true) := by
                          have : decide (kdn ks n (edg L[i] 2) = 0) = true := by rw [HZ.out]; simpa using hz0
                          exact this
                        subst hz0
                        rcases plc_bd L ((acX x y k (ue8 x y k) (ue9 x y k) (ue10 x y k) (ue11 x y k)), (acY x y k (ue8 x y k) (ue9 x y k) (ue10 x y k) (ue11 x y k)), (acK x y k (ue8 x y k) (ue9 x y k) (ue10 x y k) (ue11 x y k))) with hp | ⟨j, hj, hp⟩
                        · have C110 : Hid (∀ W' : World, TRow W' (some ⟨ga, 0, none⟩) L → Calls Tryd.prog 44 #[.slice (some ⟨ga, 0, none⟩) L.length ca, .agg #[.int .i64 (acX x y k (ue8 x y k) (ue9 x y k) (ue10 x y k) (ue11 x y k)), .int .i64 (acY x y k (ue8 x y k) (ue9 x y k) (ue10 x y k) (ue11 x y k)), .int .i64 (acK x y k (ue8 x y k) (ue9 x y k) (ue10 x y k) (ue11 x y k))]] W' fun e w' => e = .returned (.int .i64 (-1)) ∧ Below W'.heap.size W' w') := fun W' hT => hp ▸ placeOf_any _ ca L _ _ _ W' hT hlen
                          have HOK : Hid (OkC (fun e => decide (kdn ks n e = 0)) L who2 i 2) := fun hi' _ j' hj' hq => by
                            rw [HPL.out, hp] at hq
                            omega
                          clear hp
                          go_wp2_with (go_at_call 44; refine (C110.out _ (HGe.out.1.1.row)).mono ?_; rintro e w10 ⟨rfl, hb⟩; have HG2 : Hid (GWp wB w10 (some ⟨ga, 0, none⟩) L g who2 ∧ Twl w10 ge (ue0 x y k) (ue1 x y k) (ue2 x y k) (ue3 x y k) (ue4 x y k) (ue5 x y k) (ue6 x y k) (ue7 x y k) (ue8 x y k) (ue9 x y k) (ue10 x y k) (ue11 x y k)) := ⟨HGe.out.1.kept hb, HGe.out.2.kept hb⟩; clear hb)
                          go_quiet (fail)
                          go_wp2
                          go_roundg 0
                          case measure => omega
                          case rel =>
                            refine ⟨3, who2, ch2, by omega, rfl, rfl, by go_num, HI.out.1, HI.out.2.1, fun h => ⟨(HI.out.2.2 h).1, fun e' he' => ?_⟩, HG2.out.1.kept (bl_drewN (bl_refl _)), HG2.out.2.kept (bl_drewN (bl_refl _))⟩
                            by_cases ee : e' = 2
                            · subst ee; exact HOK.out
                            · exact (HI.out.2.2 h).2 e' (by omega)
                        · have C110 : Hid (∀ W' : World, TRow W' (some ⟨ga, 0, none⟩) L → Calls Tryd.prog 44 #[.slice (some ⟨ga, 0, none⟩) L.length ca, .agg #[.int .i64 (acX x y k (ue8 x y k) (ue9 x y k) (ue10 x y k) (ue11 x y k)), .int .i64 (acY x y k (ue8 x y k) (ue9 x y k) (ue10 x y k) (ue11 x y k)), .int .i64 (acK x y k (ue8 x y k) (ue9 x y k) (ue10 x y k) (ue11 x y k))]] W' fun e w' => e = .returned (.int .i64 (j : Int)) ∧ Below W'.heap.size W' w') := fun W' hT => hp ▸ placeOf_any _ ca L _ _ _ W' hT hlen
                          have HP : Hid (plc L (acr L[i] (edg L[i] 2)) = (j : Int)) := HPL.out.trans hp
                          have j1 : (j : Int) < (L.length : Int) := by omega
                          have j0 : (0 : Int) ≤ (j : Int) := by omega
                          clear hp
                          go_wp2_with (go_at_call 44; refine (C110.out _ (HGe.out.1.1.row)).mono ?_; rintro e w10 ⟨rfl, hb⟩; have HG2 : Hid (GWp wB w10 (some ⟨ga, 0, none⟩) L g who2 ∧ Twl w10 ge (ue0 x y k) (ue1 x y k) (ue2 x y k) (ue3 x y k) (ue4 x y k) (ue5 x y k) (ue6 x y k) (ue7 x y k) (ue8 x y k) (ue9 x y k) (ue10 x y k) (ue11 x y k)) := ⟨HGe.out.1.kept hb, HGe.out.2.kept hb⟩; clear hb)
                          obtain ⟨ci, fi⟩ := HG2.out.1.2.1 i h1
                          obtain ⟨cj, fj⟩ := HG2.out.1.2.1 j hj
                          by_cases hlt : who2 j < who2 i
                          · have q1 : (who2 j : Int) < (who2 i : Int) := by omega
                            go_quiet (fail)
                            generalize hwd : World.drewN w10 _ = wd
                            have ci' : wd.cell? ⟨g, i, none⟩ = some (.int .i64 (who2 i : Int)) := by rw [← hwd]; exact ci
                            have cj' : wd.cell? ⟨g, j, none⟩ = some (.int .i64 (who2 j : Int)) := by rw [← hwd]; exact cj
                            have fi' : wd.frozen? ⟨g, i, none⟩ = false := by rw [← hwd]; exact fi
                            have HGd : Hid (GWp wB wd (some ⟨ga, 0, none⟩) L g who2 ∧ Twl wd ge (ue0 x y k) (ue1 x y k) (ue2 x y k) (ue3 x y k) (ue4 x y k) (ue5 x y k) (ue6 x y k) (ue7 x y k) (ue8 x y k) (ue9 x y k) (ue10 x y k) (ue11 x y k)) := by
                              rw [← hwd]
                              exact ⟨HG2.out.1.kept (bl_drewN (bl_refl _)), HG2.out.2.kept (bl_drewN (bl_refl _))⟩
                            clear ci cj fi fj hwd HG2 HGe n0' n1' n2' zn'
                            go_wp2
                            go_roundg 0
                            case measure => omega
                            case rel => exact ⟨3, upd who2 i (who2 j), true, by omega, rfl, rfl, by go_num, invC_upd HI.out.1 h1 hj HTB.out.2 HCR.out HP.out hlt, ⟨Nat.le_trans (Nat.le_of_lt (sum_upd hlt _ h1)) HI.out.2.1.1, fun _ => Nat.lt_of_lt_of_le (sum_upd hlt _ h1) HI.out.2.1.1⟩, by simp, ⟨HGd.out.1.1.set, HGd.out.1.2.1.set h1, bl_set HGd.out.1.2.2 hgl⟩, HGd.out.2.set (by dsimp only; omega)⟩
                          · have q1 : ¬ (who2 j : Int) < (who2 i : Int) := by omega
                            have HOK : Hid (OkC (fun e => decide (kdn ks n e = 0)) L who2 i 2) := fun hi' _ j' hj' hq => by
                              rw [HP.out] at hq
                              obtain rfl : j = j' := by omega
                              omega
                            go_quiet (fail)
                            go_wp2
                            go_roundg 0
                            case measure => omega
                            case rel =>
                              refine ⟨3, who2, ch2, by omega, rfl, rfl, by go_num, HI.out.1, HI.out.2.1, fun h => ⟨(HI.out.2.2 h).1, fun e' he' => ?_⟩, HG2.out.1.kept (bl_drewN (bl_refl _)), HG2.out.2.kept (bl_drewN (bl_refl _))⟩
                              by_cases ee : e' = 2
                              · subst ee; exact HOK.out
                              · exact (HI.out.2.2 h).2 e' (by omega)
                      · have HOK : Hid (OkC (fun e => decide (kdn ks n e = 0)) L who2 i 2) := fun hi' hc => by
                          have h9 := HZ.out.symm.trans hc
                          simp at h9
                          exact absurd h9 hz0
                        go_wp2
                        go_roundg 0
                        case measure => omega
                        case rel =>
                          refine ⟨3, who2, ch2, by omega, rfl, rfl, by go_num, HI.out.1, HI.out.2.1, fun h => ⟨(HI.out.2.2 h).1, fun e' he' => ?_⟩, HGe.out.1, HGe.out.2⟩
                          by_cases ee : e' = 2
                          · subst ee; exact HOK.out
                          · exact (HI.out.2.2 h).2 e' (by omega)
                  · go_wp2
                    go_roundg (L.length - (i + 1))
                    case measure => omega
                    case rel =>
                      refine ⟨i + 1, who2, ch2, by omega, rfl, rfl, by go_num, HI.out.1, HI.out.2.1, fun h i' e hi' he => ?_, HG.out.1⟩
                      by_cases ei : i' = i
                      · subst ei; exact (HI.out.2.2 h).2 e he
                      · exact (HI.out.2.2 h).1 i' e (by omega) he
              · have i1 : ¬ (i : Int) < (L.length : Int) := by omega
                go_wp2
                go_roundg (sumW who1 L.length + (if ch = true then 1 else 0))
                case measure =>
                  have q1 := HI.out.2.1
                  have q2 := HS0.out
                  cases ch
                  · simp
                    omega
                  · have := q1.2 rfl
                    simp
                    omega
                case rel => exact ⟨who1, ch, rfl, rfl, HI.out.1, fun h i' e hi' he => HI.out.2.2 h i' e (by omega) he, HG.out⟩
end Go.Proofs.YtmjneoaciopioaaDoor
