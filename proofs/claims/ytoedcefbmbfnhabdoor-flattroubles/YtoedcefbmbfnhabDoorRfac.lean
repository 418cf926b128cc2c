/- Faces: the reference's way. -/
import Derived.Test.YtoedcefbmbfnhabDoorGrpc
namespace Go.Proofs.YtoedcefbmbfnhabDoor
open Go.RowKit

/-- Those of a group, and the groups. -/
def sel (L : List (Int × Int × Int)) (who : Nat → Nat) (i : Nat) : Nat → List (Int × Int × Int)
  | 0 => []
  | k + 1 => if who k = i then sel L who i k ++ [L.getD k (0, 0, 0)] else sel L who i k
def rfs (L : List (Int × Int × Int)) (who : Nat → Nat) : Nat → List (List (Int × Int × Int))
  | 0 => []
  | i + 1 => if who i = i then rfs L who i ++ [sel L who i L.length] else rfs L who i
theorem sel_le (L : List (Int × Int × Int)) (who : Nat → Nat) (i : Nat) : ∀ k, (sel L who i k).length ≤ k
  | 0 => by simp [sel]
  | k + 1 => by
    have := sel_le L who i k
    unfold sel
    split
    · simp
      omega
    · omega
theorem rfs_le (L : List (Int × Int × Int)) (who : Nat → Nat) : ∀ i, (rfs L who i).length ≤ i
  | 0 => by simp [rfs]
  | i + 1 => by
    have := rfs_le L who i
    unfold rfs
    split
    · simp
      omega
    · omega
theorem World_own_le {w : World} {base base' size n : Nat} {e : TypeId} {v : Value} {xs : List Value} (h : w.ownsRow base e size v n xs) (hb : base' ≤ base) : w.ownsRow base' e size v n xs := by
  refine ⟨h.1, h.2.imp id ?_⟩
  rintro ⟨g, cap, cur, h1, h2, h3⟩
  exact ⟨g, cap, cur, h1, Nat.le_trans hb h2, h3⟩
/-- A row that is another one comes to the end. -/
theorem NestV.add {w w' : World} {base : Nat} {v v' fv : Value} {F : List (List (Int × Int × Int))} {vs : List Value} {f : List (Int × Int × Int)} (h : NestV w base v F vs) (hf : w.ownsRow base 79 3 fv f.length (flatV f)) (hfn : ∀ n (hn : n < vs.length), ∀ b, fv.ownBlock = some b → vs[n].ownBlock ≠ some b)
    (ho : w'.ownsRow base 37 1 v' (F.length + 1) (vs ++ [fv])) (hg : w.grownBy w' v.ownBlock) : NestV w' base v' (F ++ [f]) (vs ++ [fv]) := by
  have hfa : fv.ownBlock = none ∨ fv.ownBlock ≠ v.ownBlock := by
    cases e : fv.ownBlock with
    | none => exact Or.inl rfl
    | some b =>
      right
      intro e2
      obtain ⟨c1, g1⟩ := own_type hf b e
      obtain ⟨c2, g2⟩ := own_type h.2.1 b e2.symm
      rw [g1] at g2
      simp at g2
  refine ⟨by simp [h.1], by simpa using ho, fun n h1 h2 => ?_, fun n m h1 h2 hne b hb => ?_⟩
  · by_cases hn : n < vs.length
    · have hn2 : n < F.length := by rw [← h.1]; exact hn
      rw [List.getElem_append_left hn, List.getElem_append_left hn2]
      exact (h.2.2.1 n hn hn2).kept hg (h.apart hn)
    · have e1 : n = vs.length := by simp at h1; omega
      have e2 : n = F.length := by rw [e1, h.1]
      have q1 : (vs ++ [fv])[n] = fv := by subst e1; simp
      have q2 : (F ++ [f])[n] = f := by subst e2; simp
      rw [q1, q2]
      exact hf.kept hg hfa
  · by_cases hn : n < vs.length
    · rw [List.getElem_append_left hn] at hb
      by_cases hm : m < vs.length
      · rw [List.getElem_append_left hm]
        exact h.2.2.2 n m hn hm hne b hb
      · have e1 : m = vs.length := by simp at h2; omega
        have q1 : (vs ++ [fv])[m] = fv := by subst e1; simp
        rw [q1]
        exact fun q => hfn n hn b q hb
    · have e1 : n = vs.length := by simp at h1; omega
      have q1 : (vs ++ [fv])[n] = fv := by subst e1; simp
      rw [q1] at hb
      have hm : m < vs.length := by simp at h2; omega
      rw [List.getElem_append_left hm]
      exact hfn m hm b hb

set_option maxRecDepth 100000 in
set_option maxHeartbeats 12800000 in
theorem refFaces_any (W H b off cap n ccap : Nat) (cb : Option Addr) (zs ks : List Int) (w : World) (hr : Row w (some ⟨b, off, none⟩) zs) (hW : 1 ≤ W ∧ W ≤ 8) (hH : 1 ≤ H ∧ H ≤ 8) (hl : zs.length = W * H) (hm : maskB zs = true) (hCR : CRow w cb ks n) (hC1 : CrOne ks n) (hn2 : n ≤ 3518437208883) :
    Calls Tryd.prog 11 #[.agg #[.int .i64 (W : Int), .int .i64 (H : Int), .slice (some ⟨b, off, none⟩) zs.length cap, .slice cb n ccap]] w fun e w' => ∃ v who, e = .returned v ∧ (InvC (fun e => decide (kdn ks n e = 0)) (ty zs W H) who ∧ ∀ i e, i < (ty zs W H).length → e < 3 → OkC (fun e => decide (kdn ks n e = 0)) (ty zs W H) who i e) ∧ Nest w' w.heap.size v (rfs (ty zs W H) who (ty zs W H).length) ∧ Below w.heap.size w w' := by
  have C29 : Hid (∀ W' : World, Below w.heap.size w W' → Calls Tryd.prog 29 #[.agg #[.int .i64 (W : Int), .int .i64 (H : Int), .slice (some ⟨b, off, none⟩) zs.length cap, .slice cb n ccap]] W' fun e w' => ∃ v, e = .returned v ∧ w'.ownsRow (W'.heap.size + 1) 79 3 v (ty zs W H).length (flatV (ty zs W H)) ∧ Below W'.heap.size W' w') := fun W' hW' => trisOf_any W H b off cap zs (.slice cb n ccap) W' (hr.kept hW') hW hH hl hm
  have C30 : Hid (∀ W' : World, Below w.heap.size w W' → Calls Tryd.prog 30 #[.agg #[.int .i64 (W : Int), .int .i64 (H : Int), .slice (some ⟨b, off, none⟩) zs.length cap, .slice cb n ccap], .bool false] W' fun e w' => ∃ g who, e = .returned (.slice (some ⟨g, 0, none⟩) (ty zs W H).length (ty zs W H).length) ∧ WRow w' g (ty zs W H).length who ∧ InvC (fun e => decide (kdn ks n e = 0)) (ty zs W H) who ∧ (∀ i e, i < (ty zs W H).length → e < 3 → OkC (fun e => decide (kdn ks n e = 0)) (ty zs W H) who i e) ∧ Below W'.heap.size W' w') := fun W' hW' => groupsC_any W H b off cap n ccap cb zs ks W' (hr.kept hW') hW hH hl hm (hCR.kept2 hW') hC1 hn2
  have hlen : (ty zs W H).length ≤ 256 := by have := ty_len zs W H hW.2; omega
  obtain ⟨iS, hi1, hz10, hz11, hz12⟩ := info_parts infS
  have HI1 : Hid (Tryd.prog.info? 37 = some iS ∧ iS.zero = some (.slice none 0 0) ∧ iS.size = 1 ∧ iS.bytes = 24) := ⟨hi1, hz10, hz11, hz12⟩
  obtain ⟨iT, hi2, hz20, hz21, hz22⟩ := info_parts infT
  have HI2 : Hid (Tryd.prog.info? 79 = some iT ∧ iT.zero = some (.agg #[.int .i64 0, .int .i64 0, .int .i64 0]) ∧ iT.size = 3 ∧ iT.bytes = 24) := ⟨hi2, hz20, hz21, hz22⟩
  obtain ⟨L, hL⟩ : ∃ L, L = ty zs W H := ⟨_, rfl⟩
  rw [← hL] at C29 C30 hlen
  rw [← hL]
  clear hr hW hH hl hm hCR hC1 hL hi1 hz10 hz11 hz12 hi2 hz20 hz21 hz22
  obtain ⟨zl, hzl⟩ : ∃ n, n = zs.length := ⟨_, rfl⟩
  rw [← hzl] at C29 C30 ⊢
  clear hzl
  go_enter Tryd.func11, Tryd.ntmps11
  go_wp2_with (first
    | (go_at_call 29; refine (C29.out _ (by with_reducible exact bl_alloc (bl_refl _))).mono ?_; rintro e w1 ⟨v, rfl, ho, hb⟩; obtain ⟨a, ca, rfl, hT⟩ := own_tris ho; have HW : Hid (TRow w1 a L ∧ Below w.heap.size w w1) := ⟨hT, bl_via (bl_alloc (bl_refl _)) hb⟩; have p0 : w1.cell? ⟨w.heap.size, 0, none⟩ = some (.int .i64 (W : Int)) := cl_kept hb (by simp [go_sem]); have p1 : w1.cell? ⟨w.heap.size, 1, none⟩ = some (.int .i64 (H : Int)) := cl_kept hb (by simp [go_sem]); have p2 : w1.cell? ⟨w.heap.size, 2, none⟩ = some (.slice (some ⟨b, off, none⟩) zl cap) := cl_kept hb (by simp [go_sem]); have p3 : w1.cell? ⟨w.heap.size, 3, none⟩ = some (.slice cb n ccap) := cl_kept hb (by simp [go_sem]); clear hT ho hb)
    | (go_at_call 30; refine (C30.out _ HW.out.2).mono ?_; rintro e w2 ⟨g, who, rfl, hR, hI, hO, hb⟩; have HG : Hid (TRow w2 a L ∧ WRow w2 g L.length who ∧ (InvC (fun e => decide (kdn ks n e = 0)) L who ∧ ∀ i e, i < L.length → e < 3 → OkC (fun e => decide (kdn ks n e = 0)) L who i e) ∧ Below w.heap.size w w2) := ⟨HW.out.1.kept hb, hR, ⟨hI, hO⟩, bl_via HW.out.2 hb⟩; clear hR hI hO hb))
  clear p0 p1 p2 p3 HW C29 C30
  go_loopg [5, 6] L.length (fun gk s5 s6 wx => ∃ i : Nat, i ≤ L.length ∧ gk = L.length - i ∧ s6 = .int .i64 (i : Int) ∧ FW w2 wx s5 (rfs L who i))
  case atStart => exact ⟨0, by omega, rfl, rfl, nest_nil _ _, bl_refl _⟩
  case round =>
    obtain ⟨i, hi, rfl, rfl, hF⟩ := hrel
    obtain ⟨vA, hvA⟩ : ∃ u, u = u5 := ⟨_, rfl⟩
    subst hvA
    have HF : Hid (FW w2 wr vA (rfs L who i)) := hF
    clear hF
    by_cases h1 : i < L.length
    · have i1 : (i : Int) < (L.length : Int) := by omega
      have i0 : (0 : Int) ≤ (i : Int) := by omega
      have z0 := cl_kept HF.out.2 (HG.out.2.1 i h1).1
      have zz : g < wr.heap.size := World.block_lt_of_cell? _ _ z0
      have hle := rfs_le L who i
      by_cases hw : who i = i
      · rw [hw] at z0
        have HN : Hid (rfs L who (i + 1) = rfs L who i ++ [sel L who i L.length]) := by
          have : rfs L who (i + 1) = rfs L who i ++ [sel L who i L.length] := by rw [rfs, if_pos hw]
          exact this
        clear hw
        obtain ⟨WB, hWB⟩ : ∃ W' : World, W' = wr := ⟨_, rfl⟩
        have HF2 : Hid (FW w2 WB vA (rfs L who i)) := by
          have : FW w2 WB vA (rfs L who i) := by rw [hWB]; exact HF.out
          exact this
        have HWB : Hid (Below WB.heap.size WB wr) := by
          have : Below WB.heap.size WB wr := by rw [hWB]; exact bl_refl _
          exact this
        clear hWB HF
        go_wp2
        clear z0 zz
        go_loopg [7, 8] L.length (fun gk s7 s8 wx => ∃ k : Nat, k ≤ L.length ∧ gk = L.length - k ∧ s8 = .int .i64 (k : Int) ∧ wx.ownsRow WB.heap.size 79 3 s7 (sel L who i k).length (flatV (sel L who i k)) ∧ Below WB.heap.size WB wx)
        case atStart => exact ⟨0, by omega, rfl, rfl, by simpa [sel, flatV] using World.ownsRow_nil _ _ _ _, HWB.out⟩
        case round =>
          clear HWB
          obtain ⟨k, hk, rfl, rfl, ho, hB⟩ := hrel
          obtain ⟨vB, hvB⟩ : ∃ u, u = u7 := ⟨_, rfl⟩
          subst hvB
          have HO : Hid (wr.ownsRow WB.heap.size 79 3 vB (sel L who i k).length (flatV (sel L who i k)) ∧ Below WB.heap.size WB wr ∧ Below w2.heap.size w2 wr) := ⟨ho, hB, bl_via HF2.out.2 hB⟩
          clear ho hB
          have hsl := sel_le L who i k
          by_cases hk1 : k < L.length
          · have k1 : (k : Int) < (L.length : Int) := by omega
            have k0 : (0 : Int) ≤ (k : Int) := by omega
            have z0 := cl_kept HO.out.2.2 (HG.out.2.1 k hk1).1
            have zz : g < wr.heap.size := World.block_lt_of_cell? _ _ z0
            obtain ⟨ga, rfl, t0, t1, t2⟩ := (HG.out.1.kept HO.out.2.2) k hk1
            obtain ⟨t, ht⟩ : ∃ t, t = L[k] := ⟨_, rfl⟩
            obtain ⟨x, y, kk⟩ := t
            rw [← ht] at t0 t1 t2
            dsimp only at t0 t1 t2
            have zt : ga < wr.heap.size := World.block_lt_of_cell? _ _ t0
            have HT : Hid (L.getD k (0, 0, 0) = (x, y, kk)) := by
              have : L.getD k (0, 0, 0) = (x, y, kk) := by rw [List.getD_eq_getElem?_getD, List.getElem?_eq_getElem hk1, ht]; rfl
              exact this
            clear ht
            by_cases hw2 : who k = i
            · rw [hw2] at z0
              have HS : Hid (sel L who i (k + 1) = sel L who i k ++ [(x, y, kk)]) := by
                have : sel L who i (k + 1) = sel L who i k ++ [(x, y, kk)] := by rw [sel, if_pos hw2, HT.out]
                exact this
              clear hw2
              go_wp2_with (at_builtin; refine wpList_append_own _ rfl (.tmp 37) (.tmp 42) 37 rfl WB.heap.size 79 iT (.agg #[.int .i64 0, .int .i64 0, .int .i64 0]) 3 24 Tryd.underlying37 HI2.out.1 HI2.out.2.1 HI2.out.2.2.1 HI2.out.2.2.2 rfl (by decide) vB (sel L who i k).length (flatV (sel L who i k)) rfl ?own ⟨wr.heap.size, 0, none⟩ 1 1 [.int .i64 x, .int .i64 y, .int .i64 kk] rfl rfl ?c1 ?c2 ?b1 ?b2 ?b3 ?grow)
              case own => exact own_below HO.out.1 (bl_alloc (bl_refl _))
              case c1 => exact cell_three_new _ _ _ _
              case c2 =>
                intro u hu
                simp at hu
                rcases hu with rfl | rfl | rfl <;> rfl
              case b1 =>
                unfold maxLen
                omega
              case b2 => omega
              case b3 =>
                have := HO.out.2.1.size
                simp
                omega
              case grow =>
                intro v' w3 hown hgrow hnil
                have HB3 : Hid (Below WB.heap.size WB w3) := (bl_alloc HO.out.2.1).grown hgrow (by have := HO.out.2.1.size; simp; omega) (own_base HO.out.1)
                have HO3 : Hid (w3.ownsRow WB.heap.size 79 3 v' ((sel L who i k).length + 1) (flatV (sel L who i k) ++ [.int .i64 x, .int .i64 y, .int .i64 kk])) := hown
                clear hown hgrow hnil
                go_wp2
                go_roundg (L.length - (k + 1))
                case measure => omega
                case rel =>
                  refine ⟨k + 1, by omega, rfl, by go_num, ?_, HB3.out⟩
                  rw [HS.out, flatV_snoc, List.length_append]
                  exact HO3.out
            · have hw3 : ¬ (who k : Int) = (i : Int) := by omega
              have HS : Hid (sel L who i (k + 1) = sel L who i k) := by
                have : sel L who i (k + 1) = sel L who i k := by rw [sel, if_neg hw2]
                exact this
              clear hw2
              go_wp2
              go_roundg (L.length - (k + 1))
              case measure => omega
              case rel =>
                refine ⟨k + 1, by omega, rfl, by go_num, ?_, HO.out.2.1⟩
                rw [HS.out]
                exact HO.out.1
          · have k1 : ¬ (k : Int) < (L.length : Int) := by omega
            obtain rfl : k = L.length := by omega
            obtain ⟨a7, c7, rfl, hg7⟩ := own_form HO.out.1
            clear hg7
            obtain ⟨vs, hvs⟩ := HF2.out.1
            have HV : Hid (NestV wr w2.heap.size vA (rfs L who i) vs) := hvs.kept HO.out.2.1
            have HVB : Hid (NestV WB w2.heap.size vA (rfs L who i) vs) := hvs
            clear hvs
            go_wp2_with (at_builtin; refine wpList_append_own _ rfl (.tmp 44) (.tmp 46) 26 rfl w2.heap.size 37 iS (.slice none 0 0) 1 24 Tryd.underlying26 HI1.out.1 HI1.out.2.1 HI1.out.2.2.1 HI1.out.2.2.2 rfl (by decide) vA (rfs L who i).length vs rfl ?own ⟨wr.heap.size, 0, none⟩ 1 1 [.slice a7 (sel L who i L.length).length c7] rfl rfl ?c1 ?c2 ?b1 ?b2 ?b3 ?grow)
            case own => exact own_below HV.out.2.1 (bl_alloc (bl_refl _))
            case c2 => rfl
            case b1 =>
              unfold maxLen
              omega
            case b2 => omega
            case b3 =>
              have := HO.out.2.2.size
              simp
              omega
            case grow =>
              intro v' w3 hown hgrow hnil
              have HB3 : Hid (Below w2.heap.size w2 w3) := (bl_alloc HO.out.2.2).grown hgrow (by have := HO.out.2.2.size; simp; omega) (own_base HV.out.2.1)
              have hN := (HV.out.kept (bl_alloc (bl_refl _))).add (f := sel L who i L.length) (World_own_le (own_below HO.out.1 (bl_alloc (bl_refl _))) HF2.out.2.size) (fun q hq b' hb' e => by
                have h8 := own_base HO.out.1 b' hb'
                have h9 := ((HVB.out.2.2.1 q hq (by rw [← HVB.out.1]; exact hq)).lt b' e).2
                omega) hown hgrow
              have HN3 : Hid (Nest w3 w2.heap.size v' (rfs L who i ++ [sel L who i L.length])) := ⟨_, hN⟩
              clear hown hgrow hnil hN
              go_wp2
              go_roundg (L.length - (i + 1))
              case measure => omega
              case rel => exact ⟨i + 1, by omega, rfl, by go_num, by rw [HN.out]; exact HN3.out, HB3.out⟩
      · have hw3 : ¬ (who i : Int) = (i : Int) := by omega
        have HN : Hid (rfs L who (i + 1) = rfs L who i) := by
          have : rfs L who (i + 1) = rfs L who i := by rw [rfs, if_neg hw]
          exact this
        clear hw
        go_wp2
        go_roundg (L.length - (i + 1))
        case measure => omega
        case rel => exact ⟨i + 1, by omega, rfl, by go_num, by rw [HN.out]; exact HF.out.1, HF.out.2⟩
    · have i1 : ¬ (i : Int) < (L.length : Int) := by omega
      obtain rfl : i = L.length := by omega
      go_wp2
      exact bodyPost_ret (v := vA) (by simp [results, Tryd.results11, go_sem]) rfl ⟨vA, rfl, who, HG.out.2.2.1, HF.out.1.mono HG.out.2.2.2.size, bl_via HG.out.2.2.2 HF.out.2⟩
end Go.Proofs.YtoedcefbmbfnhabDoor
