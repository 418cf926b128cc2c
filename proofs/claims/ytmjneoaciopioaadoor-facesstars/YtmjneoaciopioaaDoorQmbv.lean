/- A part of the proof of a law on sheets. -/
import Derived.Test.YtmjneoaciopioaaDoorQmbp
import Derived.Test.YtmjneoaciopioaaDoorQmbu
import Derived.Test.YtmjneoaciopioaaDoorQmbo
import Derived.Test.YtmjneoaciopioaaDoorQmbs
namespace Go.Proofs.YtmjneoaciopioaaDoor
open Go.RowKit

/-- Those of a group, and the groups. -/
def sel (L : List (Int × Int × Int)) (who : Nat → Nat) (i : Nat) : Nat → List (Int × Int × Int)
  | 0 => []
  | k + 1 => if who k = i then sel L who i k ++ [L.getD k (0, 0, 0)] else sel L who i k
def rfs (L : List (Int × Int × Int)) (who : Nat → Nat) : Nat → List (List (Int × Int × Int))
  | 0 => []
  | i + 1 => if who i = i then rfs L who i ++ [sel L who i L.length] else rfs L who i
theorem sel_le (L : List (Int × Int × Int)) (who : Nat → Nat) (i : Nat) : ∀ k, (sel L who i k).length ≤ k
  | 0 => by simp [sel]
  | k + 1 => by
    have := sel_le L who i k
    unfold sel
    split
    · simp
      omega
    · omega
theorem rfs_le (L : List (Int × Int × Int)) (who : Nat → Nat) : ∀ i, (rfs L who i).length ≤ i
  | 0 => by simp [rfs]
  | i + 1 => by
    have := rfs_le L who i
    unfold rfs
    split
    · simp
      omega
    · omega
theorem World_own_le {w : World} {base base' size n : Nat} {e : TypeId} {v : Value} {xs : List Value} (h : w.ownsRow base e size v n xs) (hb : base' ≤ base) : w.ownsRow base' e size v n xs := by
  refine ⟨h.1, h.2.imp id ?_⟩
  rintro ⟨g, cap, cur, h1, h2, h3⟩
  exact ⟨g, cap, cur, h1, Nat.le_trans hb h2, h3⟩
/-- A row that is another one comes to the end. -/
theorem NestV.add {w w' : World} {base : Nat} {v v' fv : Value} {F : List (List (Int × Int × Int))} {vs : List Value} {f : List (Int × Int × Int)} (h : NestV w base v F vs) (hf : w.ownsRow base 80 3 fv f.length (flatV f)) (hfn : ∀ n (hn : n < vs.length), ∀ b, fv.ownBlock = some b → vs[n].ownBlock ≠ some b)
    (ho : w'.ownsRow base 37 1 v' (F.length + 1) (vs ++ [fv])) (hg : w.grownBy w' v.ownBlock) : NestV w' base v' (F ++ [f]) (vs ++ [fv]) := by
  have hfa : fv.ownBlock = none ∨ fv.ownBlock ≠ v.ownBlock := by
    cases e : fv.ownBlock with
    | none => exact Or.inl rfl
    | some b =>
      right
      intro e2
      obtain ⟨c1, g1⟩ := own_type hf b e
      obtain ⟨c2, g2⟩ := own_type h.2.1 b e2.symm
      rw [g1] at g2
      simp at g2
  refine ⟨by simp [h.1], by simpa using ho, fun n h1 h2 => ?_, fun n m h1 h2 hne b hb => ?_⟩
  · by_cases hn : n < vs.length
    · have hn2 : n < F.length := by rw [← h.1]; exact hn
      rw [List.getElem_append_left hn, List.getElem_append_left hn2]
      exact (h.2.2.1 n hn hn2).kept hg (h.apart hn)
    · have e1 : n = vs.length := by simp at h1; omega
      have e2 : n = F.length := by rw [e1, h.1]
      have q1 : (vs ++ [fv])[n] = fv := by subst e1; simp
      have q2 : (F ++ [f])[n] = f := by subst e2; simp
      rw [q1, q2]
      exact hf.kept hg hfa
  · by_cases hn : n < vs.length
    · rw [List.getElem_append_left hn] at hb
      by_cases hm : m < vs.length
      · rw [List.getElem_append_left hm]
        exact h.2.2.2 n m hn hm hne b hb
      · have e1 : m = vs.length := by simp at h2; omega
        have q1 : (vs ++ [fv])[m] = fv := by subst e1; simp
        rw [q1]
        exact fun q => hfn n hn b q hb
    · have e1 : n = vs.length := by simp at h1; omega
      have q1 : (vs ++ [fv])[n] = fv := by subst e1; simp
      rw [q1] at hb
      have hm : m < vs.length := by simp at h2; omega
      rw [List.getElem_append_left hm]
      exact hfn m hm b hb

set_option maxRecDepth 100000 in
set_option maxHeartbeats 12800000 in
theorem refFaces_any (W H b off cap n ccap : Nat) (cb : Option Addr) (zs ks : List Int) (w : World) (hr : Row w (some ⟨b, off, none⟩) zs) (hW : 1 ≤ W ∧ W ≤ 8) (hH : 1 ≤ H ∧ H ≤ 8) (hl : zs.length = W * H) (hm : maskB zs = true) (hCR : CRow w cb ks n) (hC1 : CrOne ks n) (hn2 : n ≤ 3518437208883) :
    Calls Tryd.prog 11 #[.agg #[.int .i64 (W : Int), .int .i64 (H : Int), .slice (some ⟨b, off, none⟩) zs.length cap, .slice cb n ccap]] w fun e w' => ∃ v who, e = .returned v ∧ (InvC (fun e => decide (kdn ks n e = 0)) (ty zs W H) who ∧ ∀ i e, i < (ty zs W H).length → e < 3 → OkC (fun e => decide (kdn ks n e = 0)) (ty zs W H) who i e) ∧ Nest w' w.heap.size v (rfs (ty zs W H) who (ty zs W H).length) ∧ Below w.heap.size w w' := by
  have C29 : Hid (∀ W' : World, Below w.heap.size w W' → Calls Tryd.prog 30 #[.agg #[.int .i64 (W : Int), .int .i64 (H : Int), .slice (some ⟨b, off, none⟩) zs.length cap, .slice cb n ccap]] W' fun e w' => ∃ v, e = .returned v ∧ w'.ownsRow (W'.heap.size + 1) 80 3 v (ty zs W H).length (flatV (ty zs W H)) ∧ Below W'.heap.size W' w') := fun W' hW' => trisOf_any W H b off cap zs (.slice cb n ccap) W' (hr.kept hW') hW hH hl hm
  have C30 : Hid (∀ W' : World, Below w.heap.size w W' → Calls Tryd.prog 31 #[.agg #[.int .i64 (W : Int), .int .i64 (H : Int), .slice (some ⟨b, off, none⟩) zs.length cap, .slice cb n ccap], .bool false] W' fun e w' => ∃ g who, e = .returned (.slice (some ⟨g, 0, none⟩) (ty zs W H).length (ty zs W H).length) ∧ WRow w' g (ty zs W H).length who ∧ InvC (fun e => decide (kdn ks n e = 0)) (ty zs W H) who ∧ (∀ i e, i < (ty zs W H).length → e < 3 → OkC (fun e => decide (kdn ks n e = 0)) (ty zs W H) who i e) ∧ Below W'.heap.size W' w') := fun W' hW' => groupsC_any W H b off cap n ccap cb zs ks W' (hr.kept hW') hW hH hl hm (hCR.kept2 hW') hC1 hn2
  have hlen : (ty zs W H).length ≤ 256 := by have := ty_len zs W H hW.2; omega
  obtain ⟨iS, hi1, hz10, hz11, hz12⟩ := info_parts infS
  have HI1 : Hid (Tryd.prog.info? 37 = some iS ∧ iS.zero = some (.slice none 0 0) ∧ iS.size = 1 ∧ iS.bytes = 24) := ⟨hi1, hz10, hz11, hz12⟩
  obtain ⟨iT, hi2, hz20, hz21, hz22⟩ := info_parts infT
  have HI2 : Hid (Tryd.prog.info? 80 = some iT ∧ iT.zero = some (.agg #[.int .i64 0, .int .i64 0, .int .i64 0]) ∧ iT.size = 3 ∧ iT.bytes = 24) := ⟨hi2, hz20, hz21, hz22⟩
  obtain ⟨L, hL⟩ : ∃ L, L = ty zs W H := ⟨_, rfl⟩
  rw [← hL] at C29 C30 hlen
  rw [← hL]
  clear hr hW hH hl hm hCR hC1 hL hi1 hz10 hz11 hz12 hi2 hz20 hz21 hz22
  obtain ⟨zl, hzl⟩ : ∃ n, n = zs.length := ⟨_, rfl⟩
  rw [← hzl] at C29 C30 ⊢
  clear hzl
  go_enter Tryd.func11, Tryd.ntmps11
  go_wp2_with (first
    | (go_at_call 30; refine (C29.out _ (by with_reducible exact bl_alloc (bl_refl _))).mono ?_; rintro e w1 ⟨v, rfl, ho, hb⟩; obtain ⟨a, ca, rfl, hT⟩ := own_tris ho; have HW : Hid (TRow w1 a L ∧ Below w.heap.size w w1) := ⟨hT, bl_via (bl_alloc (bl_refl _)) hb⟩; have p0 : w1.cell? ⟨w.heap.size, 0, none⟩ = some (.int .i64 (W : Int)) := cl_kept hb (by simp [go_sem]); have p1 : w1.cell? ⟨w.heap.size, 1, none⟩ = some (.int .i64 (H : Int)) := cl_kept hb (by simp [go_sem]); have p2 : w1.cell? ⟨w.heap.size, 2, none⟩ = some (.slice (some ⟨b, off, none⟩) zl cap) := cl_kept hb (by simp [go_sem]); have p3 : w1.cell? ⟨w.heap.size, 3, none⟩ = some (.slice cb n ccap) := cl_kept hb (by simp [go_sem]); clear hT ho hb)
    | (go_at_call 31; refine (C30.out _ HW.out.2).mono ?_; rintro e w2 ⟨g, who, rfl, hR, hI, hO, hb⟩; have HG : Hid (TRow w2 a L ∧ WRow w2 g L.length who ∧ (InvC (fun e => decide (kdn ks n e = 0)) L who ∧ ∀ i e, i < L.length → e < 3 → OkC (fun e => decide (kdn ks n e = 0)) L who i e) ∧ Below w.heap.size w w2) := ⟨HW.out.1.kept hb, hR, ⟨hI, hO⟩, bl_via HW.out.2 hb⟩; clear hR hI hO hb))
  clear p0 p1 p2 p3 HW C29 C30
  go_loopg [5, 6] L.length (fun gk s5 s6 wx => ∃ i : Nat, i ≤ L.length ∧ gk = L.length - i ∧ s6 = .int .i64 (i : Int) ∧ FW w2 wx s5 (rfs L who i))
  case atStart => exact ⟨0, by omega, rfl, rfl, nest_nil _ _, bl_refl _⟩
  case round =>
    obtain ⟨i, hi, rfl, rfl, hF⟩ := hrel
    obtain ⟨vA, hvA⟩ : ∃ u, u = u5 := ⟨_, rfl⟩
    subst hvA
    have HF : Hid (FW w2 wr vA (rfs L who i)) := hF
    clear hF
    by_cases h1 : i < L.length
    · have i1 : (i : Int) < (L.length : Int) := by omega
      have i0 : (0 : Int) ≤ (i : Int) := by omega
      have z0 := cl_kept HF.out.2 (HG.out.2.1 i h1).1
      have zz : g < wr.heap.size := World.block_lt_of_cell? _ _ z0
      have hle := rfs_le L who i
      by_cases hw : who i = i
      · rw [hw] at z0
        have HN : Hid (rfs L who (i + 1) = rfs L who i ++ [sel L who i L.length]) := by
          have : rfs L who (i + 1) = rfs L who i ++ [sel L who i L.length] := by rw [rfs, if_pos hw]
          exact this
        clear hw
        obtain ⟨WB, hWB⟩ : ∃ W' : World, W' = wr := ⟨_, rfl⟩
        have HF2 : Hid (FW w2 WB vA (rfs L who i)) := by
          have : FW w2 WB vA (rfs L who i) := by rw [hWB]; exact HF.out
          exact this
        have HWB : Hid (Below WB.heap.size WB wr) := by
          have : Below WB.heap.size WB wr := by rw [hWB]; exact bl_refl _
          exact this
        clear hWB HF
        go_wp2
        clear z0 zz
        go_loopg [7, 8] L.length (fun gk s7 s8 wx => ∃ k : Nat, k ≤ L.length ∧ gk = L.length - k ∧ s8 = .int .i64 (k : Int) ∧ wx.ownsRow WB.heap.size 80 3 s7 (sel L who i k).length (flatV (sel L who i k)) ∧ Below WB.heap.size WB wx)
        case atStart => exact ⟨0, by omega, rfl, rfl, by simpa [sel, flatV] using World.ownsRow_nil _ _ _ _, HWB.out⟩
        case round =>
          clear HWB
          obtain ⟨k, hk, rfl, rfl, ho, hB⟩ := hrel
          obtain ⟨vB, hvB⟩ : ∃ u, u = u7 := ⟨_, rfl⟩
          subst hvB
          have HO : Hid (wr.ownsRow WB.heap.size 80 3 vB (sel L who i k).length (flatV (sel L who i k)) ∧ Below WB.heap.size WB wr ∧ Below w2.heap.size w2 wr) := ⟨ho, hB, bl_via HF2.out.2 hB⟩
          clear ho hB
          have hsl := sel_le L who i k
          by_cases hk1 : k < L.length
          · have k1 : (k : Int) < (L.length : Int) := by omega
            have k0 : (0 : Int) ≤ (k : Int) := by omega
            have z0 := cl_kept HO.out.2.2 (HG.out.2.1 k hk1).1
            have zz : g < wr.heap.size := World.block_lt_of_cell? _ _ z0
            obtain ⟨ga, rfl, t0, t1, t2⟩ := (HG.out.1.kept HO.out.2.2) k hk1
            obtain ⟨t, ht⟩ : ∃ t, t = L[k] := ⟨_, rfl⟩
            obtain ⟨x, y, kk⟩ := t
            rw [← ht] at t0 t1 t2
            dsimp only at t0 t1 t2
            have zt : ga < wr.heap.size := World.block_lt_of_cell? _ _ t0
            have HT : Hid (L.getD k (0, 0, 0) = (x, y, kk)) := by
              have : L.getD k (0, 0, 0) = (x, y, kk) := by rw [List.getD_eq_getElem?_getD, List.getElem?_eq_getElem hk1, ht]; rfl
              exact this
            clear ht
            by_cases hw2 : who k = i
            · rw [hw2] at z0
              have HS : Hid (sel L who i (k + 1) = sel L who i k ++ [(x, y, kk)]) := by
                have : sel L who i (k + 1) = sel L who i k ++ [(x, y, kk)] := by rw [sel, if_pos hw2, HT.out]
                exact this
              clear hw2
              go_wp2_with (at_builtin; refine wpList_append_own _ rfl (.tmp 37) (.tmp 42) 37 rfl WB.heap.size 80 iT (.agg #[.int .i64 0, .int .i64 0, .int .i64 0]) 3 24 Tryd.underlying37 HI2.out.1 HI2.out.2.1 HI2.out.2.2.1 HI2.out.2.2.2 rfl (by decide) vB (sel L who i k).length (flatV (sel L who i k)) rfl ?own ⟨wr.heap.size, 0, none⟩ 1 1 [.int .i64 x, .int .i64 y, .int .i64 kk] rfl rfl ?c1 ?c2 ?b1 ?b2 ?b3 ?grow)
              case own => exact own_below HO.out.1 (bl_alloc (bl_refl _))
              case c1 => exact cell_three_new _ _ _ _
              case c2 =>
                intro u hu
                simp at hu
                rcases hu with rfl | rfl | rfl <;> rfl
              case b1 =>
                unfold maxLen
                omega
              case b2 => omega
              case b3 =>
                have := HO.out.2.1.size
                simp
                omega
              case grow =>
                intro v' w3 hown hgrow hnil
                have HB3 : Hid (Below WB.heap.size WB w3) := (bl_alloc HO.out.2.1).grown hgrow (by have := HO.out.2.1.size; simp; omega) (own_base HO.out.1)
                have HO3 : Hid (w3.ownsRow WB.heap.size 80 3 v' ((sel L who i k).length + 1) (flatV (sel L who i k) ++ [.int .i64 x, .int .i64 y, .int .i64 kk])) := hown
                clear hown hgrow hnil
                go_wp2
                go_roundg (L.length - (k + 1))
                case measure => omega
                case rel =>
                  refine ⟨k + 1, by omega, rfl, by go_num, ?_, HB3.out⟩
                  rw [HS.out, flatV_snoc, List.length_append]
                  exact HO3.out
            · have hw3 : ¬ (who k : Int) = (i : Int) := by omega
              have HS : Hid (sel L who i (k + 1) = sel L who i k) := by
                have : sel L who i (k + 1) = sel L who i k := by rw [sel, if_neg hw2]
                exact this
              clear hw2
              go_wp2
              go_roundg (L.length - (k + 1))
              case measure => omega
              case rel =>
                refine ⟨k + 1, by omega, rfl, by go_num, ?_, HO.out.2.1⟩
                rw [HS.out]
                exact HO.out.1
          · have k1 : ¬ (k : Int) < (L.length : Int) := by omega
            obtain rfl : k = L.length := by omega
            obtain ⟨a7, c7, rfl, hg7⟩ := own_form HO.out.1
            clear hg7
            obtain ⟨vs, hvs⟩ := HF2.out.1
            have HV : Hid (NestV wr w2.heap.size vA (rfs L who i) vs) := hvs.kept HO.out.2.1
            have HVB : Hid (NestV WB w2.heap.size vA (rfs L who i) vs) := hvs
            clear hvs
            go_wp2_with (at_builtin; refine wpList_append_own _ rfl (.tmp 44) (.tmp 46) 26 rfl w2.heap.size 37 iS (.slice none 0 0) 1 24 Tryd.underlying26 HI1.out.1 HI1.out.2.1 HI1.out.2.2.1 HI1.out.2.2.2 rfl (by decide) vA (rfs L who i).length vs rfl ?own ⟨wr.heap.size, 0, none⟩ 1 1 [.slice a7 (sel L who i L.length).length c7] rfl rfl ?c1 ?c2 ?b1 ?b2 ?b3 ?grow)
            case own => exact own_below HV.out.2.1 (bl_alloc (bl_refl _))
            case c2 => rfl
            case b1 =>
              unfold maxLen
              omega
            case b2 => omega
            case b3 =>
              have := HO.out.2.2.size
              simp
              omega
            case grow =>
              intro v' w3 hown hgrow hnil
              have HB3 : Hid (Below w2.heap.size w2 w3) := (bl_alloc HO.out.2.2).grown hgrow (by have := HO.out.2.2.size; simp; omega) (own_base HV.out.2.1)
              have hN := (HV.out.kept (bl_alloc (bl_refl _))).add (f := sel L who i L.length) (World_own_le (own_below HO.out.1 (bl_alloc (bl_refl _))) HF2.out.2.size) (fun q hq b' hb' e => by
                have h8 := own_base HO.out.1 b' hb'
                have h9 := ((HVB.out.2.2.1 q hq (by rw [← HVB.out.1]; exact hq)).lt b' e).2
                omega) hown hgrow
              have HN3 : Hid (Nest w3 w2.heap.size v' (rfs L who i ++ [sel L who i L.length])) := ⟨_, hN⟩
              clear hown hgrow hnil hN
              go_wp2
              go_roundg (L.length - (i + 1))
              case measure => omega
              case rel => exact ⟨i + 1, by omega, rfl, by go_num, by rw [HN.out]; exact HN3.out, HB3.out⟩
      · have hw3 : ¬ (who i : Int) = (i : Int) := by omega
        have HN : Hid (rfs L who (i + 1) = rfs L who i) := by
          have : rfs L who (i + 1) = rfs L who i := by rw [rfs, if_neg hw]
          exact this
        clear hw
        go_wp2
        go_roundg (L.length - (i + 1))
        case measure => omega
        case rel => exact ⟨i + 1, by omega, rfl, by go_num, by rw [HN.out]; exact HF.out.1, HF.out.2⟩
    · have i1 : ¬ (i : Int) < (L.length : Int) := by omega
      obtain rfl : i = L.length := by omega
      go_wp2
      exact bodyPost_ret (v := vA) (by simp [results, Tryd.results11, go_sem]) rfl ⟨vA, rfl, who, HG.out.2.2.1, HF.out.1.mono HG.out.2.2.2.size, bl_via HG.out.2.2.2 HF.out.2⟩

theorem adjC_le {cr : Int × Int × Int × Int → Bool} {L : List (Int × Int × Int)} {who : Nat → Nat} (hnd : L.Nodup) (hk : ∀ t ∈ L, Kd t) (hO : ∀ i e, i < L.length → e < 3 → OkC cr L who i e) {a b : Nat} (ha : a < L.length) (hb : b < L.length) (h : AdjC cr L[a] L[b]) : who a ≤ who b := by
  obtain ⟨hne, e, e1, e2, e3⟩ := h
  obtain ⟨k, hk3, hke⟩ := hasT_edg e1
  have h1 := hO a k ha hk3 ha (by rw [hke]; exact e3) b hb
  apply h1
  rw [hke, ← acr_is (hk _ (List.getElem_mem ha)) (hk _ (List.getElem_mem hb)) e1 e2 hne]
  unfold plc
  rw [if_pos (List.getElem_mem hb)]
  have : L.idxOf L[b] = b := hnd.idxOf_getElem b hb
  rw [this]
theorem reachC_who {cr : Int × Int × Int × Int → Bool} {L : List (Int × Int × Int)} {f : Nat → Int} (hnd : L.Nodup) (hA : ∀ a b (ha : a < L.length) (hb : b < L.length), AdjC cr L[a] L[b] → f a = f b) {a b : Nat} (ha : a < L.length) (hb : b < L.length) (h : ReachC cr L L[a] L[b]) : f a = f b := by
  have h1 := h.2 (fun u => u ∈ L ∧ ∀ c (hc : c < L.length), L[c] = u → f a = f c) ⟨List.getElem_mem ha, fun c hc e => by
    have : c = a := by rw [← hnd.idxOf_getElem c hc, e, hnd.idxOf_getElem a ha]
    rw [this]⟩ (fun u v hu hv huv => by
    refine ⟨hv, fun c hc e => ?_⟩
    obtain ⟨d, hd, e2⟩ := List.getElem_of_mem hu.1
    have h3 := hu.2 d hd e2
    rw [h3]
    exact hA d c hd hc (by rw [e, e2]; exact huv))
  exact h1.2 b hb rfl
theorem same_group {cr : Int × Int × Int × Int → Bool} {L : List (Int × Int × Int)} {who : Nat → Nat} {part : Nat → Int} (hnd : L.Nodup) (hk : ∀ t ∈ L, Kd t) (hP : PartsOk cr L part) (hI : InvC cr L who) (hO : ∀ i e, i < L.length → e < 3 → OkC cr L who i e) {a b : Nat} (ha : a < L.length) (hb : b < L.length) : who a = who b ↔ part a = part b := by
  have hw : ∀ a b (ha : a < L.length) (hb : b < L.length), AdjC cr L[a] L[b] → ((who a : Int)) = (who b : Int) := fun a b ha hb h => by
    have h1 := adjC_le hnd hk hO ha hb h
    have h2 := adjC_le hnd hk hO hb ha h.symm
    omega
  constructor
  · intro e
    obtain ⟨_, q1, r1⟩ := hI a ha
    obtain ⟨_, q2, r2⟩ := hI b hb
    have r3 : ReachC cr L L[a] L[b] := by
      have r2' := r2.symm
      have e2 : L[who b] = L[who a] := by simp only [e]
      rw [e2] at r2'
      exact r1.trans r2'
    exact reachC_who hnd (fun a b ha hb h => (hP.2.1 a b ha hb h).symm) ha hb r3
  · intro e
    have h1 := reachC_who (f := fun a => (who a : Int)) hnd hw ha hb (hP.2.2.1 a b ha hb e)
    omega
theorem first_group {cr : Int × Int × Int × Int → Bool} {L : List (Int × Int × Int)} {who : Nat → Nat} {part : Nat → Int} (hnd : L.Nodup) (hk : ∀ t ∈ L, Kd t) (hP : PartsOk cr L part) (hI : InvC cr L who) (hO : ∀ i e, i < L.length → e < 3 → OkC cr L who i e) {i : Nat} (hi : i < L.length) : who i = i ↔ ∀ b, b < i → part b ≠ part i := by
  constructor
  · intro e b hb he
    have h1 := (same_group hnd hk hP hI hO (by omega : b < L.length) hi).2 he
    have h2 := (hI b (by omega)).1
    omega
  · intro h
    obtain ⟨h1, q, r⟩ := hI i hi
    rcases Nat.lt_or_ge (who i) i with h2 | h2
    · have h3 := reachC_who hnd (fun a b ha hb h => (hP.2.1 a b ha hb h).symm) hi q r
      exact absurd h3.symm (h _ h2)
    · omega
/-- Those of a number, of the first k. -/
def selP (L : List (Int × Int × Int)) (part : Nat → Int) (c : Int) : Nat → List (Int × Int × Int)
  | 0 => []
  | k + 1 => if part k = c then selP L part c k ++ [L.getD k (0, 0, 0)] else selP L part c k
theorem sel_selP {L : List (Int × Int × Int)} {who : Nat → Nat} {part : Nat → Int} {i : Nat} {c : Int} : ∀ k, (∀ a, a < k → (who a = i ↔ part a = c)) → sel L who i k = selP L part c k
  | 0, _ => rfl
  | k + 1, h => by
    unfold sel selP
    rw [sel_selP k (fun a ha => h a (by omega))]
    by_cases e : who k = i
    · rw [if_pos e, if_pos ((h k (by omega)).1 e)]
    · rw [if_neg e, if_neg (fun q => e ((h k (by omega)).2 q))]
theorem selP_none {L : List (Int × Int × Int)} {part : Nat → Int} {c : Int} : ∀ k, (∀ a, a < k → part a ≠ c) → selP L part c k = []
  | 0, _ => rfl
  | k + 1, h => by
    unfold selP
    rw [if_neg (h k (by omega)), selP_none k (fun a ha => h a (by omega))]
theorem fcs_eq {L : List (Int × Int × Int)} {part : Nat → Int} {n : Nat} (h : NumOk part n) : ∀ i, i ≤ n → fcs L part i = (List.range (fcs L part i).length).map fun c : Nat => selP L part (c : Int) i
  | 0, _ => by simp [fcs]
  | i + 1, hi => by
    have ih := fcs_eq (L := L) h i (by omega)
    obtain ⟨h1, h2⟩ := fcs_has L part h i (by omega)
    have h3 := h2 (by omega)
    have h0 := h.1 i (by omega)
    obtain ⟨p, hp⟩ : ∃ p : Nat, part i = (p : Int) := ⟨(part i).toNat, by omega⟩
    have hpn : (part i).toNat = p := by omega
    have hl : (fcs L part (i + 1)).length = if p = (fcs L part i).length then (fcs L part i).length + 1 else (fcs L part i).length := by rw [fcs, putF_len, hpn]
    refine List.ext_getElem (by simp) (fun m hm1 hm2 => ?_)
    rw [List.getElem_map, List.getElem_range]
    have hs : selP L part (m : Int) (i + 1) = if p = m then selP L part (m : Int) i ++ [L.getD i (0, 0, 0)] else selP L part (m : Int) i := by
      rw [selP]
      by_cases e : p = m
      · rw [if_pos (by omega), if_pos e]
      · rw [if_neg (by omega), if_neg e]
    rw [hs]
    have hg : ∀ (q : m < (fcs L part i).length), (fcs L part i)[m] = selP L part (m : Int) i := fun q => by
      have := congrArg (fun l => l[m]?) ih
      simp only [List.getElem?_map] at this
      rw [List.getElem?_eq_getElem q, List.getElem?_range q] at this
      simpa using this
    have hgg : ∀ (q : m < (grwF (fcs L part i) p).length), (grwF (fcs L part i) p)[m] = selP L part (m : Int) i := fun q => by
      by_cases e : m < (fcs L part i).length
      · rw [← hg e]
        simp only [grwF]
        split
        · exact List.getElem_append_left e
        · rfl
      · have q2 := q
        rw [grwF_len] at q2
        have e2 : p = (fcs L part i).length := by
          by_cases e3 : p = (fcs L part i).length
          · exact e3
          · rw [if_neg e3] at q2
            omega
        rw [if_pos e2] at q2
        have e4 : m = (fcs L part i).length := by omega
        rw [selP_none i (fun a ha q3 => by have := h1 a ha; omega)]
        simp only [grwF, if_pos e2]
        subst e4
        simp
    have hm3 : m < (grwF (fcs L part i) p).length := by
      rw [grwF_len, ← hl]
      exact hm1
    simp only [fcs, putF, hpn]
    by_cases e : p = m
    · subst e
      rw [if_pos rfl, List.getElem_set_self, List.getD_eq_getElem?_getD, List.getElem?_eq_getElem hm3, Option.getD_some, hgg hm3]
    · rw [if_neg e, List.getElem_set_ne e, hgg hm3]
/-- Each number below has come up. -/
theorem fcs_come (L : List (Int × Int × Int)) (part : Nat → Int) {n : Nat} (h : NumOk part n) : ∀ i, i ≤ n → ∀ c : Nat, c < (fcs L part i).length → ∃ b, b < i ∧ part b = (c : Int)
  | 0, _, c, hc => by simp [fcs] at hc
  | i + 1, hi, c, hc => by
    have h0 := h.1 i (by omega)
    have h3 := (fcs_has L part h i (by omega)).2 (by omega)
    rw [fcs, putF_len] at hc
    by_cases e : c < (fcs L part i).length
    · obtain ⟨b, hb, he⟩ := fcs_come L part h i (by omega) c e
      exact ⟨b, by omega, he⟩
    · split at hc
      · exact ⟨i, by omega, by omega⟩
      · omega
theorem rfs_eq {cr : Int × Int × Int × Int → Bool} {L : List (Int × Int × Int)} {who : Nat → Nat} {part : Nat → Int} (hnd : L.Nodup) (hk : ∀ t ∈ L, Kd t) (hP : PartsOk cr L part) (hI : InvC cr L who) (hO : ∀ i e, i < L.length → e < 3 → OkC cr L who i e) : ∀ i, i ≤ L.length → rfs L who i = (List.range (fcs L part i).length).map fun c : Nat => selP L part (c : Int) L.length
  | 0, _ => by simp [rfs, fcs]
  | i + 1, hi => by
    have ih := rfs_eq hnd hk hP hI hO i (by omega)
    have h0 := hP.1 i (by omega)
    obtain ⟨h1, h2⟩ := fcs_has L part hP.num i (by omega)
    have h3 := h2 (by omega)
    have hl : (fcs L part (i + 1)).length = if (part i).toNat = (fcs L part i).length then (fcs L part i).length + 1 else (fcs L part i).length := by rw [fcs, putF_len]
    by_cases e : (part i).toNat = (fcs L part i).length
    · rw [if_pos e] at hl
      have hw : who i = i := (first_group hnd hk hP hI hO (by omega)).2 (fun b hb q => by have := h1 b hb; omega)
      rw [rfs, if_pos hw, ih, hl, List.range_succ, List.map_append]
      congr 1
      simp only [List.map_cons, List.map_nil]
      congr 1
      refine sel_selP L.length (fun a ha => ?_)
      have h5 := same_group hnd hk hP hI hO ha (by omega : i < L.length)
      rw [hw] at h5
      rw [h5]
      constructor
      · intro q
        omega
      · intro q
        omega
    · rw [if_neg e] at hl
      have hw : ¬ who i = i := fun q => by
        obtain ⟨b, hb, he⟩ := fcs_come L part hP.num i (by omega) (part i).toNat (by omega)
        exact (first_group hnd hk hP hI hO (by omega)).1 q b hb (by omega)
      rw [rfs, if_neg hw, ih, hl]
/-- The two ways come to the same lists. -/
theorem faces_same {cr : Int × Int × Int × Int → Bool} {L : List (Int × Int × Int)} {who : Nat → Nat} {part : Nat → Int} (hnd : L.Nodup) (hk : ∀ t ∈ L, Kd t) (hP : PartsOk cr L part) (hI : InvC cr L who) (hO : ∀ i e, i < L.length → e < 3 → OkC cr L who i e) : fcs L part L.length = rfs L who L.length := by
  rw [rfs_eq hnd hk hP hI hO L.length (Nat.le_refl _)]
  exact fcs_eq hP.num L.length (Nat.le_refl _)
end Go.Proofs.YtmjneoaciopioaaDoor
namespace Go.Proofs.YtmjneoaciopioaaDoor
open Go.RowKit Go.ChangeMaps

set_option maxRecDepth 100000 in
set_option maxHeartbeats 1600000 in
theorem sameTris_yes (a c : Option Addr) (ca cc : Nat) (L : List (Int × Int × Int)) (w : World) (hL : L.length ≤ 300) (ha : TRow w a L) (hc : TRow w c L) :
    Calls Tryd.prog 13 #[.slice a L.length ca, .slice c L.length cc] w fun e w' => e = .returned (.bool true) ∧ Below w.heap.size w w' := by
  have HA : Hid (TRow w a L) := ha
  have HC : Hid (TRow w c L) := hc
  clear ha hc
  go_enter Tryd.func13, Tryd.ntmps13
  go_wp2
  go_loopg [5] L.length (fun gk s5 wx => ∃ i : Nat, i ≤ L.length ∧ gk = L.length - i ∧ s5 = .int .i64 (i : Int) ∧ Below w.heap.size w wx)
  case atStart => exact ⟨0, by omega, rfl, rfl, bl_refl _⟩
  case round =>
    obtain ⟨i, hi, rfl, rfl, hB⟩ := hrel
    have HB : Hid (Below w.heap.size w wr) := hB
    clear hB
    by_cases h1 : i < L.length
    · have i1 : (i : Int) < (L.length : Int) := by omega
      have i0 : (0 : Int) ≤ (i : Int) := by omega
      obtain ⟨g, rfl, t0, t1, t2⟩ := (HA.out.kept HB.out) i h1
      obtain ⟨g', rfl, u0, u1, u2⟩ := (HC.out.kept HB.out) i h1
      have z1 : g < wr.heap.size := World.block_lt_of_cell? _ _ t0
      have z2 : g' < wr.heap.size := World.block_lt_of_cell? _ _ u0
      obtain ⟨x, hx⟩ : ∃ x, x = L[i].1 := ⟨_, rfl⟩
      obtain ⟨y, hy⟩ : ∃ y, y = L[i].2.1 := ⟨_, rfl⟩
      obtain ⟨k, hk⟩ : ∃ k, k = L[i].2.2 := ⟨_, rfl⟩
      rw [← hx] at t0 u0
      rw [← hy] at t1 u1
      rw [← hk] at t2 u2
      have hneq : ∀ w' : World, (binOp .neq 80 (.agg #[.int .i64 x, .int .i64 y, .int .i64 k]) (.agg #[.int .i64 x, .int .i64 y, .int .i64 k])).run Tryd.prog w' = .ok (.bool false) w' := fun w' => by
        have := neq23 x y k x y k w'
        simpa [sameT] using this
      clear hx hy hk
      have kc := Kin.cells wr
      have kn : Nonempty (Kin wr) := ⟨⟨wr, bl_refl _⟩⟩
      go_wp2
      refine wp_region_kin (by kernel_rfl) (by kernel_rfl) ?_
      repeat (go_big_quiet_step (fail))
      refine wpQuiet_nil ?_
      intro wq hw'
      obtain ⟨nq, hw''⟩ := hw'
      have hq : Below wr.heap.size wr wq := hw'' ▸ nq.h
      have HQ : Hid (Below w.heap.size w wq) := bl_via HB.out hq
      clear hw'' nq hq kc kn
      go_wp2
      go_roundg (L.length - (i + 1))
      case measure => omega
      case rel => exact ⟨i + 1, by omega, rfl, by go_num, HQ.out⟩
    · have i1 : ¬ (i : Int) < (L.length : Int) := by omega
      go_wp2
      go_ret
      exact ⟨rfl, HB.out⟩


/-- Lists of triangles in memory, as a slice of slices has them. -/
def NRd (w : World) (a : Option Addr) (F : List (List (Int × Int × Int))) : Prop := ∀ m (h : m < F.length), ∃ g a' c', a = some ⟨g, 0, none⟩ ∧ w.cell? ⟨g, m, none⟩ = some (.slice a' F[m].length c') ∧ TRow w a' F[m]
theorem NRd.kept {w wx : World} {a : Option Addr} {F : List (List (Int × Int × Int))} (h : NRd w a F) (hb : Below w.heap.size w wx) : NRd wx a F := fun m hm => by
  obtain ⟨g, a', c', e, h1, h2⟩ := h m hm
  exact ⟨g, a', c', e, cl_kept hb h1, h2.kept hb⟩
theorem Nest.read {w : World} {base : Nat} {v : Value} {F : List (List (Int × Int × Int))} (h : Nest w base v F) : ∃ a c, v = .slice a F.length c ∧ NRd w a F := by
  obtain ⟨vs, hv⟩ := h
  obtain ⟨a, c, rfl, hg⟩ := own_form hv.2.1
  refine ⟨a, c, rfl, fun m hm => ?_⟩
  obtain ⟨g, rfl⟩ := hg (by omega)
  have hm2 : m < vs.length := by rw [hv.1]; exact hm
  obtain ⟨a', c', e, hT⟩ := own_tris (hv.2.2.1 m hm2 hm)
  exact ⟨g, a', c', rfl, by rw [hv.2.1.cellAt m (by omega), List.getElem?_eq_getElem hm2, e], hT⟩
/-- In order, each once: there is such a list. -/
theorem ltP_trans {p q r : Int × Int} (h1 : ltP p q) (h2 : ltP q r) : ltP p r := by
  simp only [ltP] at *
  omega
theorem spt_is : ∀ Cs : List (Int × Int), ∃ pts, SPt pts Cs ∧ pts.length ≤ Cs.length
  | [] => ⟨[], ⟨by simp, by simp⟩, by simp⟩
  | c :: Cs => by
    obtain ⟨pts, ⟨h1, h2⟩, h3⟩ := spt_is Cs
    by_cases hc : c ∈ pts
    · refine ⟨pts, ⟨h1, fun p => ?_⟩, by simp; omega⟩
      rw [List.mem_cons, ← h2 p]
      constructor
      · exact Or.inr
      · rintro (rfl | h)
        · exact hc
        · exact h
    · refine ⟨pts.filter (fun p => lessB p.1 p.2 c.1 c.2) ++ c :: pts.filter (fun p => !lessB p.1 p.2 c.1 c.2), ⟨?_, fun p => ?_⟩, ?_⟩
      · rw [List.pairwise_append]
        refine ⟨h1.filter _, ?_, ?_⟩
        · rw [List.pairwise_cons]
          refine ⟨fun q hq => ?_, h1.filter _⟩
          obtain ⟨q1, q2⟩ := List.mem_filter.1 hq
          have q3 : ¬ ltP q c := fun h => by
            have := (lessB_iff q.1 q.2 c.1 c.2).2 h
            rw [this] at q2
            simp at q2
          have q4 : q ≠ c := fun e => hc (e ▸ q1)
          obtain ⟨x, y⟩ := q
          obtain ⟨u, v⟩ := c
          simp only [ltP] at *
          simp only [ne_eq, Prod.mk.injEq] at q4
          omega
        · intro p hp q hq
          obtain ⟨p1, p2⟩ := List.mem_filter.1 hp
          have p3 : ltP p c := (lessB_iff p.1 p.2 c.1 c.2).1 p2
          rcases List.mem_cons.1 hq with rfl | hq
          · exact p3
          · obtain ⟨q1, q2⟩ := List.mem_filter.1 hq
            have q3 : ¬ ltP q c := fun h => by
              have := (lessB_iff q.1 q.2 c.1 c.2).2 h
              rw [this] at q2
              simp at q2
            have q4 : q ≠ c := fun e => hc (e ▸ q1)
            refine ltP_trans p3 ?_
            obtain ⟨x, y⟩ := q
            obtain ⟨u, v⟩ := c
            simp only [ltP] at *
            simp only [ne_eq, Prod.mk.injEq] at q4
            omega
      · rw [List.mem_append, List.mem_cons, List.mem_filter, List.mem_filter, List.mem_cons, ← h2 p]
        cases lessB p.1 p.2 c.1 c.2 <;> simp [or_comm]
      · rw [List.length_append, List.length_cons, List.length_cons]
        have : ∀ (l : List (Int × Int)) (f : Int × Int → Bool), (l.filter f).length + (l.filter (fun p => !f p)).length = l.length := fun l f => by
          induction l with
          | nil => rfl
          | cons a l ih =>
            cases h : f a
            · simp [h]
              omega
            · simp [h]
              omega
        have := this pts (fun p => lessB p.1 p.2 c.1 c.2)
        omega

theorem Stars_no (W H : Int) (a c : Option Addr) (n1 n2 ca cc : Nat) (w : World) (hcall : ∀ W' : World, Below w.heap.size w W' → Calls Tryd.prog 21 #[.agg #[.int .i64 W, .int .i64 H, .slice a n1 ca, .slice c n2 cc]] W' fun e w' => e = .returned (.tuple #[.agg #[.slice none 0 0, .map none, .map none], .bool false]) ∧ Below W'.heap.size W' w') :
    Calls Tryd.prog 14 #[.agg #[.int .i64 W, .int .i64 H, .slice a n1 ca, .slice c n2 cc]] w fun e w' => e = .returned (.tuple #[.slice none 0 0, .int .i64 10]) ∧ Below w.heap.size w w' := by
  have HC : Hid (∀ W' : World, Below w.heap.size w W' → Calls Tryd.prog 21 #[.agg #[.int .i64 W, .int .i64 H, .slice a n1 ca, .slice c n2 cc]] W' fun e w' => e = .returned (.tuple #[.agg #[.slice none 0 0, .map none, .map none], .bool false]) ∧ Below W'.heap.size W' w') := hcall
  clear hcall
  go_enter Tryd.func14, Tryd.ntmps14
  go_wp2_with (go_at_call 21; refine (HC.out _ (by with_reducible exact bl_alloc (bl_refl _))).mono ?_; rintro e w2 ⟨rfl, hb⟩; have HB : Hid (Below w.heap.size w w2) := bl_via (bl_alloc (bl_refl _)) hb; clear hb)
  exact bodyPost_ret (v := .tuple #[.slice none 0 0, .int .i64 10]) (by simp [results, Tryd.results14, go_sem]) rfl ⟨rfl, by with_reducible repeat (first | exact HB.out | refine bl_alloc ?_)⟩
/-- Creases of a sheet that may be are edges of the grid. -/
theorem ge_crease {L : List (Int × Int × Int)} {ks : List Int} {i : Nat} (h : CrOk L ks i) (hk : ∀ t ∈ L, Kd t) : GE (ck ks i 0, ck ks i 1, ck ks i 2, ck ks i 3) := by
  have h2 := h.2.2
  have h3 := cnt_filter L (ck ks i 0, ck ks i 1, ck ks i 2, ck ks i 3)
  simp only at h3
  rw [h2] at h3
  have : 0 < (L.filter fun t => hasT t (ck ks i 0, ck ks i 1, ck ks i 2, ck ks i 3)).length := by omega
  obtain ⟨t, ht⟩ := List.exists_mem_of_length_pos this
  obtain ⟨h5, h6⟩ := List.mem_filter.1 ht
  exact ge_of h6 (hk t h5)
/-- What Stars answers where the sheet may be. -/
def StarsTo (P : List ((Int × Int) × Nat × Nat)) (f : Int × Int → Nat → Int) (w w' : World) (e : Ending) : Prop := ∃ v, e = .returned (.tuple #[v, .int .i64 0]) ∧ StarsR P f w w' (.returned v)
theorem StarsR.mono {P : List ((Int × Int) × Nat × Nat)} {f : Int × Int → Nat → Int} {w w1 w' : World} {e : Ending} (h : StarsR P f w1 w' e) (hb : Below w.heap.size w w1) : StarsR P f w w' e := by
  obtain ⟨a, c, Bs, h1, h2, h3, h4, h5, h6⟩ := h
  exact ⟨a, c, Bs, h1, h2, h3, h4, h5, bl_via hb h6⟩
set_option maxRecDepth 100000 in
set_option maxHeartbeats 3200000 in
theorem Stars_yes (W H b off cap n ccap : Nat) (cb : Option Addr) (zs ks : List Int) (w : World) (hr : Row w (some ⟨b, off, none⟩) zs) (hW : 1 ≤ W ∧ W ≤ 8) (hH : 1 ≤ H ∧ H ≤ 8) (hl : zs.length = W * H) (hm : maskB zs = true) (hk : Row w cb ks) (hn : ks.length = n * 5) (hn2 : n ≤ 3518437208883) (hs : Steps w) (hJ : Joined (ty zs W H)) (hC : ∀ i, i < n → CrOk (ty zs W H) ks i) :
    Calls Tryd.prog 14 #[.agg #[.int .i64 (W : Int), .int .i64 (H : Int), .slice (some ⟨b, off, none⟩) zs.length cap, .slice cb n ccap]] w fun e w' => StarsTo ((ty zs W H).flatMap tps) (kc ks n) w w' e := by
  have CL : Hid (∀ W' : World, Below w.heap.size w W' → Calls Tryd.prog 21 #[.agg #[.int .i64 (W : Int), .int .i64 (H : Int), .slice (some ⟨b, off, none⟩) zs.length cap, .slice cb n ccap]] W' fun e w' => ∃ ad cc base ra rk, e = .returned (.tuple #[.agg #[.slice ad (ty zs W H).length cc, .map (some ra), .map (some rk)], .bool true]) ∧ PK W' w' base ra rk (.slice ad (ty zs W H).length cc) (ty zs W H) (gix (ty zs W H)) (kf ks n)) := fun W' hW' => lay_yes W H b off cap n ccap cb zs ks W' (hr.kept hW') hW hH hl hm (hk.kept hW') hn hn2 (hs.kept hW') hJ hC
  have hlen : (ty zs W H).length ≤ 300 := by have := ty_len zs W H hW.2; omega
  have hbd := ty_bd (zs := zs) hW.2 hH.2
  have CP : Hid (∀ (W' : World) (ad : Option Addr) (cc ra rk : Nat), Below w.heap.size w W' → PA W' ad ra (ty zs W H) → Calls Tryd.prog 34 #[.agg #[.slice ad (ty zs W H).length cc, .map (some ra), .map (some rk)], .slice cb n ccap] W' fun e w' => StarsR ((ty zs W H).flatMap tps) (kc ks n) W' w' e) := fun W' ad cc ra rk hW' hp => starsOf_any W' cc ra rk ad _ (hs.kept hW') hp.1 hlen hbd cb n ccap ks (row_crow (hk.kept hW') hn) hn2 (fun i hi => ge_crease (hC i hi) (fun t ht => (hbd t ht).2.2))
  obtain ⟨L, hL⟩ : ∃ L, L = ty zs W H := ⟨_, rfl⟩
  rw [← hL] at CL CP hlen
  rw [← hL]
  obtain ⟨f, hf⟩ : ∃ f, f = kc ks n := ⟨_, rfl⟩
  obtain ⟨P, hP⟩ : ∃ P, P = L.flatMap tps := ⟨_, rfl⟩
  rw [← hf, ← hP] at CP ⊢
  clear hr hk hl hm hW hH hn hs hJ hC hL hbd hf hP
  go_enter Tryd.func14, Tryd.ntmps14
  go_wp2_with (first
    | (go_at_call 21; refine (CL.out _ (by with_reducible exact bl_alloc (bl_refl _))).mono ?_; rintro e w2 ⟨ad, cc, base, ra, rk, rfl, hpk⟩; have HB : Hid (Below w.heap.size w w2) := bl_via (bl_alloc (bl_refl _)) hpk.2.2.2.2; have HPK : Hid (PA w2 ad ra L) := hpk.pa; have HB2 : Hid (w2.cell? ⟨w.heap.size, 3, none⟩ = some (.slice cb n ccap)) := (cl_kept hpk.2.2.2.2 (by simp [go_sem])); have cw := HB2.out; have zw : w.heap.size < w2.heap.size := World.block_lt_of_cell? _ _ cw; clear hpk)
    | (go_at_call 34; refine (CP.out _ ad cc ra rk (by with_reducible exact bl_alloc HB.out) (HPK.out.kept (by with_reducible exact bl_alloc (bl_refl _)))).mono ?_; intro e w3 hR; have HR0 : Hid (StarsR P f w w3 e) := hR.mono (bl_alloc HB.out); obtain ⟨va, vc, vB, rfl, _⟩ := hR; have HR : Hid (StarsR P f w w3 (.returned (.slice va vB.length vc))) := HR0.out; clear HR0))
  exact bodyPost_ret (v := .tuple #[.slice va vB.length vc, .int .i64 0]) (by simp [results, Tryd.results14, go_sem]) rfl ⟨_, rfl, HR.out⟩
theorem take_same {l m : List Int} {i : Nat} (hi : i < l.length) (hj : i < m.length) (h : l.take i = m.take i) (e : l[i] = m[i]) : l.take (i + 1) = m.take (i + 1) := by
  rw [List.take_succ_eq_append_getElem hi, List.take_succ_eq_append_getElem hj, h, e]
set_option maxRecDepth 100000 in
set_option maxHeartbeats 1600000 in
theorem sameInts_any (a b : Option Addr) (c d : Nat) (l m : List Int) (w : World) (hl : Row w a l) (hm : Row w b m) (h8 : l.length ≤ 8) (h9 : m.length ≤ 8) :
    Calls Tryd.prog 16 #[.slice a l.length c, .slice b m.length d] w fun e w' => e = .returned (.bool (decide (l = m))) ∧ Below w.heap.size w w' := by
  obtain ⟨r, hr⟩ : ∃ r, r = decide (l = m) := ⟨_, rfl⟩
  have HR : Hid (r = decide (l = m)) := hr
  rw [← hr]
  clear hr
  by_cases hn : l.length = m.length
  · have q : ((l.length : Int) != (m.length : Int)) = false := by rw [hn]; simp
    have HA : Hid (Row w a l) := hl
    have HM : Hid (Row w b m) := hm
    have HN : Hid (l.length = m.length) := hn
    have hn2 : (l.length : Int) ≤ (m.length : Int) := by omega
    clear hl hm hn
    go_enter Tryd.func16, Tryd.ntmps16
    go_wp2
    go_loopg [5] l.length (fun gk s5 wx => ∃ i : Nat, i ≤ l.length ∧ gk = l.length - i ∧ s5 = .int .i64 (i : Int) ∧ Below w.heap.size w wx ∧ l.take i = m.take i)
    case atStart => exact ⟨0, by omega, rfl, rfl, bl_refl _, by simp⟩
    case round =>
      obtain ⟨i, hi, rfl, rfl, hB, ht⟩ := hrel
      have HB : Hid (Below w.heap.size w wr ∧ l.take i = m.take i) := ⟨hB, ht⟩
      clear hB ht
      by_cases h1 : i < l.length
      · have i1 : (i : Int) < (l.length : Int) := by omega
        have i2 : (i : Int) < (m.length : Int) := by omega
        have i0 : (0 : Int) ≤ (i : Int) := by omega
        have h2 : i < m.length := by omega
        obtain ⟨g, o, rfl, c0⟩ := HA.out i h1
        obtain ⟨g', o', rfl, c1⟩ := HM.out i h2
        replace c0 := cl_kept HB.out.1 c0
        replace c1 := cl_kept HB.out.1 c1
        have z0 : g < wr.heap.size := World.block_lt_of_cell? _ _ c0
        have z1 : g' < wr.heap.size := World.block_lt_of_cell? _ _ c1
        obtain ⟨x, hx⟩ : ∃ x, x = l[i] := ⟨_, rfl⟩
        obtain ⟨y, hy⟩ : ∃ y, y = m[i] := ⟨_, rfl⟩
        rw [← hx] at c0
        rw [← hy] at c1
        have HXY : Hid (x = l[i] ∧ y = m[i]) := ⟨hx, hy⟩
        clear hx hy
        have kc := Kin.cells wr
        have kn : Nonempty (Kin wr) := ⟨⟨wr, bl_refl _⟩⟩
        go_wp2
        refine wp_region_kin (by kernel_rfl) (by kernel_rfl) ?_
        repeat (go_big_quiet_step (fail))
        refine wpQuiet_nil ?_
        intro wq hw'
        obtain ⟨nq, hw''⟩ := hw'
        have hq : Below wr.heap.size wr wq := hw'' ▸ nq.h
        clear hw'' nq kc kn c0 c1
        by_cases e : x = y
        · have eb : (x != y) = false := by simpa using e
          have HE : Hid (x = y) := e
          clear e
          go_wp2
          go_roundg (l.length - (i + 1))
          case measure => omega
          case rel =>

            exact ⟨i + 1, by omega, rfl, by go_num, bl_via HB.out.1 hq, take_same h1 h2 HB.out.2 (by rw [← HXY.out.1, ← HXY.out.2]; exact HE.out)⟩
        · have eb : (x != y) = true := by simpa using e
          have HE : Hid (r = false) := by
            have : r = false := by
              rw [HR.out]
              refine decide_eq_false (fun h => e ?_)
              rw [HXY.out.1, HXY.out.2]
              simp only [h]
            exact this
          clear e
          go_wp2
          go_ret
          exact ⟨ret_bool HE.out.symm, bl_via HB.out.1 hq⟩
      · have i1 : ¬ (i : Int) < (l.length : Int) := by omega
        obtain rfl : i = l.length := by omega
        have HE : Hid (r = true) := by
          have : r = true := by
            rw [HR.out]
            refine decide_eq_true ?_
            have h5 := HB.out.2
            have h6 := HN.out
            rw [List.take_length, h6, List.take_length] at h5
            exact h5
          exact this
        go_wp2
        go_ret
        exact ⟨ret_bool HE.out.symm, HB.out.1⟩
  · have q : ((l.length : Int) != (m.length : Int)) = true := by rw [bne_iff_ne]; omega
    have HE : Hid (r = false) := by
      have : r = false := by
        rw [HR.out]
        exact decide_eq_false (fun e => hn (by rw [e]))
      exact this
    clear hl hm hn
    go_enter Tryd.func16, Tryd.ntmps16
    go_wp2
    go_ret
    exact ⟨ret_bool HE.out.symm, bl_refl _⟩

theorem SRk.of {w : World} {a : Option Addr} {c : Nat} {K : List (Int × Int)} {F f : Int × Int → Nat → Int} {Bs : List SB} (h : STR w (.slice a Bs.length c) Bs) (hB : ∀ b ∈ Bs, BOK w f b) (hK : Bs.map (fun b => b.1) = K) (hF : ∀ pt, sdirs (f pt) 8 = sdirs (F pt) 8 ∧ skinds (f pt) 8 = skinds (F pt) 8) : SRk w a K F := fun i hi => by
  subst hK
  have hi2 : i < Bs.length := by simpa using hi
  obtain ⟨a', c', e, hc⟩ := h
  simp only [Value.slice.injEq] at e
  obtain ⟨g, e2, hc⟩ := hc i hi2
  have c0 := hc 0 (by omega)
  have c1 := hc 1 (by omega)
  have c2 := hc 2 (by omega)
  have c3 := hc 3 (by omega)
  obtain ⟨⟨r0, l0⟩, ⟨r1, l1⟩⟩ := hB _ (List.getElem_mem hi2)
  have e3 : (Bs.map (fun b => b.1))[i] = Bs[i].1 := by simp
  rw [e3]
  obtain ⟨f0, f1⟩ := hF Bs[i].1
  rw [f0] at r0 l0
  rw [f1] at r1 l1
  refine ⟨g, Bs[i].2.1.1, Bs[i].2.1.2.2, Bs[i].2.2.1, Bs[i].2.2.2.2, e.1.trans e2, c0, c1, ?_, ?_, r0, r1⟩
  · rw [← l0]
    exact c2
  · rw [← l1]
    exact c3
theorem stars_to {L : List (Int × Int × Int)} {ks : List Int} {n : Nat} {pts : List (Int × Int)} {w w' : World} {e : Ending} (h : StarsTo (L.flatMap tps) (kc ks n) w w' e) (hn : L.Nodup) (hL : ∀ t ∈ L, Kd t) (hC : ∀ i, i < n → GE (ck ks i 0, ck ks i 1, ck ks i 2, ck ks i 3)) (hp : SPt pts (L.flatMap cnr)) :
    ∃ a c, e = .returned (.tuple #[.slice a (pts.filter (gref L fun pt d => kdn ks n (eP pt d))).length c, .int .i64 0]) ∧ SRk w' a (pts.filter (gref L fun pt d => kdn ks n (eP pt d))) (fun pt d => kdn ks n (eP pt d)) ∧ Below w.heap.size w w' := by
  obtain ⟨v, he, a, c, Bs, e1, h2, h3, h4, h5, h6⟩ := h
  have hK : Bs.map (fun b => b.1) = pts.filter (gref L fun pt d => kdn ks n (eP pt d)) := sorted_eq h4 (hp.1.filter _) (fun p => (h5 p).trans (gstar_iff hn hL hC hp p))
  have hlen : Bs.length = (pts.filter (gref L fun pt d => kdn ks n (eP pt d))).length := by rw [← hK, List.length_map]
  simp only [Ending.returned.injEq] at e1
  subst e1
  refine ⟨a, c, by rw [he, hlen], SRk.of h2 h3 hK (fun pt => sdirs_congr 8 (fun d hd => kc_kdn hC hd n (Nat.le_refl n))), h6⟩
theorem ref_to {L : List (Int × Int × Int)} {F : Int × Int → Nat → Int} {pts : List (Int × Int)} {w w' : World} {e : Ending} (h : RefR L F w w' e) (hp : SPt pts (L.flatMap cnr)) :
    ∃ a c, e = .returned (.slice a (pts.filter (gref L F)).length c) ∧ SRk w' a (pts.filter (gref L F)) F ∧ Below w.heap.size w w' := by
  obtain ⟨a, c, Bs, pts2, he, h2, h3, h4, h5, h6⟩ := h
  obtain rfl : pts2 = pts := sorted_eq h5.1 hp.1 (fun p => (h5.2 p).trans (hp.2 p).symm)
  have hlen : Bs.length = (pts2.filter (gref L F)).length := by rw [← h4, List.length_map]
  exact ⟨a, c, by rw [he, hlen], SRk.of h2 h3 h4 (fun pt => ⟨rfl, rfl⟩), h6⟩
end Go.Proofs.YtmjneoaciopioaaDoor
