/- A part of the proof of viewTells_holds. -/
import Derived.Test.YtnpboeodhpenmaaGreatDoorQlbs
import Derived.Test.YtnpboeodhpenmaaGreatDoorQlbr
import Derived.Test.YtnpboeodhpenmaaGreatDoorQlay
namespace Go.Proofs.YtnpboeodhpenmaaGreatDoor
open Go.RowKit

/-- What is seen at a place: the place, the uppermost triangle, whether its back is seen. -/
abbrev Seen9 := (Int × Int × Int) × (Int × Int × Int) × Bool
def lastT (s : (Int × Int × Int) × List (Int × Int × Int)) : Int × Int × Int := s.2.getD (s.2.length - 1) (0, 0, 0)
def seenOf (L : List (Int × Int × Int)) (M : Nat → M6) (s : (Int × Int × Int) × List (Int × Int × Int)) : Seen9 := (s.1, lastT s, tov (M (L.idxOf (lastT s))))
def tops (S : List ((Int × Int × Int) × List (Int × Int × Int))) (L : List (Int × Int × Int)) (M : Nat → M6) (i : Nat) : List Seen9 := (S.take i).map (seenOf L M)
def flatS (l : List Seen9) : List Value := l.flatMap fun s => [.int .i64 s.1.1, .int .i64 s.1.2.1, .int .i64 s.1.2.2, .int .i64 s.2.1.1, .int .i64 s.2.1.2.1, .int .i64 s.2.1.2.2, .bool s.2.2]
theorem tops_succ {S : List ((Int × Int × Int) × List (Int × Int × Int))} {L : List (Int × Int × Int)} {M : Nat → M6} {i : Nat} (h : i < S.length) : tops S L M (i + 1) = tops S L M i ++ [seenOf L M S[i]] := by
  unfold tops
  rw [List.take_add_one, List.getElem?_eq_getElem h, List.map_append]
  rfl
theorem tops_len {S : List ((Int × Int × Int) × List (Int × Int × Int))} {L : List (Int × Int × Int)} {M : Nat → M6} {i : Nat} (h : i ≤ S.length) : (tops S L M i).length = i := by
  unfold tops
  rw [List.length_map, List.length_take]
  omega
theorem flatS_add (l : List Seen9) (s : Seen9) : flatS (l ++ [s]) = flatS l ++ [.int .i64 s.1.1, .int .i64 s.1.2.1, .int .i64 s.1.2.2, .int .i64 s.2.1.1, .int .i64 s.2.1.2.1, .int .i64 s.2.1.2.2, .bool s.2.2] := by simp [flatS]
theorem inf63 : (Tryz.prog.info? 73).map (fun i => (i.zero, i.size, i.bytes)) = some (some (.agg #[.int .i64 0, .int .i64 0, .int .i64 0, .int .i64 0, .int .i64 0, .int .i64 0, .bool false]), 7, 56) := by kernel_rfl
theorem cell_seven_new (w : World) (a b c d e f : Int) (g : Bool) : ∀ j u, ([Value.int .i64 a, .int .i64 b, .int .i64 c, .int .i64 d, .int .i64 e, .int .i64 f, .bool g])[j]? = some u → (w.alloc (.cells #[.int .i64 a, .int .i64 b, .int .i64 c, .int .i64 d, .int .i64 e, .int .i64 f, .bool g] 73)).cell? ((⟨w.heap.size, 0, none⟩ : Addr).add j) = some u := by
  intro j u hu
  match j, hu with
  | 0, hu => simp at hu; subst hu; simp [go_sem, Addr.add]
  | 1, hu => simp at hu; subst hu; simp [go_sem, Addr.add]
  | 2, hu => simp at hu; subst hu; simp [go_sem, Addr.add]
  | 3, hu => simp at hu; subst hu; simp [go_sem, Addr.add]
  | 4, hu => simp at hu; subst hu; simp [go_sem, Addr.add]
  | 5, hu => simp at hu; subst hu; simp [go_sem, Addr.add]
  | 6, hu => simp at hu; subst hu; simp [go_sem, Addr.add]
/-- What the reference's TopOf answers. -/
def TpTo (S : List ((Int × Int × Int) × List (Int × Int × Int))) (L : List (Int × Int × Int)) (M : Nat → M6) (w w' : World) (e : Ending) : Prop := ∃ u, e = .returned u ∧ w'.ownsRow w.heap.size 73 7 u (tops S L M S.length).length (flatS (tops S L M S.length)) ∧ Below w.heap.size w w'
set_option maxRecDepth 100000 in
set_option maxHeartbeats 12800000 in
theorem topOf_any (W H : Int) (a c mp sp : Option Addr) (zl ca n cc mc sl sc nn : Nat) (w : World) (L : List (Int × Int × Int)) (M : Nat → M6) (S : List ((Int × Int × Int) × List (Int × Int × Int)))
    (CT : Hid (∀ V : World, Below w.heap.size w V → Calls Tryz.prog 51 #[.agg #[.int .i64 W, .int .i64 H, .slice a zl ca, .slice c n cc]] V fun e w' => ∃ a9 c9, e = .returned (.slice a9 nn c9) ∧ TRow w' a9 L ∧ Below V.heap.size V w'))
    (hM : MRowG w mp nn M) (hMO : ∀ i, i < nn → mapM (M i) = true) (hnn : nn = L.length) (hL : nn ≤ 256) (hS : SRowG w sp S) (hsl : sl = S.length) (hsl2 : sl ≤ 300) (hSm : ∀ s ∈ S, ∀ t ∈ s.2, t ∈ L) (hSn : ∀ s ∈ S, s.2 ≠ []) (hSb : ∀ s ∈ S, s.2.length ≤ 300) :
    Calls Tryz.prog 24 #[.agg #[.int .i64 W, .int .i64 H, .slice a zl ca, .slice c n cc, .slice mp nn mc, .slice sp sl sc]] w fun e w' => TpTo S L M w w' e := by
  have HR : Hid (MRowG w mp nn M ∧ (∀ i, i < nn → mapM (M i) = true) ∧ nn = L.length ∧ SRowG w sp S ∧ sl = S.length ∧ (∀ s ∈ S, ∀ t ∈ s.2, t ∈ L) ∧ (∀ s ∈ S, s.2 ≠ []) ∧ ∀ s ∈ S, s.2.length ≤ 300) := ⟨hM, hMO, hnn, hS, hsl, hSm, hSn, hSb⟩
  obtain ⟨i63, hi, hz0, hz1, hz2⟩ := info_parts inf63
  have HI : Hid (Tryz.prog.info? 73 = some i63 ∧ i63.zero = some (.agg #[.int .i64 0, .int .i64 0, .int .i64 0, .int .i64 0, .int .i64 0, .int .i64 0, .bool false]) ∧ i63.size = 7 ∧ i63.bytes = 56) := ⟨hi, hz0, hz1, hz2⟩
  clear hM hMO hnn hS hsl hSm hSn hSb hi hz0 hz1 hz2
  go_enter Tryz.func24, Tryz.ntmps24
  go_upto_region 2 with (go_at_call 51; refine (CT.out _ (by with_reducible exact bl_alloc (bl_refl _))).mono ?_; rintro e w1 ⟨a9, ca9, rfl, hT9, hb⟩; have HW1' : Hid (TRow w1 a9 L ∧ Below w.heap.size w w1 ∧ w1.cell? ⟨w.heap.size, 4, none⟩ = some (.slice mp nn mc) ∧ w1.cell? ⟨w.heap.size, 5, none⟩ = some (.slice sp sl sc)) := ⟨hT9, bl_via (bl_alloc (bl_refl _)) hb, cl_kept hb (by simp [go_sem]), cl_kept hb (by simp [go_sem])⟩; clear hT9 hb)
  obtain ⟨W0, hW0⟩ : ∃ W0, W0 = w1 := ⟨_, rfl⟩
  have HW1 : Hid ((TRow w1 a9 L ∧ w1.cell? ⟨w.heap.size, 4, none⟩ = some (.slice mp nn mc)) ∧ Below w.heap.size w w1 ∧ w1.cell? ⟨w.heap.size, 5, none⟩ = some (.slice sp sl sc) ∧ W0.heap.size ≤ w1.heap.size) := ⟨⟨HW1'.out.1, HW1'.out.2.2.1⟩, HW1'.out.2.1, HW1'.out.2.2.2, by rw [hW0]; exact Nat.le_refl _⟩
  have HWE : Hid (W0 = w1) := hW0
  clear HW1' hW0
  go_wp2
  go_loopg [4, 5] sl (fun gk s4 s5 wx => ∃ (i : Nat) (u : Value), i ≤ sl ∧ gk = sl - i ∧ u = s4 ∧ s5 = .int .i64 (i : Int) ∧ wx.ownsRow W0.heap.size 73 7 u (tops S L M i).length (flatS (tops S L M i)) ∧ Below w1.heap.size w1 wx)
  case atStart => exact ⟨0, _, by omega, rfl, rfl, rfl, by simpa [tops, flatS] using World.ownsRow_nil _ _ _ _, bl_refl _⟩
  case round =>
    obtain ⟨i, u, hi, rfl, rfl, rfl, hO, hB⟩ := hrel
    have HJ : Hid (wr.ownsRow W0.heap.size 73 7 u (tops S L M i).length (flatS (tops S L M i)) ∧ Below w1.heap.size w1 wr) := ⟨hO, hB⟩
    have x5 := cl_kept hB HW1.out.2.2.1
    have z5 : w.heap.size < wr.heap.size := World.block_lt_of_cell? _ _ x5
    clear hO hB
    by_cases h1 : i < sl
    · have i1 : (i : Int) < (sl : Int) := by omega
      have i0 : (0 : Int) ≤ (i : Int) := by omega
      have hiS : i < S.length := by rw [← HR.out.2.2.2.2.1]; exact h1
      have HLN : Hid ((tops S L M i).length ≤ 300) := by
        show (tops S L M i).length ≤ 300
        rw [tops_len (by omega)]
        omega
      obtain ⟨gs, os, sa, sd, e1, c0, c1, c2, c3, n3, hTG⟩ := (HR.out.2.2.2.1.kept (bl_via HW1.out.2.1 HJ.out.2)) i hiS
      subst e1
      have hsm : S[i] ∈ S := List.getElem_mem hiS
      obtain ⟨m, hm⟩ : ∃ m, S[i].2.length = m + 1 := ⟨S[i].2.length - 1, by
        have := HR.out.2.2.2.2.2.2.1 _ hsm
        have := List.length_pos_iff.2 this
        omega⟩
      have hm3 : m + 1 ≤ 300 := by rw [← hm]; exact HR.out.2.2.2.2.2.2.2 _ hsm
      have hml : m < S[i].2.length := by omega
      obtain ⟨gt, ot, e2, t0, t1, t2⟩ := hTG m hml
      subst e2
      obtain ⟨X, Y, K9, hat⟩ : ∃ X Y K, S[i].1 = (X, Y, K) := ⟨_, _, _, rfl⟩
      obtain ⟨x, y, k, hti⟩ : ∃ x y kk, S[i].2[m] = (x, y, kk) := ⟨_, _, _, rfl⟩
      have hlast : lastT S[i] = (x, y, k) := by
        unfold lastT
        rw [hm, Nat.add_sub_cancel, List.getD_eq_getElem?_getD, List.getElem?_eq_getElem hml, ← hti]
        rfl
      have hmem : (x, y, k) ∈ L := HR.out.2.2.2.2.2.1 _ hsm _ (hti ▸ List.getElem_mem hml)
      obtain ⟨j, hj⟩ : ∃ j, j = L.idxOf (x, y, k) := ⟨_, rfl⟩
      have hjL : j < nn := by
        rw [hj, HR.out.2.2.1]
        exact List.idxOf_lt_length_of_mem hmem
      have hpj : plc L (x, y, k) = (j : Int) := by unfold plc; rw [if_pos hmem, hj]
      rw [hat] at c0 c1 c2
      rw [hti] at t0 t1 t2
      rw [hm] at c3
      dsimp only at c0 c1 c2 t0 t1 t2
      obtain ⟨gm, om, e3, y0, y1, y2, y3, y4, y5⟩ := (HR.out.1.kept HW1.out.2.1) j hjL
      subst e3
      obtain ⟨A, B, C, D, E, F, hmi⟩ : ∃ A B C D E F, M j = (A, B, C, D, E, F) := ⟨_, _, _, _, _, _, rfl⟩
      rw [hmi] at y0 y1 y2 y3 y4 y5
      dsimp only at y0 y1 y2 y3 y4 y5
      obtain ⟨tb, htb⟩ : ∃ tb, tb = tov (M j) := ⟨_, rfl⟩
      have HNX : Hid (tops S L M (i + 1) = tops S L M i ++ [((X, Y, K9), (x, y, k), tb)]) := by
        show tops S L M (i + 1) = tops S L M i ++ [((X, Y, K9), (x, y, k), tb)]
        rw [tops_succ hiS]
        unfold seenOf
        rw [hlast, hat, ← hj, htb]
      have C43 : Hid (∀ V : World, Calls Tryz.prog 74 #[.agg #[.int .i64 A, .int .i64 B, .int .i64 C, .int .i64 D, .int .i64 E, .int .i64 F]] V fun e w' => e = .returned (.bool tb) ∧ Below V.heap.size V w') := fun V => by
        have := turnsOver_any A B C D E F V (by rw [← hmi]; exact HR.out.2.1 j hjL)
        rw [← hmi, ← htb] at this
        exact this
      have C32 : Hid (∀ V : World, Below w1.heap.size w1 V → Calls Tryz.prog 53 #[.slice a9 nn ca9, .agg #[.int .i64 x, .int .i64 y, .int .i64 k]] V fun e w' => e = .returned (.int .i64 (j : Int)) ∧ Below V.heap.size V w') := fun V hV => by
        have := placeOf_any a9 ca9 L x y k V (HW1.out.1.1.kept hV) (by rw [← HR.out.2.2.1]; exact hL)
        rw [hpj, ← HR.out.2.2.1] at this
        exact this
      have j1 : (j : Int) < (nn : Int) := by omega
      have j0 : (0 : Int) ≤ (j : Int) := by omega
      have m1 : (m : Int) < ((m : Int) + 1) := by omega
      have m0 : (0 : Int) ≤ (m : Int) := by omega
      have zgs : gs < wr.heap.size := World.block_lt_of_cell? _ _ c3
      have zgt : gt < wr.heap.size := World.block_lt_of_cell? _ _ t0
      have HY : Hid (∀ wx : World, Below w1.heap.size w1 wx → wx.cell? ⟨w.heap.size, 4, none⟩ = some (.slice (some ⟨gm, om, none⟩) nn mc) ∧ wx.cell? ⟨gm, om + j * 6, none⟩ = some (.int .i64 A) ∧ wx.cell? ⟨gm, om + j * 6 + 1, none⟩ = some (.int .i64 B) ∧ wx.cell? ⟨gm, om + j * 6 + 2, none⟩ = some (.int .i64 C) ∧ wx.cell? ⟨gm, om + j * 6 + 3, none⟩ = some (.int .i64 D) ∧ wx.cell? ⟨gm, om + j * 6 + 4, none⟩ = some (.int .i64 E) ∧ wx.cell? ⟨gm, om + j * 6 + 5, none⟩ = some (.int .i64 F)) := fun wx hx => ⟨cl_kept hx HW1.out.1.2, cl_kept hx y0, cl_kept hx y1, cl_kept hx y2, cl_kept hx y3, cl_kept hx y4, cl_kept hx y5⟩
      have zgm : gm < w1.heap.size := World.block_lt_of_cell? _ _ y0
      have zw1 : w.heap.size < w1.heap.size := World.block_lt_of_cell? _ _ HW1.out.1.2
      have HNE : Hid (∀ b, (w1.heap.size ≤ b → wr.heap.size ≤ b) → some b ≠ u.ownBlock) := fun b hb e => by
        have h9 := HJ.out.1.lt b e.symm
        rw [HWE.out] at h9
        have := hb h9.1
        omega
      clear hmi htb hpj hj hmem hlast hti hat hsm n3 hTG y0 y1 y2 y3 y4 y5
      clear hm hml hiS
      go_upto_region 8 with fail
      refine wp_named (fun W7 hW7 => ?_)
      have HSX : Hid (∀ wx : World, Below W7.heap.size W7 wx → wx.cell? ⟨wr.heap.size, 0, none⟩ = some (.int .i64 X) ∧ wx.cell? ⟨wr.heap.size, 1, none⟩ = some (.int .i64 Y) ∧ wx.cell? ⟨wr.heap.size, 2, none⟩ = some (.int .i64 K9) ∧ wx.cell? ⟨wr.heap.size + 1, 0, none⟩ = some (.int .i64 x) ∧ wx.cell? ⟨wr.heap.size + 1, 1, none⟩ = some (.int .i64 y) ∧ wx.cell? ⟨wr.heap.size + 1, 2, none⟩ = some (.int .i64 k) ∧ wx.cell? ⟨w.heap.size, 4, none⟩ = some (.slice (some ⟨gm, om, none⟩) nn mc) ∧ wx.cell? ⟨gm, om + j * 6, none⟩ = some (.int .i64 A) ∧ wx.cell? ⟨gm, om + j * 6 + 1, none⟩ = some (.int .i64 B) ∧ wx.cell? ⟨gm, om + j * 6 + 2, none⟩ = some (.int .i64 C) ∧ wx.cell? ⟨gm, om + j * 6 + 3, none⟩ = some (.int .i64 D) ∧ wx.cell? ⟨gm, om + j * 6 + 4, none⟩ = some (.int .i64 E) ∧ wx.cell? ⟨gm, om + j * 6 + 5, none⟩ = some (.int .i64 F)) := fun wx hx => by
        have hbw : Below w1.heap.size w1 W7 := by
          rw [hW7]
          exact bl_alloc (bl_alloc HJ.out.2)
        obtain ⟨d0, d1, d2, d3, d4, d5, d6⟩ := HY.out _ (bl_via hbw hx)
        rw [hW7] at hx
        exact ⟨cl_kept hx (by simp [go_sem]), cl_kept hx (by simp [go_sem]), cl_kept hx (by simp [go_sem]), cl_kept hx (by simp [go_sem]), cl_kept hx (by simp [go_sem]), cl_kept hx (by simp [go_sem]), d0, d1, d2, d3, d4, d5, d6⟩
      have HB7 : Hid (Below w1.heap.size w1 W7 ∧ W7.ownsRow W0.heap.size 73 7 u (tops S L M i).length (flatS (tops S L M i))) := by
        rw [hW7]
        exact ⟨bl_alloc (bl_alloc HJ.out.2), own_below HJ.out.1 (bl_alloc (bl_alloc (bl_refl _)))⟩
      clear hW7 x5 z5 c0 c1 c2 c3 t0 t1 t2 zgs zgt
      refine wp_region_held_drew (S := fun w' => w'.cell? ⟨wr.heap.size, 0, none⟩ = some (.int .i64 X) ∧ w'.cell? ⟨wr.heap.size, 1, none⟩ = some (.int .i64 Y) ∧ w'.cell? ⟨wr.heap.size, 2, none⟩ = some (.int .i64 K9) ∧ w'.cell? ⟨wr.heap.size + 1, 0, none⟩ = some (.int .i64 x) ∧ w'.cell? ⟨wr.heap.size + 1, 1, none⟩ = some (.int .i64 y) ∧ w'.cell? ⟨wr.heap.size + 1, 2, none⟩ = some (.int .i64 k) ∧ w'.cell? ⟨w.heap.size, 4, none⟩ = some (.slice (some ⟨gm, om, none⟩) nn mc) ∧ w'.cell? ⟨gm, om + j * 6, none⟩ = some (.int .i64 A) ∧ w'.cell? ⟨gm, om + j * 6 + 1, none⟩ = some (.int .i64 B) ∧ w'.cell? ⟨gm, om + j * 6 + 2, none⟩ = some (.int .i64 C) ∧ w'.cell? ⟨gm, om + j * 6 + 3, none⟩ = some (.int .i64 D) ∧ w'.cell? ⟨gm, om + j * 6 + 4, none⟩ = some (.int .i64 E) ∧ w'.cell? ⟨gm, om + j * 6 + 5, none⟩ = some (.int .i64 F)) (by kernel_rfl) (HSX.out _ (bl_drew (bl_refl _))) (fun hHeld => ?_)
      refine wpAnyH_take (i := 0) (v := u) rfl (by kernel_rfl) (by kernel_rfl) (by kernel_rfl) (fun _ _ _ h => h) (Or.inl ⟨by rfl, ?hyy⟩) (by assumption) ?_
      case hyy => (intro w' hSw; (try dsimp only at hSw); go_simp)
      try simp only [Act.put, List.getElem_toArray, List.getElem_cons_zero, List.setIfInBounds_toArray, List.set_cons_zero, List.set_cons_succ]
      refine wpAnyH_take (i := 1) (v := .pointer (some ⟨wr.heap.size, 0, none⟩)) rfl (by kernel_rfl) (by kernel_rfl) (by kernel_rfl) (fun _ _ _ h => h) (Or.inl ⟨by rfl, ?hyy⟩) (by assumption) ?_
      case hyy => (intro w' hSw; (try dsimp only at hSw); go_simp)
      try simp only [Act.put, List.getElem_toArray, List.getElem_cons_succ, List.getElem_cons_zero, List.setIfInBounds_toArray, List.set_cons_zero, List.set_cons_succ]
      refine wpAnyH_take (i := 2) (v := .agg #[.int .i64 X, .int .i64 Y, .int .i64 K9]) rfl (by kernel_rfl) (by kernel_rfl) (by kernel_rfl) (fun _ _ _ h => h) (Or.inl ⟨by rfl, ?hyy⟩) (by assumption) ?_
      case hyy => (intro w' hSw; (try dsimp only at hSw); go_simp)
      try simp only [Act.put, List.getElem_toArray, List.getElem_cons_succ, List.getElem_cons_zero, List.setIfInBounds_toArray, List.set_cons_zero, List.set_cons_succ]
      refine wpAnyH_take (i := 3) (v := .agg #[.int .i64 x, .int .i64 y, .int .i64 k]) rfl (by kernel_rfl) (by kernel_rfl) (by kernel_rfl) (fun _ _ _ h => h) (Or.inl ⟨by rfl, ?hyy⟩) (by assumption) ?_
      case hyy => (intro w' hSw; (try dsimp only at hSw); go_simp)
      try simp only [Act.put, List.getElem_toArray, List.getElem_cons_succ, List.getElem_cons_zero, List.setIfInBounds_toArray, List.set_cons_zero, List.set_cons_succ]
      refine wpAnyH_take (i := 4) (v := .pointer (some ⟨w.heap.size, 4, none⟩)) rfl (by kernel_rfl) (by kernel_rfl) (by kernel_rfl) (fun _ _ _ h => h) (Or.inl ⟨by rfl, ?hyy⟩) (by assumption) ?_
      case hyy => (intro w' hSw; (try dsimp only at hSw); go_simp)
      try simp only [Act.put, List.getElem_toArray, List.getElem_cons_succ, List.getElem_cons_zero, List.setIfInBounds_toArray, List.set_cons_zero, List.set_cons_succ]
      refine wpAnyH_take (i := 5) (v := .slice (some ⟨gm, om, none⟩) nn mc) rfl (by kernel_rfl) (by kernel_rfl) (by kernel_rfl) (fun _ _ _ h => h) (Or.inl ⟨by rfl, ?hyy⟩) (by assumption) ?_
      case hyy => (intro w' hSw; (try dsimp only at hSw); go_simp)
      try simp only [Act.put, List.getElem_toArray, List.getElem_cons_succ, List.getElem_cons_zero, List.setIfInBounds_toArray, List.set_cons_zero, List.set_cons_succ]
      refine wpAnyH_take (i := 6) (v := .slice a9 nn ca9) rfl (by kernel_rfl) (by kernel_rfl) (by kernel_rfl) (fun _ _ _ h => h) (Or.inl ⟨by rfl, ?hyy⟩) (by assumption) ?_
      case hyy => (intro w' hSw; (try dsimp only at hSw); go_simp)
      try simp only [Act.put, List.getElem_toArray, List.getElem_cons_succ, List.getElem_cons_zero, List.setIfInBounds_toArray, List.set_cons_zero, List.set_cons_succ]
      refine wpAnyH_take (i := 7) (v := .agg #[.int .i64 x, .int .i64 y, .int .i64 k]) rfl (by kernel_rfl) (by kernel_rfl) (by kernel_rfl) (fun _ _ _ h => h) (Or.inl ⟨by rfl, ?hyy⟩) (by assumption) ?_
      case hyy => (intro w' hSw; (try dsimp only at hSw); go_simp)
      try simp only [Act.put, List.getElem_toArray, List.getElem_cons_succ, List.getElem_cons_zero, List.setIfInBounds_toArray, List.set_cons_zero, List.set_cons_succ]
      refine wpAnyH_ready (rs := [8]) (by kernel_rfl) (by simp) ?_
      refine AllReadyH.cons rfl (fun K hK => ?_) AllReadyH.nil
      refine step_callTo (by rfl) 53 #[.slice a9 nn ca9, .agg #[.int .i64 x, .int .i64 y, .int .i64 k]] (by kernel_rfl) (C32.out _ (bl_drew HB7.out.1)) ?_
      rintro e w8 ⟨rfl, hb8⟩
      refine ⟨_, rfl, ?_⟩
      have HB8 : Hid (Below W7.heap.size W7 w8) := bl_via (bl_drew (bl_refl _)) hb8
      clear hb8
      refine hK.out _ _ (HSX.out _ HB8.out) (fun hHd => ?_)
      clear hK K
      try simp only [Act.put, List.getElem_toArray, List.getElem_cons_succ, List.getElem_cons_zero, List.setIfInBounds_toArray, List.set_cons_zero, List.set_cons_succ]
      refine wpAnyH_take (i := 9) (v := .pointer (some ⟨gm, om + j * 6, none⟩)) rfl (by kernel_rfl) (by kernel_rfl) (by kernel_rfl) (fun _ _ _ h => h) (Or.inl ⟨by rfl, ?hyy⟩) (by assumption) ?_
      case hyy => (intro w' hSw; (try dsimp only at hSw); go_simp)
      try simp only [Act.put, List.getElem_toArray, List.getElem_cons_succ, List.getElem_cons_zero, List.setIfInBounds_toArray, List.set_cons_zero, List.set_cons_succ]
      refine wpAnyH_take (i := 10) (v := .agg #[.int .i64 A, .int .i64 B, .int .i64 C, .int .i64 D, .int .i64 E, .int .i64 F]) rfl (by kernel_rfl) (by kernel_rfl) (by kernel_rfl) (fun _ _ _ h => h) (Or.inl ⟨by rfl, ?hyy⟩) (by assumption) ?_
      case hyy => (intro w' hSw; (try dsimp only at hSw); go_simp)
      try simp only [Act.put, List.getElem_toArray, List.getElem_cons_succ, List.getElem_cons_zero, List.setIfInBounds_toArray, List.set_cons_zero, List.set_cons_succ]
      refine wpAnyH_ready (rs := [11]) (by kernel_rfl) (by simp) ?_
      refine AllReadyH.cons rfl (fun K hK => ?_) AllReadyH.nil
      refine step_callTo (by rfl) 74 #[.agg #[.int .i64 A, .int .i64 B, .int .i64 C, .int .i64 D, .int .i64 E, .int .i64 F]] (by kernel_rfl) (C43.out _) ?_
      rintro e w9 ⟨rfl, hb9⟩
      refine ⟨_, rfl, ?_⟩
      have HB9 : Hid (Below W7.heap.size W7 w9) := bl_via HB8.out hb9
      clear hb9
      refine hK.out _ _ (HSX.out _ HB9.out) (fun hHd => ?_)
      clear hK K
      try simp only [Act.put, List.getElem_toArray, List.getElem_cons_succ, List.getElem_cons_zero, List.setIfInBounds_toArray, List.set_cons_zero, List.set_cons_succ]
      refine wpAnyH_take (i := 12) (v := .agg #[.int .i64 X, .int .i64 Y, .int .i64 K9, .int .i64 x, .int .i64 y, .int .i64 k, .bool tb]) rfl (by kernel_rfl) (by kernel_rfl) (by kernel_rfl) (fun _ _ _ h => h) (Or.inl ⟨by rfl, ?hyy⟩) (by assumption) ?_
      case hyy => (intro w' hSw; (try dsimp only at hSw); go_simp)
      try simp only [Act.put, List.getElem_toArray, List.getElem_cons_succ, List.getElem_cons_zero, List.setIfInBounds_toArray, List.set_cons_zero, List.set_cons_succ]
      refine wpAnyH_ready (rs := [13]) (by kernel_rfl) (by simp) ?_
      refine AllReadyH.cons rfl (fun K hK => ?_) AllReadyH.nil
      go_simp
      refine hK.out _ _ (HSX.out _ (bl_alloc HB9.out)) (fun hHd => ?_)
      clear hK K
      try simp only [Act.put, List.getElem_toArray, List.getElem_cons_succ, List.getElem_cons_zero, List.setIfInBounds_toArray, List.set_cons_zero, List.set_cons_succ]
      refine wpAnyH_ready (rs := [14]) (by kernel_rfl) (by simp) ?_
      refine AllReadyH.cons rfl (fun K hK => ?_) AllReadyH.nil
      obtain ⟨v', w11, hr, ho, hg, _, _⟩ := run_append_own_at (P := Tryz.prog) (w9.alloc (.cells #[.int .i64 X, .int .i64 Y, .int .i64 K9, .int .i64 x, .int .i64 y, .int .i64 k, .bool tb] 73)) W0.heap.size 62 62 73 i63 (.agg #[.int .i64 0, .int .i64 0, .int .i64 0, .int .i64 0, .int .i64 0, .int .i64 0, .bool false]) 7 56 Tryz.underlying62 HI.out.1 HI.out.2.1 HI.out.2.2.1 HI.out.2.2.2 rfl (by decide) u (tops S L M i).length (flatS (tops S L M i)) (own_below HB7.out.2 (bl_alloc HB9.out)) ⟨w9.heap.size, 0, none⟩ 1 1 [.int .i64 X, .int .i64 Y, .int .i64 K9, .int .i64 x, .int .i64 y, .int .i64 k, .bool tb] rfl (cell_seven_new _ _ _ _ _ _ _ _) (by intro q hq; simp at hq; rcases hq with rfl | rfl | rfl | rfl | rfl | rfl | rfl <;> rfl) (by have := HLN.out; unfold maxLen; omega) (by have := HLN.out; omega) (by have h1 := HB7.out.1.size; have h2 := HB9.out.size; have h3 := HW1.out.2.2.2; simp; omega)
      rw [if_pos (by rfl)]
      refine wp_append_run (.tmp 31) (.tmp 44) 62 rfl _ _ v' w11 rfl rfl hr ?_
      have HB11 : Hid (Below w1.heap.size w1 w11 ∧ w11.ownsRow W0.heap.size 73 7 v' (tops S L M (i + 1)).length (flatS (tops S L M (i + 1)))) := by
        have hbA : Below w1.heap.size w1 (w9.alloc (.cells #[.int .i64 X, .int .i64 Y, .int .i64 K9, .int .i64 x, .int .i64 y, .int .i64 k, .bool tb] 73)) := bl_alloc (bl_via HB7.out.1 HB9.out)
        refine ⟨hbA.grown hg hbA.size (fun q hq => by have := own_base HJ.out.1 q hq; rw [HWE.out] at this; exact this), ?_⟩
        rw [HNX.out, List.length_append, flatS_add]
        exact ho
      have HS11 : Hid (w11.cell? ⟨wr.heap.size, 0, none⟩ = some (.int .i64 X) ∧ w11.cell? ⟨wr.heap.size, 1, none⟩ = some (.int .i64 Y) ∧ w11.cell? ⟨wr.heap.size, 2, none⟩ = some (.int .i64 K9) ∧ w11.cell? ⟨wr.heap.size + 1, 0, none⟩ = some (.int .i64 x) ∧ w11.cell? ⟨wr.heap.size + 1, 1, none⟩ = some (.int .i64 y) ∧ w11.cell? ⟨wr.heap.size + 1, 2, none⟩ = some (.int .i64 k) ∧ w11.cell? ⟨w.heap.size, 4, none⟩ = some (.slice (some ⟨gm, om, none⟩) nn mc) ∧ w11.cell? ⟨gm, om + j * 6, none⟩ = some (.int .i64 A) ∧ w11.cell? ⟨gm, om + j * 6 + 1, none⟩ = some (.int .i64 B) ∧ w11.cell? ⟨gm, om + j * 6 + 2, none⟩ = some (.int .i64 C) ∧ w11.cell? ⟨gm, om + j * 6 + 3, none⟩ = some (.int .i64 D) ∧ w11.cell? ⟨gm, om + j * 6 + 4, none⟩ = some (.int .i64 E) ∧ w11.cell? ⟨gm, om + j * 6 + 5, none⟩ = some (.int .i64 F)) := by
        obtain ⟨d0, d1, d2, d3, d4, d5, d6, d7, d8, d9, d10, d11, d12⟩ := HSX.out _ (bl_alloc (o := .cells #[.int .i64 X, .int .i64 Y, .int .i64 K9, .int .i64 x, .int .i64 y, .int .i64 k, .bool tb] 73) HB9.out)
        exact ⟨hg.cell d0 (HNE.out _ (by simp)), hg.cell d1 (HNE.out _ (by simp)), hg.cell d2 (HNE.out _ (by simp)), hg.cell d3 (HNE.out _ (by simp)), hg.cell d4 (HNE.out _ (by simp)), hg.cell d5 (HNE.out _ (by simp)), hg.cell d6 (HNE.out _ (by dsimp only; omega)), hg.cell d7 (HNE.out _ (by dsimp only; omega)), hg.cell d8 (HNE.out _ (by dsimp only; omega)), hg.cell d9 (HNE.out _ (by dsimp only; omega)), hg.cell d10 (HNE.out _ (by dsimp only; omega)), hg.cell d11 (HNE.out _ (by dsimp only; omega)), hg.cell d12 (HNE.out _ (by dsimp only; omega))⟩
      clear hr ho hg
      refine hK.out _ _ HS11.out (fun hHd => ?_)
      clear hK K
      try simp only [Act.put, List.getElem_toArray, List.getElem_cons_succ, List.getElem_cons_zero, List.setIfInBounds_toArray, List.set_cons_zero, List.set_cons_succ]
      refine wpAnyH_take (i := 15) (v := v') rfl (by kernel_rfl) (by kernel_rfl) (by kernel_rfl) (fun _ _ _ h => h) (Or.inl ⟨by rfl, ?hyy⟩) (by assumption) ?_
      case hyy => (intro w' hSw; (try dsimp only at hSw); go_simp)
      try simp only [Act.put, List.getElem_toArray, List.getElem_cons_succ, List.getElem_cons_zero, List.setIfInBounds_toArray, List.set_cons_zero, List.set_cons_succ]
      refine wpAnyH_done (by kernel_rfl) ?_ _
      go_wp2
      go_roundg (sl - (i + 1))
      case measure => omega
      case rel => exact ⟨i + 1, v', by omega, rfl, rfl, by go_num, HB11.out.2, HB11.out.1⟩
    · have i1 : ¬ (i : Int) < (sl : Int) := by omega
      obtain rfl : i = sl := by omega
      go_wp2
      go_ret
      have hO := HJ.out.1
      rw [HR.out.2.2.2.2.1] at hO
      exact ⟨u, rfl, World_own_le hO (by rw [HWE.out]; exact HW1.out.2.1.size), bl_via HW1.out.2.1 HJ.out.2⟩

set_option maxRecDepth 100000 in
set_option maxHeartbeats 3200000 in
theorem top_no (W H : Int) (a c mp sp : Option Addr) (zl ca n cc mn mc sl sc : Nat) (w : World) (CO : Hid (∀ V : World, Below w.heap.size w V → Calls Tryz.prog 36 #[.agg #[.int .i64 W, .int .i64 H, .slice a zl ca, .slice c n cc, .slice mp mn mc, .slice sp sl sc]] V fun e w' => ∃ z0 k0 d0 m1 m2 z3 k3 d3 z4 k4 d4 f, e = .returned (.tuple #[.agg #[.slice z0 k0 d0, .map m1, .map m2, .slice z3 k3 d3, .slice z4 k4 d4], f, .bool false]) ∧ Below V.heap.size V w')) :
    Calls Tryz.prog 21 #[.agg #[.int .i64 W, .int .i64 H, .slice a zl ca, .slice c n cc, .slice mp mn mc, .slice sp sl sc]] w fun e w' => e = .returned (.tuple #[.slice none 0 0, .int .i64 10]) ∧ Below w.heap.size w w' := by
  go_enter Tryz.func21, Tryz.ntmps21
  go_upto_region 1 with fail
  refine wp_named (fun W0 hW0 => ?_)
  have hw0 : Below w.heap.size w W0 := by rw [hW0]; exact bl_alloc (bl_refl _)
  have x0 : W0.cell? ⟨w.heap.size, 0, none⟩ = some (.int .i64 W) := by rw [hW0]; simp [go_sem]
  have x1 : W0.cell? ⟨w.heap.size, 1, none⟩ = some (.int .i64 H) := by rw [hW0]; simp [go_sem]
  have x2 : W0.cell? ⟨w.heap.size, 2, none⟩ = some (.slice a zl ca) := by rw [hW0]; simp [go_sem]
  have x3 : W0.cell? ⟨w.heap.size, 3, none⟩ = some (.slice c n cc) := by rw [hW0]; simp [go_sem]
  have x4 : W0.cell? ⟨w.heap.size, 4, none⟩ = some (.slice mp mn mc) := by rw [hW0]; simp [go_sem]
  have x5 : W0.cell? ⟨w.heap.size, 5, none⟩ = some (.slice sp sl sc) := by rw [hW0]; simp [go_sem]
  have HW : Hid (Below w.heap.size w W0) := hw0
  clear hW0 hw0
  go_wp2_with (go_at_call 36; refine (CO.out _ HW.out).mono ?_; rintro e w1 ⟨z0, k0, d0, m1, m2, z3, k3, d3, z4, k4, d4, f, rfl, hb1⟩; have HB1 : Hid (Below w.heap.size w w1) := bl_via HW.out hb1; clear hb1)
  refine bodyPost_ret (v := .tuple #[.slice none 0 0, .int .i64 10]) (by simp [results, Tryz.results21, go_sem]) rfl ⟨rfl, ?_⟩
  have := HB1.out.size
  with_reducible repeat (first | exact HB1.out | refine bl_alloc ?_ | refine bl_set ?_ ?_)
  all_goals first | exact HB1.out | (dsimp only; omega)
/-- What Top answers. -/
def TcTo (S : List ((Int × Int × Int) × List (Int × Int × Int))) (L : List (Int × Int × Int)) (M : Nat → M6) (w w' : World) (e : Ending) : Prop := ∃ u, e = .returned (.tuple #[u, .int .i64 0]) ∧ w'.ownsRow w.heap.size 73 7 u (tops S L M S.length).length (flatS (tops S L M S.length)) ∧ Below w.heap.size w w'
set_option maxRecDepth 100000 in
set_option maxHeartbeats 12800000 in
theorem top_ok (W H : Int) (a c mp sp : Option Addr) (zl ca n cc mn mc sl sc : Nat) (nn : Nat) (w : World) (L : List (Int × Int × Int)) (kd : Int × Int × Int × Int → Int) (M : Nat → M6) (S : List ((Int × Int × Int) × List (Int × Int × Int))) (hMO : ∀ i, i < nn → mapM (M i) = true) (hnn : nn = L.length) (hL : nn ≤ 256) (hnd : L.Nodup) (hup : L.Pairwise ltT) (hS : SRow w sp S) (hsl : sl = S.length) (hsl2 : sl ≤ 300) (hSm : ∀ s ∈ S, ∀ t ∈ s.2, t ∈ L) (hSn : ∀ s ∈ S, s.2 ≠ []) (hSb : ∀ s ∈ S, s.2.length ≤ 300) (CO : Hid (∀ V : World, Below w.heap.size w V → Calls Tryz.prog 36 #[.agg #[.int .i64 W, .int .i64 H, .slice a zl ca, .slice c n cc, .slice mp mn mc, .slice sp sl sc]] V fun e w' => ∃ ad k ra rk gm cm pa pc f, e = .returned (.tuple #[.agg #[.slice ad nn k, .map (some ra), .map (some rk), .slice (some ⟨gm, 0, none⟩) nn cm, .slice pa nn pc], f, .bool true]) ∧ PileAt w' ad k ra rk gm cm pa pc L kd M ∧ Below V.heap.size V w')) :
    Calls Tryz.prog 21 #[.agg #[.int .i64 W, .int .i64 H, .slice a zl ca, .slice c n cc, .slice mp mn mc, .slice sp sl sc]] w fun e w' => TcTo S L M w w' e := by
  have HR : Hid ((∀ i, i < nn → mapM (M i) = true) ∧ nn = L.length ∧ SRow w sp S ∧ sl = S.length ∧ (∀ s ∈ S, ∀ t ∈ s.2, t ∈ L) ∧ (∀ s ∈ S, s.2 ≠ []) ∧ (∀ s ∈ S, s.2.length ≤ 300) ∧ L.Nodup ∧ L.Pairwise ltT) := ⟨hMO, hnn, hS, hsl, hSm, hSn, hSb, hnd, hup⟩
  obtain ⟨i63, hi, hz0, hz1, hz2⟩ := info_parts inf63
  have HI : Hid (Tryz.prog.info? 73 = some i63 ∧ i63.zero = some (.agg #[.int .i64 0, .int .i64 0, .int .i64 0, .int .i64 0, .int .i64 0, .int .i64 0, .bool false]) ∧ i63.size = 7 ∧ i63.bytes = 56) := ⟨hi, hz0, hz1, hz2⟩
  clear hMO hnn hS hsl hSm hSn hSb hnd hup hi hz0 hz1 hz2
  go_enter Tryz.func21, Tryz.ntmps21
  go_upto_region 1 with fail
  refine wp_named (fun W0 hW0 => ?_)
  have hw0 : Below w.heap.size w W0 := by rw [hW0]; exact bl_alloc (bl_refl _)
  have x0 : W0.cell? ⟨w.heap.size, 0, none⟩ = some (.int .i64 W) := by rw [hW0]; simp [go_sem]
  have x1 : W0.cell? ⟨w.heap.size, 1, none⟩ = some (.int .i64 H) := by rw [hW0]; simp [go_sem]
  have x2 : W0.cell? ⟨w.heap.size, 2, none⟩ = some (.slice a zl ca) := by rw [hW0]; simp [go_sem]
  have x3 : W0.cell? ⟨w.heap.size, 3, none⟩ = some (.slice c n cc) := by rw [hW0]; simp [go_sem]
  have x4 : W0.cell? ⟨w.heap.size, 4, none⟩ = some (.slice mp mn mc) := by rw [hW0]; simp [go_sem]
  have x5 : W0.cell? ⟨w.heap.size, 5, none⟩ = some (.slice sp sl sc) := by rw [hW0]; simp [go_sem]
  have HW : Hid (Below w.heap.size w W0) := hw0
  clear hW0 hw0
  go_upto_region 2 with (go_at_call 36; refine (CO.out _ HW.out).mono ?_; rintro e w1 ⟨ad, k, ra, rk, gm, cm, pa, pc, f, rfl, hp1, hb1⟩; have HB1 : Hid (Below w.heap.size w w1 ∧ PileAt w1 ad k ra rk gm cm pa pc L kd M) := ⟨bl_via HW.out hb1, hp1⟩; replace x5 := cl_kept hb1 x5; have z1 : w.heap.size < w1.heap.size := World.block_lt_of_cell? _ _ x5; clear hb1 hp1)
  refine wp_named (fun W2 hW2 => ?_)
  obtain ⟨G, hG⟩ : ∃ G, G = w1.heap.size := ⟨_, rfl⟩
  have hb2 : Below w1.heap.size w1 W2 := by
    rw [hW2]
    with_reducible repeat (first | exact bl_refl _ | refine bl_alloc ?_ | refine bl_set ?_ ?_)
    all_goals (dsimp only; omega)
  have HG : Hid (W2.cell? ⟨G, 0, none⟩ = some (.slice ad nn k) ∧ W2.cell? ⟨G, 1, none⟩ = some (.map (some ra)) ∧ W2.cell? ⟨G, 2, none⟩ = some (.map (some rk)) ∧ W2.cell? ⟨G, 3, none⟩ = some (.slice (some ⟨gm, 0, none⟩) nn cm) ∧ W2.cell? ⟨G, 4, none⟩ = some (.slice pa nn pc)) := by
    rw [hW2, hG]
    exact ⟨by simp [go_sem], by simp [go_sem], by simp [go_sem], by simp [go_sem], by simp [go_sem]⟩
  rw [← hG]
  replace x5 := cl_kept hb2 x5
  have HB2 : Hid (Below w.heap.size w W2 ∧ PileAt W2 ad k ra rk gm cm pa pc L kd M ∧ W2.cell? ⟨w.heap.size, 5, none⟩ = some (.slice sp sl sc)) := ⟨bl_via HB1.out.1 hb2, HB1.out.2.kept hb2, x5⟩
  have z2 : w.heap.size < W2.heap.size := World.block_lt_of_cell? _ _ x5
  have HGZ : Hid (G < W2.heap.size) := World.block_lt_of_cell? _ _ HG.out.1
  clear hW2 hG hb2 HB1 x0 x1 x2 x3 x4 z1
  go_wp2_with (at_make; refine wpList_make_own _ rfl (.const (.int .i64 0)) (.tmp 23) 62 rfl W2.heap.size 73 i63 (.agg #[.int .i64 0, .int .i64 0, .int .i64 0, .int .i64 0, .int .i64 0, .int .i64 0, .bool false]) 7 Tryz.underlying62 HI.out.1 HI.out.2.1 HI.out.2.2.1 .i64 .i64 _ sl rfl rfl rfl (by rw [HI.out.2.2.2]; omega) (by unfold maxLen; omega) (by simp) ?mk)
  case mk =>
    intro w3 hown hg3
    have hb3 : Below W2.heap.size W2 w3 := (Below.refl _ _).grown hg3 (Nat.le_refl _) (fun k h => by cases h)
    have HB3 : Hid (Below W2.heap.size W2 w3 ∧ w3.ownsRow W2.heap.size 73 7 (.slice (some ⟨W2.heap.size, 0, none⟩) 0 sl) 0 []) := ⟨hb3, by simpa using hown⟩
    replace x5 := cl_kept hb3 x5
    replace z2 : w.heap.size < w3.heap.size := World.block_lt_of_cell? _ _ x5
    clear hown hg3 hb3
    go_wp2
    go_loopg [7, 28] sl (fun gk s7 s28 wx => ∃ (i : Nat) (u : Value), i ≤ sl ∧ gk = sl - i ∧ u = s7 ∧ s28 = .int .i64 (i : Int) ∧ wx.ownsRow W2.heap.size 73 7 u (tops S L M i).length (flatS (tops S L M i)) ∧ Below W2.heap.size W2 wx)
    case atStart => exact ⟨0, _, by omega, rfl, rfl, rfl, by simpa [tops, flatS] using HB3.out.2, HB3.out.1⟩
    case round =>
      clear HB3 x5 z2
      obtain ⟨i, u, hi, rfl, rfl, rfl, hO, hB⟩ := hrel
      have HJ : Hid (wr.ownsRow W2.heap.size 73 7 u (tops S L M i).length (flatS (tops S L M i)) ∧ Below W2.heap.size W2 wr) := ⟨hO, hB⟩
      obtain ⟨p0, p1, p2, p3, p4⟩ := HG.out
      replace p0 := cl_kept hB p0
      replace p1 := cl_kept hB p1
      replace p2 := cl_kept hB p2
      replace p3 := cl_kept hB p3
      replace p4 := cl_kept hB p4
      have zG : G < wr.heap.size := World.block_lt_of_cell? _ _ p0
      clear hO hB
      by_cases h1 : i < sl
      · have i1 : (i : Int) < (sl : Int) := by omega
        have i0 : (0 : Int) ≤ (i : Int) := by omega
        have hiS : i < S.length := by rw [← HR.out.2.2.2.1]; exact h1
        have HLN : Hid ((tops S L M i).length ≤ 300) := by
          show (tops S L M i).length ≤ 300
          rw [tops_len (by omega)]
          omega
        obtain ⟨gs, sa, sd, e1, c0, c1, c2, c3, hTG⟩ := (HR.out.2.2.1.kept (bl_via HB2.out.1 HJ.out.2)) i hiS
        subst e1
        have hsm : S[i] ∈ S := List.getElem_mem hiS
        obtain ⟨m, hm⟩ : ∃ m, S[i].2.length = m + 1 := ⟨S[i].2.length - 1, by
          have := HR.out.2.2.2.2.2.1 _ hsm
          have := List.length_pos_iff.2 this
          omega⟩
        have hm3 : m + 1 ≤ 300 := by rw [← hm]; exact HR.out.2.2.2.2.2.2.1 _ hsm
        have hml : m < S[i].2.length := by omega
        obtain ⟨gt, e2, t0, t1, t2⟩ := hTG m hml
        subst e2
        obtain ⟨X, Y, K9, hat⟩ : ∃ X Y K, S[i].1 = (X, Y, K) := ⟨_, _, _, rfl⟩
        obtain ⟨x, y, q9, hti⟩ : ∃ x y kk, S[i].2[m] = (x, y, kk) := ⟨_, _, _, rfl⟩
        have hlast : lastT S[i] = (x, y, q9) := by
          unfold lastT
          rw [hm, Nat.add_sub_cancel, List.getD_eq_getElem?_getD, List.getElem?_eq_getElem hml, ← hti]
          rfl
        have hmem : (x, y, q9) ∈ L := HR.out.2.2.2.2.1 _ hsm _ (hti ▸ List.getElem_mem hml)
        obtain ⟨j, hj⟩ : ∃ j, j = L.idxOf (x, y, q9) := ⟨_, rfl⟩
        have hjL : j < nn := by
          rw [hj, HR.out.2.1]
          exact List.idxOf_lt_length_of_mem hmem
        rw [hat] at c0 c1 c2
        rw [hti] at t0 t1 t2
        rw [hm] at c3
        dsimp only at c0 c1 c2 t0 t1 t2
        obtain ⟨tb, htb⟩ : ∃ tb, tb = tov (M j) := ⟨_, rfl⟩
        have HNX : Hid (tops S L M (i + 1) = tops S L M i ++ [((X, Y, K9), (x, y, q9), tb)]) := by
          show tops S L M (i + 1) = tops S L M i ++ [((X, Y, K9), (x, y, q9), tb)]
          rw [tops_succ hiS]
          unfold seenOf
          rw [hlast, hat, ← hj, htb]
        have C41 : Hid (∀ V : World, Below W2.heap.size W2 V → Calls Tryz.prog 72 #[.agg #[.slice ad nn k, .map (some ra), .map (some rk), .slice (some ⟨gm, 0, none⟩) nn cm, .slice pa nn pc], .int .i64 (j : Int)] V fun e w' => e = .returned (.bool tb) ∧ Below V.heap.size V w') := fun V hV => by
          have := turnedOver_any V (.slice ad nn k) (.map (some ra)) (.map (some rk)) (.slice pa nn pc) gm nn cm j M (by have := (HB2.out.2.1.kept hV).mr; rw [← HR.out.2.1] at this; exact this) hjL (by omega) (HR.out.1 j hjL)
          rw [← htb] at this
          exact this
        have C40 : Hid (∀ V : World, Below W2.heap.size W2 V → Calls Tryz.prog 71 #[.agg #[.slice ad nn k, .map (some ra), .map (some rk)], .agg #[.int .i64 x, .int .i64 y, .int .i64 q9]] V fun e w' => e = .returned (.tuple #[.int .i64 (j : Int), .bool true]) ∧ Below V.heap.size V w') := fun V hV => by
          have := number_any V ad k (.map (some ra)) (.map (some rk)) L x y q9 (HB2.out.2.1.kept hV).tr.1 HR.out.2.2.2.2.2.2.2.2 (by rw [← HR.out.2.1]; omega)
          rw [← HR.out.2.1] at this
          refine this.mono fun e w' h => ?_
          obtain ⟨i', b', he, _, hb', ht', hB'⟩ := h
          have hbt : b' = true := hb'.2 hmem
          obtain ⟨hl', e'⟩ := ht' hbt
          have hp := plc_self HR.out.2.2.2.2.2.2.2.1 hl'
          rw [e'] at hp
          unfold plc at hp
          rw [if_pos hmem, ← hj] at hp
          have : i' = j := by omega
          exact ⟨by rw [he, hbt, this], hB'⟩
        have m1 : (m : Int) < ((m : Int) + 1) := by omega
        have m0 : (0 : Int) ≤ (m : Int) := by omega
        have zgs : gs < wr.heap.size := World.block_lt_of_cell? _ _ c3
        have zgt : gt < wr.heap.size := World.block_lt_of_cell? _ _ t0
        have HNE : Hid (∀ b, (W2.heap.size ≤ b → wr.heap.size ≤ b) → some b ≠ u.ownBlock) := fun b hb e => by
          have h9 := HJ.out.1.lt b e.symm
          have := hb h9.1
          omega
        clear htb hj hmem hlast hti hat hsm hTG
        clear hm hml hiS
        go_upto_region 9 with fail
        refine wp_named (fun W7 hW7 => ?_)
        have hb7 : Below wr.heap.size wr W7 := by
          rw [hW7]
          exact bl_alloc (bl_alloc (bl_refl _))
        have HC7 : Hid (W7.cell? ⟨wr.heap.size, 0, none⟩ = some (.int .i64 X) ∧ W7.cell? ⟨wr.heap.size, 1, none⟩ = some (.int .i64 Y) ∧ W7.cell? ⟨wr.heap.size, 2, none⟩ = some (.int .i64 K9) ∧ W7.cell? ⟨wr.heap.size + 1, 0, none⟩ = some (.int .i64 x) ∧ W7.cell? ⟨wr.heap.size + 1, 1, none⟩ = some (.int .i64 y) ∧ W7.cell? ⟨wr.heap.size + 1, 2, none⟩ = some (.int .i64 q9) ∧ W7.cell? ⟨G, 0, none⟩ = some (.slice ad nn k) ∧ W7.cell? ⟨G, 1, none⟩ = some (.map (some ra)) ∧ W7.cell? ⟨G, 2, none⟩ = some (.map (some rk)) ∧ W7.cell? ⟨G, 3, none⟩ = some (.slice (some ⟨gm, 0, none⟩) nn cm) ∧ W7.cell? ⟨G, 4, none⟩ = some (.slice pa nn pc)) := by
          refine ⟨?_, ?_, ?_, ?_, ?_, ?_, cl_kept hb7 p0, cl_kept hb7 p1, cl_kept hb7 p2, cl_kept hb7 p3, cl_kept hb7 p4⟩
          all_goals (rw [hW7]; simp [go_sem])
        have HB7 : Hid (Below W2.heap.size W2 W7 ∧ W7.ownsRow W2.heap.size 73 7 u (tops S L M i).length (flatS (tops S L M i))) := ⟨bl_via HJ.out.2 hb7, own_below HJ.out.1 hb7⟩
        clear hW7 hb7 c0 c1 c2 c3 t0 t1 t2 zgs zgt p0 p1 p2 p3 p4
        obtain ⟨b0, b1, b2, b3, b4, b5, b6, b7, b8, b9, b10⟩ := HC7.out
        have zb6 : wr.heap.size < W7.heap.size := World.block_lt_of_cell? _ _ b0
        have zb7 : wr.heap.size + 1 < W7.heap.size := World.block_lt_of_cell? _ _ b3
        have zG7 : G < W7.heap.size := World.block_lt_of_cell? _ _ b6
        go_upto_region 10 with (go_at_call 71; refine (C40.out _ HB7.out.1).mono ?_; rintro e w8 ⟨rfl, hb8⟩; have HB8 : Hid (Below W2.heap.size W2 w8 ∧ w8.ownsRow W2.heap.size 73 7 u (tops S L M i).length (flatS (tops S L M i))) := ⟨bl_via HB7.out.1 hb8, own_below HB7.out.2 hb8⟩; have HSX : Hid (∀ wx : World, Below w8.heap.size w8 wx → wx.cell? ⟨wr.heap.size, 0, none⟩ = some (.int .i64 X) ∧ wx.cell? ⟨wr.heap.size, 1, none⟩ = some (.int .i64 Y) ∧ wx.cell? ⟨wr.heap.size, 2, none⟩ = some (.int .i64 K9) ∧ wx.cell? ⟨wr.heap.size + 1, 0, none⟩ = some (.int .i64 x) ∧ wx.cell? ⟨wr.heap.size + 1, 1, none⟩ = some (.int .i64 y) ∧ wx.cell? ⟨wr.heap.size + 1, 2, none⟩ = some (.int .i64 q9) ∧ wx.cell? ⟨G, 0, none⟩ = some (.slice ad nn k) ∧ wx.cell? ⟨G, 1, none⟩ = some (.map (some ra)) ∧ wx.cell? ⟨G, 2, none⟩ = some (.map (some rk)) ∧ wx.cell? ⟨G, 3, none⟩ = some (.slice (some ⟨gm, 0, none⟩) nn cm) ∧ wx.cell? ⟨G, 4, none⟩ = some (.slice pa nn pc)) := (fun wx hx => ⟨cl_kept (bl_via hb8 hx) b0, cl_kept (bl_via hb8 hx) b1, cl_kept (bl_via hb8 hx) b2, cl_kept (bl_via hb8 hx) b3, cl_kept (bl_via hb8 hx) b4, cl_kept (bl_via hb8 hx) b5, cl_kept (bl_via hb8 hx) b6, cl_kept (bl_via hb8 hx) b7, cl_kept (bl_via hb8 hx) b8, cl_kept (bl_via hb8 hx) b9, cl_kept (bl_via hb8 hx) b10⟩); clear hb8)
        clear b0 b1 b2 b3 b4 b5 b6 b7 b8 b9 b10 zb6 zb7 zG7
        have zGG := HGZ.out
        refine wp_region_held_drew (S := fun w' => w'.cell? ⟨wr.heap.size, 0, none⟩ = some (.int .i64 X) ∧ w'.cell? ⟨wr.heap.size, 1, none⟩ = some (.int .i64 Y) ∧ w'.cell? ⟨wr.heap.size, 2, none⟩ = some (.int .i64 K9) ∧ w'.cell? ⟨wr.heap.size + 1, 0, none⟩ = some (.int .i64 x) ∧ w'.cell? ⟨wr.heap.size + 1, 1, none⟩ = some (.int .i64 y) ∧ w'.cell? ⟨wr.heap.size + 1, 2, none⟩ = some (.int .i64 q9) ∧ w'.cell? ⟨G, 0, none⟩ = some (.slice ad nn k) ∧ w'.cell? ⟨G, 1, none⟩ = some (.map (some ra)) ∧ w'.cell? ⟨G, 2, none⟩ = some (.map (some rk)) ∧ w'.cell? ⟨G, 3, none⟩ = some (.slice (some ⟨gm, 0, none⟩) nn cm) ∧ w'.cell? ⟨G, 4, none⟩ = some (.slice pa nn pc)) (by kernel_rfl) (HSX.out _ (bl_drew (bl_refl _))) (fun hHeld => ?_)
        refine wpAnyH_take (i := 0) (v := u) rfl (by kernel_rfl) (by kernel_rfl) (by kernel_rfl) (fun _ _ _ h => h) (Or.inl ⟨by rfl, ?hyy⟩) (by assumption) ?_
        case hyy => (intro w' hSw; (try dsimp only at hSw); go_simp)
        try simp only [Act.put, List.getElem_toArray, List.getElem_cons_zero, List.setIfInBounds_toArray, List.set_cons_zero, List.set_cons_succ]
        refine wpAnyH_take (i := 1) (v := .pointer (some ⟨wr.heap.size, 0, none⟩)) rfl (by kernel_rfl) (by kernel_rfl) (by kernel_rfl) (fun _ _ _ h => h) (Or.inl ⟨by rfl, ?hyy⟩) (by assumption) ?_
        case hyy => (intro w' hSw; (try dsimp only at hSw); go_simp)
        try simp only [Act.put, List.getElem_toArray, List.getElem_cons_succ, List.getElem_cons_zero, List.setIfInBounds_toArray, List.set_cons_zero, List.set_cons_succ]
        refine wpAnyH_take (i := 2) (v := .agg #[.int .i64 X, .int .i64 Y, .int .i64 K9]) rfl (by kernel_rfl) (by kernel_rfl) (by kernel_rfl) (fun _ _ _ h => h) (Or.inl ⟨by rfl, ?hyy⟩) (by assumption) ?_
        case hyy => (intro w' hSw; (try dsimp only at hSw); go_simp)
        try simp only [Act.put, List.getElem_toArray, List.getElem_cons_succ, List.getElem_cons_zero, List.setIfInBounds_toArray, List.set_cons_zero, List.set_cons_succ]
        refine wpAnyH_take (i := 3) (v := .agg #[.int .i64 x, .int .i64 y, .int .i64 q9]) rfl (by kernel_rfl) (by kernel_rfl) (by kernel_rfl) (fun _ _ _ h => h) (Or.inl ⟨by rfl, ?hyy⟩) (by assumption) ?_
        case hyy => (intro w' hSw; (try dsimp only at hSw); go_simp)
        try simp only [Act.put, List.getElem_toArray, List.getElem_cons_succ, List.getElem_cons_zero, List.setIfInBounds_toArray, List.set_cons_zero, List.set_cons_succ]
        refine wpAnyH_take (i := 4) (v := .agg #[.slice ad nn k, .map (some ra), .map (some rk), .slice (some ⟨gm, 0, none⟩) nn cm, .slice pa nn pc]) rfl (by kernel_rfl) (by kernel_rfl) (by kernel_rfl) (fun _ _ _ h => h) (Or.inl ⟨by rfl, ?hyy⟩) (by assumption) ?_
        case hyy => (intro w' hSw; (try dsimp only at hSw); go_simp)
        try simp only [Act.put, List.getElem_toArray, List.getElem_cons_succ, List.getElem_cons_zero, List.setIfInBounds_toArray, List.set_cons_zero, List.set_cons_succ]
        refine wpAnyH_take (i := 5) (v := .int .i64 (j : Int)) rfl (by kernel_rfl) (by kernel_rfl) (by kernel_rfl) (fun _ _ _ h => h) (Or.inl ⟨by rfl, ?hyy⟩) (by assumption) ?_
        case hyy => (intro w' hSw; (try dsimp only at hSw); go_simp)
        try simp only [Act.put, List.getElem_toArray, List.getElem_cons_succ, List.getElem_cons_zero, List.setIfInBounds_toArray, List.set_cons_zero, List.set_cons_succ]
        refine wpAnyH_ready (rs := [6]) (by kernel_rfl) (by simp) ?_
        refine AllReadyH.cons rfl (fun K hK => ?_) AllReadyH.nil
        refine step_callTo (by rfl) 72 #[.agg #[.slice ad nn k, .map (some ra), .map (some rk), .slice (some ⟨gm, 0, none⟩) nn cm, .slice pa nn pc], .int .i64 (j : Int)] (by kernel_rfl) (C41.out _ (bl_drew HB8.out.1)) ?_
        rintro e w9 ⟨rfl, hb9⟩
        refine ⟨_, rfl, ?_⟩
        have HB9 : Hid (Below w8.heap.size w8 w9) := bl_via (bl_drew (bl_refl _)) hb9
        clear hb9
        refine hK.out _ _ (HSX.out _ HB9.out) (fun hHd => ?_)
        clear hK K
        try simp only [Act.put, List.getElem_toArray, List.getElem_cons_succ, List.getElem_cons_zero, List.setIfInBounds_toArray, List.set_cons_zero, List.set_cons_succ]
        refine wpAnyH_take (i := 7) (v := .agg #[.int .i64 X, .int .i64 Y, .int .i64 K9, .int .i64 x, .int .i64 y, .int .i64 q9, .bool tb]) rfl (by kernel_rfl) (by kernel_rfl) (by kernel_rfl) (fun _ _ _ h => h) (Or.inl ⟨by rfl, ?hyy⟩) (by assumption) ?_
        case hyy => (intro w' hSw; (try dsimp only at hSw); go_simp)
        try simp only [Act.put, List.getElem_toArray, List.getElem_cons_succ, List.getElem_cons_zero, List.setIfInBounds_toArray, List.set_cons_zero, List.set_cons_succ]
        refine wpAnyH_ready (rs := [8]) (by kernel_rfl) (by simp) ?_
        refine AllReadyH.cons rfl (fun K hK => ?_) AllReadyH.nil
        go_simp
        refine hK.out _ _ (HSX.out _ (bl_alloc HB9.out)) (fun hHd => ?_)
        clear hK K
        try simp only [Act.put, List.getElem_toArray, List.getElem_cons_succ, List.getElem_cons_zero, List.setIfInBounds_toArray, List.set_cons_zero, List.set_cons_succ]
        refine wpAnyH_ready (rs := [9]) (by kernel_rfl) (by simp) ?_
        refine AllReadyH.cons rfl (fun K hK => ?_) AllReadyH.nil
        obtain ⟨v', w11, hr, ho, hg, _, _⟩ := run_append_own_at (P := Tryz.prog) (w9.alloc (.cells #[.int .i64 X, .int .i64 Y, .int .i64 K9, .int .i64 x, .int .i64 y, .int .i64 q9, .bool tb] 73)) W2.heap.size 62 62 73 i63 (.agg #[.int .i64 0, .int .i64 0, .int .i64 0, .int .i64 0, .int .i64 0, .int .i64 0, .bool false]) 7 56 Tryz.underlying62 HI.out.1 HI.out.2.1 HI.out.2.2.1 HI.out.2.2.2 rfl (by decide) u (tops S L M i).length (flatS (tops S L M i)) (own_below HB8.out.2 (bl_alloc HB9.out)) ⟨w9.heap.size, 0, none⟩ 1 1 [.int .i64 X, .int .i64 Y, .int .i64 K9, .int .i64 x, .int .i64 y, .int .i64 q9, .bool tb] rfl (cell_seven_new _ _ _ _ _ _ _ _) (by intro q hq; simp at hq; rcases hq with rfl | rfl | rfl | rfl | rfl | rfl | rfl <;> rfl) (by have := HLN.out; unfold maxLen; omega) (by have := HLN.out; omega) (by have h1 := HB8.out.1.size; have h2 := HB9.out.size; simp; omega)
        rw [if_pos (by rfl)]
        refine wp_append_run (.tmp 47) (.tmp 55) 62 rfl _ _ v' w11 rfl rfl hr ?_
        have HB11 : Hid (Below W2.heap.size W2 w11 ∧ w11.ownsRow W2.heap.size 73 7 v' (tops S L M (i + 1)).length (flatS (tops S L M (i + 1)))) := by
          have hbA : Below W2.heap.size W2 (w9.alloc (.cells #[.int .i64 X, .int .i64 Y, .int .i64 K9, .int .i64 x, .int .i64 y, .int .i64 q9, .bool tb] 73)) := bl_alloc (bl_via HB8.out.1 HB9.out)
          refine ⟨hbA.grown hg hbA.size (fun q hq => own_base HJ.out.1 q hq), ?_⟩
          rw [HNX.out, List.length_append, flatS_add]
          exact ho
        have HS11 : Hid (w11.cell? ⟨wr.heap.size, 0, none⟩ = some (.int .i64 X) ∧ w11.cell? ⟨wr.heap.size, 1, none⟩ = some (.int .i64 Y) ∧ w11.cell? ⟨wr.heap.size, 2, none⟩ = some (.int .i64 K9) ∧ w11.cell? ⟨wr.heap.size + 1, 0, none⟩ = some (.int .i64 x) ∧ w11.cell? ⟨wr.heap.size + 1, 1, none⟩ = some (.int .i64 y) ∧ w11.cell? ⟨wr.heap.size + 1, 2, none⟩ = some (.int .i64 q9) ∧ w11.cell? ⟨G, 0, none⟩ = some (.slice ad nn k) ∧ w11.cell? ⟨G, 1, none⟩ = some (.map (some ra)) ∧ w11.cell? ⟨G, 2, none⟩ = some (.map (some rk)) ∧ w11.cell? ⟨G, 3, none⟩ = some (.slice (some ⟨gm, 0, none⟩) nn cm) ∧ w11.cell? ⟨G, 4, none⟩ = some (.slice pa nn pc)) := by
          obtain ⟨d0, d1, d2, d3, d4, d5, d6, d7, d8, d9, d10⟩ := HSX.out _ (bl_alloc (o := .cells #[.int .i64 X, .int .i64 Y, .int .i64 K9, .int .i64 x, .int .i64 y, .int .i64 q9, .bool tb] 73) HB9.out)
          exact ⟨hg.cell d0 (HNE.out _ (by simp)), hg.cell d1 (HNE.out _ (by simp)), hg.cell d2 (HNE.out _ (by simp)), hg.cell d3 (HNE.out _ (by simp)), hg.cell d4 (HNE.out _ (by simp)), hg.cell d5 (HNE.out _ (by simp)), hg.cell d6 (HNE.out _ (by dsimp only; omega)), hg.cell d7 (HNE.out _ (by dsimp only; omega)), hg.cell d8 (HNE.out _ (by dsimp only; omega)), hg.cell d9 (HNE.out _ (by dsimp only; omega)), hg.cell d10 (HNE.out _ (by dsimp only; omega))⟩
        clear hr ho hg
        refine hK.out _ _ HS11.out (fun hHd => ?_)
        clear hK K
        try simp only [Act.put, List.getElem_toArray, List.getElem_cons_succ, List.getElem_cons_zero, List.setIfInBounds_toArray, List.set_cons_zero, List.set_cons_succ]
        refine wpAnyH_take (i := 10) (v := v') rfl (by kernel_rfl) (by kernel_rfl) (by kernel_rfl) (fun _ _ _ h => h) (Or.inl ⟨by rfl, ?hyy⟩) (by assumption) ?_
        case hyy => (intro w' hSw; (try dsimp only at hSw); go_simp)
        try simp only [Act.put, List.getElem_toArray, List.getElem_cons_succ, List.getElem_cons_zero, List.setIfInBounds_toArray, List.set_cons_zero, List.set_cons_succ]
        refine wpAnyH_done (by kernel_rfl) ?_ _
        go_wp2
        go_roundg (sl - (i + 1))
        case measure => omega
        case rel => exact ⟨i + 1, v', by omega, rfl, rfl, by go_num, HB11.out.2, HB11.out.1⟩
      · have i1 : ¬ (i : Int) < (sl : Int) := by omega
        obtain rfl : i = sl := by omega
        clear p0 p1 p2 p3 p4 zG
        go_wp2
        refine bodyPost_ret (v := .tuple #[u, .int .i64 0]) (by simp [results, Tryz.results21, go_sem]) rfl ?_
        have hO := HJ.out.1
        rw [HR.out.2.2.2.1] at hO
        exact ⟨u, rfl, World_own_le hO HB2.out.1.size, bl_via HB2.out.1 HJ.out.2⟩

/-- What is seen, in a row of memory. -/
def SnRow (w : World) (a : Option Addr) (l : List Seen9) : Prop := ∀ i (h : i < l.length), ∃ g, a = some ⟨g, 0, none⟩ ∧ w.cell? ⟨g, i * 7, none⟩ = some (.int .i64 l[i].1.1) ∧ w.cell? ⟨g, i * 7 + 1, none⟩ = some (.int .i64 l[i].1.2.1) ∧ w.cell? ⟨g, i * 7 + 2, none⟩ = some (.int .i64 l[i].1.2.2) ∧ w.cell? ⟨g, i * 7 + 3, none⟩ = some (.int .i64 l[i].2.1.1) ∧ w.cell? ⟨g, i * 7 + 4, none⟩ = some (.int .i64 l[i].2.1.2.1) ∧ w.cell? ⟨g, i * 7 + 5, none⟩ = some (.int .i64 l[i].2.1.2.2) ∧ w.cell? ⟨g, i * 7 + 6, none⟩ = some (.bool l[i].2.2)
theorem SnRow.kept {w wx : World} {a : Option Addr} {l : List Seen9} (h : SnRow w a l) (hb : Below w.heap.size w wx) : SnRow wx a l := fun i hi => by
  obtain ⟨g, e, h0, h1, h2, h3, h4, h5, h6⟩ := h i hi
  exact ⟨g, e, cl_kept hb h0, cl_kept hb h1, cl_kept hb h2, cl_kept hb h3, cl_kept hb h4, cl_kept hb h5, cl_kept hb h6⟩
theorem flatS_at : ∀ (l : List Seen9) (i : Nat) (h : i < l.length), (flatS l)[i * 7]? = some (.int .i64 l[i].1.1) ∧ (flatS l)[i * 7 + 1]? = some (.int .i64 l[i].1.2.1) ∧ (flatS l)[i * 7 + 2]? = some (.int .i64 l[i].1.2.2) ∧ (flatS l)[i * 7 + 3]? = some (.int .i64 l[i].2.1.1) ∧ (flatS l)[i * 7 + 4]? = some (.int .i64 l[i].2.1.2.1) ∧ (flatS l)[i * 7 + 5]? = some (.int .i64 l[i].2.1.2.2) ∧ (flatS l)[i * 7 + 6]? = some (.bool l[i].2.2)
  | s :: r, 0, _ => by simp [flatS]
  | s :: r, i + 1, h => by
    have ih := flatS_at r i (by simpa using h)
    have e : ∀ q, (flatS (s :: r))[(i + 1) * 7 + q]? = (flatS r)[i * 7 + q]? := fun q => by
      have : flatS (s :: r) = [.int .i64 s.1.1, .int .i64 s.1.2.1, .int .i64 s.1.2.2, .int .i64 s.2.1.1, .int .i64 s.2.1.2.1, .int .i64 s.2.1.2.2, .bool s.2.2] ++ flatS r := by simp [flatS]
      rw [this, List.getElem?_append_right (by simp; omega)]
      congr 1
      simp
      omega
    simp only [List.getElem_cons_succ]
    refine ⟨(e 0).trans ih.1, (e 1).trans ih.2.1, (e 2).trans ih.2.2.1, (e 3).trans ih.2.2.2.1, (e 4).trans ih.2.2.2.2.1, (e 5).trans ih.2.2.2.2.2.1, (e 6).trans ih.2.2.2.2.2.2⟩
theorem own_seen {w : World} {base : Nat} {v : Value} {l : List Seen9} (h : w.ownsRow base 73 7 v l.length (flatS l)) : ∃ a cap, v = .slice a l.length cap ∧ SnRow w a l := by
  rcases h.2 with ⟨rfl, h0⟩ | ⟨g, cap, cur, rfl, _⟩
  · exact ⟨none, 0, by rw [h0], fun i hi => by omega⟩
  · refine ⟨some ⟨g, 0, none⟩, cap, rfl, fun i hi => ⟨g, rfl, ?_⟩⟩
    obtain ⟨a0, a1, a2, a3, a4, a5, a6⟩ := flatS_at l i hi
    exact ⟨(h.cellAt _ (by omega)).trans a0, (h.cellAt _ (by omega)).trans a1, (h.cellAt _ (by omega)).trans a2, (h.cellAt _ (by omega)).trans a3, (h.cellAt _ (by omega)).trans a4, (h.cellAt _ (by omega)).trans a5, (h.cellAt _ (by omega)).trans a6⟩
def snD : Seen9 := ((0, 0, 0), (0, 0, 0), false)
def wst (l : List Seen9) : Nat → Int
  | 0 => (l.getD 0 snD).1.1
  | i + 1 => min (wst l i) (l.getD i snD).1.1
def est (l : List Seen9) : Nat → Int
  | 0 => (l.getD 0 snD).1.1
  | i + 1 => max (est l i) (l.getD i snD).1.1
set_option maxRecDepth 100000 in
set_option maxHeartbeats 3200000 in
theorem width_any (a : Option Addr) (cc n : Nat) (l : List Seen9) (w : World) (hl : SnRow w a l) (hn : n = l.length) (h0 : 0 < n) (hn3 : n ≤ 300) :
    Calls Tryz.prog 153 #[.slice a n cc] w fun e w' => e = .returned (.tuple #[.int .i64 (wst l n), .int .i64 (est l n)]) ∧ Below w.heap.size w w' := by
  have HL : Hid (SnRow w a l ∧ n = l.length) := ⟨hl, hn⟩
  have hl0 : 0 < l.length := by omega
  obtain ⟨g, e1, c0, cr⟩ := hl 0 hl0
  subst e1
  have hd0 : l.getD 0 snD = l[0] := by rw [List.getD_eq_getElem?_getD, List.getElem?_eq_getElem hl0]; rfl
  obtain ⟨X0, hX0⟩ : ∃ X, X = l[0].1.1 := ⟨_, rfl⟩
  rw [← hX0] at c0
  have HX : Hid (wst l 0 = X0 ∧ est l 0 = X0) := by
    show wst l 0 = X0 ∧ est l 0 = X0
    rw [hX0]
    unfold wst est
    rw [hd0]
    exact ⟨rfl, rfl⟩
  rw [Nat.zero_mul] at c0
  have n1 : (0 : Int) < (n : Int) := by omega
  have zg : g < w.heap.size := World.block_lt_of_cell? _ _ c0
  clear cr
  clear hl hn hd0 hX0 hl0
  go_enter Tryz.func153, Tryz.ntmps153
  go_upto_region 1 with fail
  have kc := Kin.cells w
  have kn : Nonempty (Kin w) := ⟨⟨w, bl_refl _⟩⟩
  refine wp_region_kin (by kernel_rfl) (by kernel_rfl) ?_
  repeat (go_big_quiet_step (fail))
  refine wpQuiet_nil ?_
  intro wq hw'
  obtain ⟨nq, hw''⟩ := hw'
  have HQ : Hid (Below w.heap.size w wq) := hw'' ▸ nq.h
  clear hw'' nq kc kn c0 zg
  go_wp2
  go_loopg [2, 3, 18] n (fun gk s2 s3 s18 wx => ∃ i : Nat, i ≤ n ∧ gk = n - i ∧ s2 = .int .i64 (wst l i) ∧ s3 = .int .i64 (est l i) ∧ s18 = .int .i64 (i : Int) ∧ Below w.heap.size w wx)
  case atStart => exact ⟨0, by omega, rfl, by rw [HX.out.1], by rw [HX.out.2], rfl, HQ.out⟩
  case round =>
    obtain ⟨i, hi, rfl, rfl, rfl, rfl, hB⟩ := hrel
    have HB : Hid (Below w.heap.size w wr) := hB
    by_cases h1 : i < n
    · have i1 : (i : Int) < (n : Int) := by omega
      have i0 : (0 : Int) ≤ (i : Int) := by omega
      have hiL : i < l.length := by rw [← HL.out.2]; exact h1
      obtain ⟨g', e1, c0, c1, c2, c3, c4, c5, c6⟩ := (HL.out.1.kept hB) i hiL
      obtain rfl : g = g' := by simpa using e1
      have hdi : l.getD i snD = l[i] := by rw [List.getD_eq_getElem?_getD, List.getElem?_eq_getElem hiL]; rfl
      obtain ⟨⟨X, Y, K9⟩, ⟨x, y, k⟩, tb, hs⟩ : ∃ A B C, l[i] = (A, B, C) := ⟨_, _, _, rfl⟩
      rw [hs] at c0 c1 c2 c3 c4 c5 c6
      dsimp only at c0 c1 c2 c3 c4 c5 c6
      have HN : Hid (wst l (i + 1) = min (wst l i) X ∧ est l (i + 1) = max (est l i) X) := by
        show wst l (i + 1) = min (wst l i) X ∧ est l (i + 1) = max (est l i) X
        unfold wst est
        rw [hdi, hs]
        exact ⟨by cases i <;> rfl, by cases i <;> rfl⟩
      obtain ⟨A1, hA1⟩ : ∃ q, q = wst l i := ⟨_, rfl⟩
      obtain ⟨B1, hB1⟩ : ∃ q, q = est l i := ⟨_, rfl⟩
      rw [← hA1, ← hB1] at HN ⊢
      have zg : g < wr.heap.size := World.block_lt_of_cell? _ _ c0
      clear hB hdi hs hiL hA1 hB1 e1
      go_upto_region 5 with fail
      refine wp_named (fun W7 hW7 => ?_)
      have y0 : W7.cell? ⟨wr.heap.size, 0, none⟩ = some (.int .i64 X) := by rw [hW7]; simp [go_sem]
      have HB7 : Hid (Below w.heap.size w W7) := by rw [hW7]; exact bl_alloc HB.out
      have z7 : wr.heap.size < W7.heap.size := World.block_lt_of_cell? _ _ y0
      clear hW7 c0 c1 c2 c3 c4 c5 c6 zg
      have kc := Kin.cells W7
      have kn : Nonempty (Kin W7) := ⟨⟨W7, bl_refl _⟩⟩
      refine wp_region_kin (by kernel_rfl) (by kernel_rfl) ?_
      repeat (go_big_quiet_step (fail))
      refine wpQuiet_nil ?_
      intro wq hw'
      obtain ⟨nq, hw''⟩ := hw'
      have hq : Below W7.heap.size W7 wq := hw'' ▸ nq.h
      clear hw'' nq kc kn y0 z7
      go_wp2
      go_roundg (n - (i + 1))
      case measure => omega
      case rel => exact ⟨i + 1, by omega, rfl, by rw [HN.out.1], by rw [HN.out.2], by go_num, bl_via HB7.out hq⟩
    · have i1 : ¬ (i : Int) < (n : Int) := by omega
      obtain rfl : i = n := by omega
      clear hB
      go_wp2
      exact bodyPost_ret (v := .tuple #[.int .i64 (wst l i), .int .i64 (est l i)]) (by simp [results, Tryz.results153, go_sem]) rfl ⟨rfl, HB.out⟩
end Go.Proofs.YtnpboeodhpenmaaGreatDoor
