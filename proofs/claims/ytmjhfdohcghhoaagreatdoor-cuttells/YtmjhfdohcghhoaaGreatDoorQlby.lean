/- A part of the proof of cutTells_holds. -/
import Derived.Test.YtmjhfdohcghhoaaGreatDoorQlbx
import Derived.Test.YtmjhfdohcghhoaaGreatDoorQlbu
import Derived.Test.YtmjhfdohcghhoaaGreatDoorQlbw
import Derived.Test.YtmjhfdohcghhoaaGreatDoorQlbn
import Derived.Test.YtmjhfdohcghhoaaGreatDoorQlbf
namespace Go.Proofs.YtmjhfdohcghhoaaGreatDoor
open Go.RowKit

theorem step_callTo {P : Program} {ops : Array Oper} {o : Oper} {a : Act} {w : World} {K : Act → World → Prop} {Q : Exit → Act → World → Prop} {E : Prop} {R : Ending → World → Prop} (hgd : o.guard = none)
    (f : FuncId) (args : Array Value) (hrun : (execOp a.eval o).run P w = .ok (.enter f args) w) (hc : Calls P f args w R) (h : ∀ e w', R e w' → ∃ v, e = .returned v ∧ K (a.put o.dst v) w') :
    if Region.wanted o (yielded ops a.tmps) = true then Oper.wp P o a w K Q else E := by
  have hw : Region.wanted o (yielded ops a.tmps) = true := by simp [Region.wanted, hgd]
  rw [if_pos hw]
  unfold Oper.wp
  rw [hrun, Oper.upon_enter]
  refine hc.mono fun e w'' hh => ?_
  obtain ⟨v, rfl, hk⟩ := h e w'' hh
  exact hk
theorem ints_made {w : World} {base n g : Nat} (h : w.ownsRow base 3 1 (.slice (some ⟨g, 0, none⟩) n n) n (madeCells #[.int .i64 0] n).toList) : ZRow w g n (fun _ => 0) := fun i hi => by
  have h0 : (madeCells #[Value.int .i64 0] n).toList[i]? = some (.int .i64 0) := by
    rw [Array.getElem?_toList]
    unfold madeCells
    have : i % 1 = 0 := by omega
    simp [hi, this]
  refine ⟨by simpa using (h.cellAt i (by omega)).trans h0, ?_⟩
  rcases h.2 with ⟨e1, _⟩ | ⟨b, cap, cur, e1, _, hb, _⟩
  · simp at e1
  · simp only [Value.slice.injEq, Option.some.injEq, Addr.mk.injEq] at e1
    obtain ⟨⟨rfl, _⟩, _⟩ := e1
    simp [World.frozen?, hb]
theorem crS_same {L : List (Int × Int × Int)} {s t : Nat → Int} (h : ∀ i j, i < L.length → j < L.length → (s i = s j ↔ t i = t j)) : crS L s = crS L t := by
  funext e
  rw [Bool.eq_iff_iff]
  unfold crS
  simp only [List.all_eq_true, List.mem_range, Bool.or_eq_true, decide_eq_true_eq]
  constructor
  · intro hh x hx y hy
    exact (hh x hx y hy).imp id (h x y hx hy).1
  · intro hh x hx y hy
    exact (hh x hx y hy).imp id (h x y hx hy).2
theorem BRow.kept9 {w w' : World} {g n : Nat} {K : List Nat} (h : BRow w g n K) (hb : Below w.heap.size w w') : BRow w' g n K := h.grown (bl_grown hb) (by simp)
set_option maxRecDepth 100000 in
set_option maxHeartbeats 12800000 in
theorem cutOf_any (W H v l : Int) (a c mp sp : Option Addr) (zl ca n cc mc sn sc nn : Nat) (w : World) (L : List (Int × Int × Int)) (M : Nat → M6)
    (CT : Hid (∀ V : World, Below w.heap.size w V → Calls Tryz.prog 30 #[.agg #[.int .i64 W, .int .i64 H, .slice a zl ca, .slice c n cc]] V fun e w' => ∃ a9 c9, e = .returned (.slice a9 nn c9) ∧ TRow w' a9 L ∧ Below V.heap.size V w'))
    (CP : Hid (∀ (V : World) (gt gd : Nat) (th : Nat → Bool) (sd : Nat → Int), Below w.heap.size w V → (∀ i, i < nn → V.cell? ⟨gt, i, none⟩ = some (.bool (th i))) → (∀ i, i < nn → V.cell? ⟨gd, i, none⟩ = some (.int .i64 (sd i))) → Calls Tryz.prog 36 #[.agg #[.int .i64 W, .int .i64 H, .slice a zl ca, .slice c n cc], .slice (some ⟨gt, 0, none⟩) nn nn, .slice (some ⟨gd, 0, none⟩) nn nn] V fun e w' => ∃ v who, e = .returned v ∧ (InvC (crS L (sdT th sd)) L who ∧ ∀ i e, i < L.length → e < 3 → OkC (crS L (sdT th sd)) L who i e) ∧ Nest w' V.heap.size v (rfsT L th who L.length) ∧ Below V.heap.size V w'))
    (hM : MRowG w mp nn M) (hMO : ∀ i, i < L.length → MOk1 L M i) (hnn : nn = L.length) (h0 : 0 < nn) (hL : nn ≤ 256) (hbd : ∀ t ∈ L, (0 ≤ t.1 ∧ t.1 ≤ 8) ∧ (0 ≤ t.2.1 ∧ t.2.1 ≤ 8) ∧ (0 ≤ t.2.2 ∧ t.2.2 ≤ 3)) :
    Calls Tryz.prog 11 #[.agg #[.int .i64 W, .int .i64 H, .slice a zl ca, .slice c n cc, .slice mp nn mc, .slice sp sn sc], .agg #[.int .i64 v, .int .i64 l]] w fun e w' => ∃ u who, e = .returned u ∧ (InvC (crS L (sdN v l (pls L M L.length))) L who ∧ ∀ i e, i < L.length → e < 3 → OkC (crS L (sdN v l (pls L M L.length))) L who i e) ∧ Nest w' w.heap.size u (rfs L who L.length) ∧ Below w.heap.size w w' := by
  have HR : Hid (MRowG w mp nn M ∧ (∀ i, i < L.length → MOk1 L M i) ∧ nn = L.length ∧ ∀ t ∈ L, (0 ≤ t.1 ∧ t.1 ≤ 8) ∧ (0 ≤ t.2.1 ∧ t.2.1 ≤ 8) ∧ (0 ≤ t.2.2 ∧ t.2.2 ≤ 3)) := ⟨hM, hMO, hnn, hbd⟩
  obtain ⟨i3, hi3, hz30, hz31, hz32⟩ := info_parts inf3
  have HI3 : Hid (Tryz.prog.info? 3 = some i3 ∧ i3.zero = some (.int .i64 0) ∧ i3.size = 1 ∧ i3.bytes = 8) := ⟨hi3, hz30, hz31, hz32⟩
  obtain ⟨i4, hi4, hz40, hz41, hz42⟩ := info_parts inf4
  have HI4 : Hid (Tryz.prog.info? 4 = some i4 ∧ i4.zero = some (.bool false) ∧ i4.size = 1 ∧ i4.bytes = 1) := ⟨hi4, hz40, hz41, hz42⟩
  clear hM hMO hnn hbd hi3 hz30 hz31 hz32 hi4 hz40 hz41 hz42
  go_enter Tryz.func11, Tryz.ntmps11
  go_upto_region 2 with (go_at_call 30; refine (CT.out _ (by with_reducible exact bl_alloc (bl_alloc (bl_refl _)))).mono ?_; rintro e w1 ⟨a9, ca9, rfl, hT9, hb⟩; have HW1 : Hid (TRow w1 a9 L ∧ Below w.heap.size w w1 ∧ (w1.cell? ⟨w.heap.size, 0, none⟩ = some (.int .i64 W) ∧ w1.cell? ⟨w.heap.size, 1, none⟩ = some (.int .i64 H) ∧ w1.cell? ⟨w.heap.size, 2, none⟩ = some (.slice a zl ca) ∧ w1.cell? ⟨w.heap.size, 3, none⟩ = some (.slice c n cc) ∧ w1.cell? ⟨w.heap.size, 4, none⟩ = some (.slice mp nn mc)) ∧ w1.cell? ⟨w.heap.size + 1, 0, none⟩ = some (.int .i64 v) ∧ w1.cell? ⟨w.heap.size + 1, 1, none⟩ = some (.int .i64 l)) := ⟨hT9, bl_via (bl_alloc (bl_alloc (bl_refl _))) hb, ⟨cl_kept hb (by simp [go_sem]), cl_kept hb (by simp [go_sem]), cl_kept hb (by simp [go_sem]), cl_kept hb (by simp [go_sem]), cl_kept hb (by simp [go_sem])⟩, cl_kept hb (by simp [go_sem]), cl_kept hb (by simp [go_sem])⟩; clear hT9 hb)
  go_wp2_with (at_make; refine wpList_make_full _ rfl (.tmp 13) (.tmp 13) 97 rfl w1.heap.size 4 i4 (.bool false) 1 Tryz.underlying97 HI4.out.1 HI4.out.2.1 HI4.out.2.2.1 .i64 .i64 _ _ nn rfl rfl rfl rfl ?b2 ?b3 ?b4 ?mk)
  case b2 =>
    rw [HI4.out.2.2.2]
    omega
  case b3 =>
    unfold maxLen
    omega
  case b4 => exact Nat.le_refl _
  case mk =>
    intro w2 ho hg
    have hrow := bools_made (by simpa using ho)
    have hlt2 : w1.heap.size < w2.heap.size := World.block_lt_of_cell? _ _ (hrow 0 h0).1
    have hbl2 : Below w1.heap.size w1 w2 := (Below.refl _ _).grown hg (Nat.le_refl _) (fun k h => by cases h)
    have HW2 : Hid (BRow w2 w1.heap.size nn [] ∧ Below w1.heap.size w1 w2) := ⟨hrow, hbl2⟩
    clear ho hg hrow hbl2
    go_wp2_with (at_make; refine wpList_make_full _ rfl (.tmp 16) (.tmp 16) 22 rfl w2.heap.size 3 i3 (.int .i64 0) 1 Tryz.underlying22 HI3.out.1 HI3.out.2.1 HI3.out.2.2.1 .i64 .i64 _ _ nn rfl rfl rfl rfl ?d2 ?d3 ?d4 ?mk2)
    case d2 =>
      rw [HI3.out.2.2.2]
      omega
    case d3 =>
      unfold maxLen
      omega
    case d4 => exact Nat.le_refl _
    case mk2 =>
      intro w3 ho hg
      have hrow := ints_made (by simpa using ho)
      have hbl3 : Below w2.heap.size w2 w3 := (Below.refl _ _).grown hg (Nat.le_refl _) (fun k h => by cases h)
      have HW3 : Hid (BRow w3 w1.heap.size nn [] ∧ ZRow w3 w2.heap.size nn (fun _ => 0)) := ⟨HW2.out.1.kept9 hbl3, hrow⟩
      have HBW3 : Hid (Below w1.heap.size w1 w3) := bl_via HW2.out.2 hbl3
      obtain ⟨g6, hg6⟩ : ∃ g, g = w1.heap.size := ⟨_, rfl⟩
      obtain ⟨g7, hg7⟩ : ∃ g, g = w2.heap.size := ⟨_, rfl⟩
      have HGG : Hid (w1.heap.size ≤ g6 ∧ w1.heap.size ≤ g7 ∧ g6 ≠ g7) := ⟨by omega, by omega, by omega⟩
      rw [← hg7] at HW3 ⊢
      rw [← hg6] at HW3 ⊢
      clear ho hg hrow hbl3 hlt2 HW2 hg6 hg7
      go_wp2
      go_loopg [8] nn (fun gk s8 wx => ∃ (i : Nat) (f : Nat → Int), i ≤ nn ∧ gk = nn - i ∧ s8 = .int .i64 (i : Int) ∧ BRow wx g6 nn (List.range i) ∧ ZRow wx g7 nn f ∧ (∀ j, j < i → f j = sdN v l (pls L M L.length) j) ∧ Below w1.heap.size w1 wx)
      case atStart => exact ⟨0, _, by omega, rfl, rfl, HW3.out.1, HW3.out.2, fun j h => by omega, HBW3.out⟩
      case round =>
        clear HW3
        obtain ⟨i, f, hi, rfl, rfl, hBR, hZR, hfj, hB⟩ := hrel
        have HJ : Hid (BRow wr g6 nn (List.range i) ∧ ZRow wr g7 nn f ∧ (∀ j, j < i → f j = sdN v l (pls L M L.length) j) ∧ Below w1.heap.size w1 wr) := ⟨hBR, hZR, hfj, hB⟩
        clear hBR hZR hfj hB
        by_cases h1 : i < nn
        · have i1 : (i : Int) < (nn : Int) := by omega
          have i0 : (0 : Int) ≤ (i : Int) := by omega
          have hiL : i < L.length := by rw [← HR.out.2.2.1]; exact h1
          obtain ⟨ga, rfl, t0, t1, t2⟩ := HW1.out.1 i hiL
          obtain ⟨gm, o, rfl, y0, y1, y2, y3, y4, y5⟩ := (HR.out.1.kept HW1.out.2.1) i h1
          obtain ⟨x, y, k, ht⟩ : ∃ x y kk, L[i] = (x, y, kk) := ⟨_, _, _, rfl⟩
          obtain ⟨A, B, C, D, E, F, hmi⟩ : ∃ A B C D E F, M i = (A, B, C, D, E, F) := ⟨_, _, _, _, _, _, rfl⟩
          have hok := HR.out.2.1 i hiL
          have hbd := HR.out.2.2.2 _ (List.getElem_mem hiL)
          unfold MOk1 at hok
          rw [getD_at L i hiL, ht, hmi] at hok
          rw [ht] at t0 t1 t2 hbd
          rw [hmi] at y0 y1 y2 y3 y4 y5
          dsimp only at t0 t1 t2 y0 y1 y2 y3 y4 y5
          obtain ⟨X, Y, K9, hmv⟩ : ∃ X Y K, mvt (A, B, C, D, E, F) (x, y, k) = (X, Y, K) := ⟨_, _, _, rfl⟩
          have C33 : Hid (∀ W' : World, Calls Tryz.prog 33 #[.agg #[.int .i64 A, .int .i64 B, .int .i64 C, .int .i64 D, .int .i64 E, .int .i64 F], .agg #[.int .i64 x, .int .i64 y, .int .i64 k]] W' fun e w' => e = .returned (.agg #[.int .i64 X, .int .i64 Y, .int .i64 K9]) ∧ Below W'.heap.size W' w') := fun W' => by
            have := MoveOf_gen (A, B, C, D, E, F) (x, y, k) W' hok.1 hbd
            rw [hmv] at this
            exact this
          obtain ⟨sv, hsv⟩ : ∃ sv, sv = sideN v l X Y K9 := ⟨_, rfl⟩
          have C35 : Hid (∀ W' : World, Calls Tryz.prog 35 #[.agg #[.int .i64 v, .int .i64 l], .agg #[.int .i64 X, .int .i64 Y, .int .i64 K9]] W' fun e w' => e = .returned (.int .i64 sv) ∧ Below W'.heap.size W' w') := fun W' => by
            rw [hsv]
            exact sideOf_any v l X Y K9 W' (by have := hok.2; rw [hmv] at this; exact this)
          have HSV : Hid (sv = sdN v l (pls L M L.length) i) := by
            have : sv = sdN v l (pls L M L.length) i := by
              have h9 := plF_pls (M := M) hiL
              unfold plF at h9
              unfold sdN
              rw [h9, hmi, ht, hmv, hsv]
            exact this
          have HSX : Hid (∀ wx : World, Below w1.heap.size w1 wx → wx.cell? ⟨w.heap.size + 1, 0, none⟩ = some (.int .i64 v) ∧ wx.cell? ⟨w.heap.size + 1, 1, none⟩ = some (.int .i64 l) ∧ wx.cell? ⟨w.heap.size, 4, none⟩ = some (.slice (some ⟨gm, o, none⟩) nn mc) ∧ wx.cell? ⟨gm, o + i * 6, none⟩ = some (.int .i64 A) ∧ wx.cell? ⟨gm, o + i * 6 + 1, none⟩ = some (.int .i64 B) ∧ wx.cell? ⟨gm, o + i * 6 + 2, none⟩ = some (.int .i64 C) ∧ wx.cell? ⟨gm, o + i * 6 + 3, none⟩ = some (.int .i64 D) ∧ wx.cell? ⟨gm, o + i * 6 + 4, none⟩ = some (.int .i64 E) ∧ wx.cell? ⟨gm, o + i * 6 + 5, none⟩ = some (.int .i64 F) ∧ wx.cell? ⟨ga, i * 3, none⟩ = some (.int .i64 x) ∧ wx.cell? ⟨ga, i * 3 + 1, none⟩ = some (.int .i64 y) ∧ wx.cell? ⟨ga, i * 3 + 2, none⟩ = some (.int .i64 k)) := fun wx hx => ⟨cl_kept hx HW1.out.2.2.2.1, cl_kept hx HW1.out.2.2.2.2, cl_kept hx HW1.out.2.2.1.2.2.2.2, cl_kept hx y0, cl_kept hx y1, cl_kept hx y2, cl_kept hx y3, cl_kept hx y4, cl_kept hx y5, cl_kept hx t0, cl_kept hx t1, cl_kept hx t2⟩
          obtain ⟨k0, k1⟩ := HJ.out.1 i h1
          have zk : g6 < wr.heap.size := World.block_lt_of_cell? _ _ k0
          clear ht hmi hok hbd hmv hsv y0 y1 y2 y3 y4 y5 t0 t1 t2
          go_upto_region 8 with fail
          refine wp_named (fun W0 hW0 => ?_)
          have HB0 : Hid (Below w1.heap.size w1 W0 ∧ W0 = wr.setCell ⟨g6, i, none⟩ (.bool true)) := by
            refine ⟨?_, hW0⟩
            rw [hW0]
            exact bl_set HJ.out.2.2.2 HGG.out.1
          have HBR : Hid (BRow W0 g6 nn (List.range (i + 1))) := by
            rw [hW0]
            exact HJ.out.1.set h1 (fun q => by simp only [List.mem_range]; omega)
          have HZ : Hid (ZRow W0 g7 nn f ∧ ∀ j, j < i → f j = sdN v l (pls L M L.length) j) := by
            refine ⟨?_, HJ.out.2.2.1⟩
            rw [hW0]
            exact HJ.out.2.1.grown (grown_cell wr g6 i _) (by have := HGG.out.2.2; simpa using fun e => this e.symm)
          clear hW0 k0 k1 zk
          refine wp_region_held_drew (S := fun w' => w'.cell? ⟨w.heap.size + 1, 0, none⟩ = some (.int .i64 v) ∧ w'.cell? ⟨w.heap.size + 1, 1, none⟩ = some (.int .i64 l) ∧ w'.cell? ⟨w.heap.size, 4, none⟩ = some (.slice (some ⟨gm, o, none⟩) nn mc) ∧ w'.cell? ⟨gm, o + i * 6, none⟩ = some (.int .i64 A) ∧ w'.cell? ⟨gm, o + i * 6 + 1, none⟩ = some (.int .i64 B) ∧ w'.cell? ⟨gm, o + i * 6 + 2, none⟩ = some (.int .i64 C) ∧ w'.cell? ⟨gm, o + i * 6 + 3, none⟩ = some (.int .i64 D) ∧ w'.cell? ⟨gm, o + i * 6 + 4, none⟩ = some (.int .i64 E) ∧ w'.cell? ⟨gm, o + i * 6 + 5, none⟩ = some (.int .i64 F) ∧ w'.cell? ⟨ga, i * 3, none⟩ = some (.int .i64 x) ∧ w'.cell? ⟨ga, i * 3 + 1, none⟩ = some (.int .i64 y) ∧ w'.cell? ⟨ga, i * 3 + 2, none⟩ = some (.int .i64 k)) (by kernel_rfl) (HSX.out _ (bl_drew HB0.out.1)) (fun hHeld => ?_)
          refine wpAnyH_take (i := 0) (v := .slice (some ⟨g7, 0, none⟩) nn nn) rfl (by kernel_rfl) (by kernel_rfl) (by kernel_rfl) (fun _ _ _ h => h) (Or.inl ⟨by rfl, ?hyy⟩) (by assumption) ?_
          case hyy => (intro w' hSw; (try dsimp only at hSw); go_simp)
          try simp only [Act.put, List.getElem_toArray, List.getElem_cons_zero, List.setIfInBounds_toArray, List.set_cons_zero, List.set_cons_succ]
          refine wpAnyH_take (i := 1) (v := .int .i64 (i : Int)) rfl (by kernel_rfl) (by kernel_rfl) (by kernel_rfl) (fun _ _ _ h => h) (Or.inl ⟨by rfl, ?hyy⟩) (by assumption) ?_
          case hyy => (intro w' hSw; (try dsimp only at hSw); go_simp)
          try simp only [Act.put, List.getElem_toArray, List.getElem_cons_succ, List.getElem_cons_zero, List.setIfInBounds_toArray, List.set_cons_zero, List.set_cons_succ]
          refine wpAnyH_take (i := 2) (v := .agg #[.int .i64 v, .int .i64 l]) rfl (by kernel_rfl) (by kernel_rfl) (by kernel_rfl) (fun _ _ _ h => h) (Or.inl ⟨by rfl, ?hyy⟩) (by assumption) ?_
          case hyy => (intro w' hSw; (try dsimp only at hSw); go_simp)
          try simp only [Act.put, List.getElem_toArray, List.getElem_cons_succ, List.getElem_cons_zero, List.setIfInBounds_toArray, List.set_cons_zero, List.set_cons_succ]
          refine wpAnyH_take (i := 3) (v := .pointer (some ⟨w.heap.size, 4, none⟩)) rfl (by kernel_rfl) (by kernel_rfl) (by kernel_rfl) (fun _ _ _ h => h) (Or.inl ⟨by rfl, ?hyy⟩) (by assumption) ?_
          case hyy => (intro w' hSw; (try dsimp only at hSw); go_simp)
          try simp only [Act.put, List.getElem_toArray, List.getElem_cons_succ, List.getElem_cons_zero, List.setIfInBounds_toArray, List.set_cons_zero, List.set_cons_succ]
          refine wpAnyH_take (i := 4) (v := .slice (some ⟨gm, o, none⟩) nn mc) rfl (by kernel_rfl) (by kernel_rfl) (by kernel_rfl) (fun _ _ _ h => h) (Or.inl ⟨by rfl, ?hyy⟩) (by assumption) ?_
          case hyy => (intro w' hSw; (try dsimp only at hSw); go_simp)
          try simp only [Act.put, List.getElem_toArray, List.getElem_cons_succ, List.getElem_cons_zero, List.setIfInBounds_toArray, List.set_cons_zero, List.set_cons_succ]
          refine wpAnyH_take (i := 5) (v := .int .i64 (i : Int)) rfl (by kernel_rfl) (by kernel_rfl) (by kernel_rfl) (fun _ _ _ h => h) (Or.inl ⟨by rfl, ?hyy⟩) (by assumption) ?_
          case hyy => (intro w' hSw; (try dsimp only at hSw); go_simp)
          try simp only [Act.put, List.getElem_toArray, List.getElem_cons_succ, List.getElem_cons_zero, List.setIfInBounds_toArray, List.set_cons_zero, List.set_cons_succ]
          refine wpAnyH_take (i := 6) (v := .pointer (some ⟨gm, o + i * 6, none⟩)) rfl (by kernel_rfl) (by kernel_rfl) (by kernel_rfl) (fun _ _ _ h => h) (Or.inl ⟨by rfl, ?hyy⟩) (by assumption) ?_
          case hyy => (intro w' hSw; (try dsimp only at hSw); go_simp)
          try simp only [Act.put, List.getElem_toArray, List.getElem_cons_succ, List.getElem_cons_zero, List.setIfInBounds_toArray, List.set_cons_zero, List.set_cons_succ]
          refine wpAnyH_take (i := 7) (v := .agg #[.int .i64 A, .int .i64 B, .int .i64 C, .int .i64 D, .int .i64 E, .int .i64 F]) rfl (by kernel_rfl) (by kernel_rfl) (by kernel_rfl) (fun _ _ _ h => h) (Or.inl ⟨by rfl, ?hyy⟩) (by assumption) ?_
          case hyy => (intro w' hSw; (try dsimp only at hSw); go_simp)
          try simp only [Act.put, List.getElem_toArray, List.getElem_cons_succ, List.getElem_cons_zero, List.setIfInBounds_toArray, List.set_cons_zero, List.set_cons_succ]
          refine wpAnyH_take (i := 8) (v := .slice (some ⟨ga, 0, none⟩) nn ca9) rfl (by kernel_rfl) (by kernel_rfl) (by kernel_rfl) (fun _ _ _ h => h) (Or.inl ⟨by rfl, ?hyy⟩) (by assumption) ?_
          case hyy => (intro w' hSw; (try dsimp only at hSw); go_simp)
          try simp only [Act.put, List.getElem_toArray, List.getElem_cons_succ, List.getElem_cons_zero, List.setIfInBounds_toArray, List.set_cons_zero, List.set_cons_succ]
          refine wpAnyH_take (i := 9) (v := .int .i64 (i : Int)) rfl (by kernel_rfl) (by kernel_rfl) (by kernel_rfl) (fun _ _ _ h => h) (Or.inl ⟨by rfl, ?hyy⟩) (by assumption) ?_
          case hyy => (intro w' hSw; (try dsimp only at hSw); go_simp)
          try simp only [Act.put, List.getElem_toArray, List.getElem_cons_succ, List.getElem_cons_zero, List.setIfInBounds_toArray, List.set_cons_zero, List.set_cons_succ]
          refine wpAnyH_take (i := 10) (v := .pointer (some ⟨ga, i * 3, none⟩)) rfl (by kernel_rfl) (by kernel_rfl) (by kernel_rfl) (fun _ _ _ h => h) (Or.inl ⟨by rfl, ?hyy⟩) (by assumption) ?_
          case hyy => (intro w' hSw; (try dsimp only at hSw); go_simp)
          try simp only [Act.put, List.getElem_toArray, List.getElem_cons_succ, List.getElem_cons_zero, List.setIfInBounds_toArray, List.set_cons_zero, List.set_cons_succ]
          refine wpAnyH_take (i := 11) (v := .agg #[.int .i64 x, .int .i64 y, .int .i64 k]) rfl (by kernel_rfl) (by kernel_rfl) (by kernel_rfl) (fun _ _ _ h => h) (Or.inl ⟨by rfl, ?hyy⟩) (by assumption) ?_
          case hyy => (intro w' hSw; (try dsimp only at hSw); go_simp)
          try simp only [Act.put, List.getElem_toArray, List.getElem_cons_succ, List.getElem_cons_zero, List.setIfInBounds_toArray, List.set_cons_zero, List.set_cons_succ]
          refine wpAnyH_ready (rs := [12]) (by kernel_rfl) (by simp) ?_
          refine AllReadyH.cons rfl (fun K hK => ?_) AllReadyH.nil
          refine step_callTo (by rfl) 33 #[.agg #[.int .i64 A, .int .i64 B, .int .i64 C, .int .i64 D, .int .i64 E, .int .i64 F], .agg #[.int .i64 x, .int .i64 y, .int .i64 k]] (by kernel_rfl) (C33.out _) ?_
          rintro e w5 ⟨rfl, hb5⟩
          refine ⟨_, rfl, ?_⟩
          have HB5 : Hid (Below w1.heap.size w1 w5 ∧ Below W0.heap.size W0 w5) := ⟨bl_via HB0.out.1 (bl_via (bl_drew (bl_refl _)) hb5), bl_via (bl_drew (bl_refl _)) hb5⟩
          clear hb5
          refine hK.out _ _ (HSX.out _ HB5.out.1) (fun hHd => ?_)
          clear hK K
          try simp only [Act.put, List.getElem_toArray, List.getElem_cons_succ, List.getElem_cons_zero, List.setIfInBounds_toArray, List.set_cons_zero, List.set_cons_succ]
          refine wpAnyH_ready (rs := [13]) (by kernel_rfl) (by simp) ?_
          refine AllReadyH.cons rfl (fun K hK => ?_) AllReadyH.nil
          refine step_callTo (by rfl) 35 #[.agg #[.int .i64 v, .int .i64 l], .agg #[.int .i64 X, .int .i64 Y, .int .i64 K9]] (by kernel_rfl) (C35.out _) ?_
          rintro e w6 ⟨rfl, hb6⟩
          refine ⟨_, rfl, ?_⟩
          have HB6 : Hid (Below w1.heap.size w1 w6 ∧ Below W0.heap.size W0 w6) := ⟨bl_via HB5.out.1 hb6, bl_via HB5.out.2 hb6⟩
          clear hb6
          refine hK.out _ _ (HSX.out _ HB6.out.1) (fun hHd => ?_)
          clear hK K
          try simp only [Act.put, List.getElem_toArray, List.getElem_cons_succ, List.getElem_cons_zero, List.setIfInBounds_toArray, List.set_cons_zero, List.set_cons_succ]
          obtain ⟨z0, zf⟩ := (HZ.out.1.kept HB6.out.2) i h1
          have zg : g7 < w6.heap.size := World.block_lt_of_cell? _ _ z0
          refine wpAnyH_take (i := 14) (v := .pointer (some ⟨g7, i, none⟩)) rfl (by kernel_rfl) (by kernel_rfl) (by kernel_rfl) (fun _ _ _ h => h) (Or.inl ⟨by rfl, ?hyy⟩) (by assumption) ?_
          case hyy => (intro w' hSw; (try dsimp only at hSw); go_simp)
          try simp only [Act.put, List.getElem_toArray, List.getElem_cons_succ, List.getElem_cons_zero, List.setIfInBounds_toArray, List.set_cons_zero, List.set_cons_succ]
          refine wpAnyH_ready (rs := [15]) (by kernel_rfl) (by simp) ?_
          refine AllReadyH.cons rfl (fun K hK => ?_) AllReadyH.nil
          go_simp
          refine hK.out _ _ (HSX.out _ (bl_set HB6.out.1 HGG.out.2.1)) (fun hHd => ?_)
          clear hK K
          try simp only [Act.put, List.getElem_toArray, List.getElem_cons_succ, List.getElem_cons_zero, List.setIfInBounds_toArray, List.set_cons_zero, List.set_cons_succ]
          refine wpAnyH_done (by kernel_rfl) ?_ _
          go_wp2
          go_roundg (nn - (i + 1))
          case measure => omega
          case rel =>
            refine ⟨i + 1, _, by omega, rfl, by go_num, (HBR.out.kept9 HB6.out.2).grown (grown_cell _ g7 i _) (by have := HGG.out.2.2; simpa using this), (HZ.out.1.kept HB6.out.2).set sv h1, fun j hj => ?_, bl_set HB6.out.1 HGG.out.2.1⟩
            by_cases e : j = i
            · subst e
              simp only [if_true]
              exact HSV.out
            · simp only [if_neg e]
              exact HZ.out.2 j (by omega)
        · have i1 : ¬ (i : Int) < (nn : Int) := by omega
          obtain rfl : i = nn := by omega
          have s0 := cl_kept HJ.out.2.2.2 HW1.out.2.2.1.1
          have s1 := cl_kept HJ.out.2.2.2 HW1.out.2.2.1.2.1
          have s2 := cl_kept HJ.out.2.2.2 HW1.out.2.2.1.2.2.1
          have s3 := cl_kept HJ.out.2.2.2 HW1.out.2.2.1.2.2.2.1
          have zs : w.heap.size < wr.heap.size := World.block_lt_of_cell? _ _ s0
          have hww : Below w.heap.size w wr := bl_via HW1.out.2.1 HJ.out.2.2.2
          have C36 : Hid (Calls Tryz.prog 36 #[.agg #[.int .i64 W, .int .i64 H, .slice a zl ca, .slice c n cc], .slice (some ⟨g6, 0, none⟩) i i, .slice (some ⟨g7, 0, none⟩) i i] wr fun e w' => ∃ v who, e = .returned v ∧ (InvC (crS L (sdT (fun _ => true) f)) L who ∧ ∀ i e, i < L.length → e < 3 → OkC (crS L (sdT (fun _ => true) f)) L who i e) ∧ Nest w' wr.heap.size v (rfsT L (fun _ => true) who L.length) ∧ Below wr.heap.size wr w') := CP.out wr g6 g7 (fun _ => true) f hww (fun j hj => by have := (HJ.out.1 j hj).1; rw [this]; simp [hj]) (fun j hj => (HJ.out.2.1 j hj).1)
          have HCS : Hid (crS L (sdT (fun _ => true) f) = crS L (sdN v l (pls L M L.length))) := by
            have : crS L (sdT (fun _ => true) f) = crS L (sdN v l (pls L M L.length)) := crS_same fun x y hx hy => by
              simp only [sdT, if_true]
              rw [HJ.out.2.2.1 x (by rw [HR.out.2.2.1]; exact hx), HJ.out.2.2.1 y (by rw [HR.out.2.2.1]; exact hy)]
              omega
            exact this
          rw [HCS.out] at C36
          have HWW : Hid (Below w.heap.size w wr) := hww
          clear hww
          go_wp2_with (go_at_call 36; refine C36.out.mono ?_; rintro e w9 ⟨u9, who, rfl, hio, hne, hb9⟩; have H9 : Hid ((InvC (crS L (sdN v l (pls L M L.length))) L who ∧ ∀ i e, i < L.length → e < 3 → OkC (crS L (sdN v l (pls L M L.length))) L who i e) ∧ Nest w9 wr.heap.size u9 (rfsT L (fun _ => true) who L.length) ∧ Below wr.heap.size wr w9) := ⟨hio, hne, hb9⟩; clear hio hne hb9)
          go_ret
          exact ⟨_, who, rfl, H9.out.1, by have h8 := H9.out.2.1.mono HWW.out.size; rw [rfsT_all] at h8; exact h8, bl_via HWW.out H9.out.2.2⟩

set_option maxRecDepth 100000 in
set_option maxHeartbeats 6400000 in
theorem cut_no (W H v l : Int) (a c mp sp : Option Addr) (zl ca n cc mn mc sn sc : Nat) (w : World)
    (C7 : Hid (∀ V : World, Below w.heap.size w V → Calls Tryz.prog 7 #[.agg #[.int .i64 W, .int .i64 H, .slice a zl ca, .slice c n cc, .slice mp mn mc, .slice sp sn sc]] V fun e w' => ∃ s7, e = .returned s7 ∧ Below V.heap.size V w' ∧ ∀ V2 : World, Below w'.heap.size w' V2 → Calls Tryz.prog 6 #[s7, .agg #[.int .i64 v, .int .i64 l]] V2 fun e2 w2 => e2 = .returned (.tuple #[.slice none 0 0, .int .i64 10]) ∧ Below V2.heap.size V2 w2))
    (C8 : Hid (∀ V : World, Below w.heap.size w V → Calls Tryz.prog 8 #[.agg #[.int .i64 W, .int .i64 H, .slice a zl ca, .slice c n cc, .slice mp mn mc, .slice sp sn sc]] V fun e w' => e = .returned (.bool false) ∧ Below V.heap.size V w')) :
    Calls Tryz.prog 3 #[.agg #[.int .i64 W, .int .i64 H, .slice a zl ca, .slice c n cc, .slice mp mn mc, .slice sp sn sc], .agg #[.int .i64 v, .int .i64 l]] w fun e w' => e = .returned (.bool true) ∧ Below w.heap.size w w' := by
  go_enter Tryz.func3, Tryz.ntmps3
  go_upto_region 1 with fail
  refine wp_named (fun W0 hW0 => ?_)
  have HSX : Hid (∀ wx : World, Below W0.heap.size W0 wx → wx.cell? ⟨w.heap.size, 0, none⟩ = some (.int .i64 W) ∧ wx.cell? ⟨w.heap.size, 1, none⟩ = some (.int .i64 H) ∧ wx.cell? ⟨w.heap.size, 2, none⟩ = some (.slice a zl ca) ∧ wx.cell? ⟨w.heap.size, 3, none⟩ = some (.slice c n cc) ∧ wx.cell? ⟨w.heap.size, 4, none⟩ = some (.slice mp mn mc) ∧ wx.cell? ⟨w.heap.size, 5, none⟩ = some (.slice sp sn sc) ∧ wx.cell? ⟨w.heap.size + 1, 0, none⟩ = some (.int .i64 v) ∧ wx.cell? ⟨w.heap.size + 1, 1, none⟩ = some (.int .i64 l)) := fun wx hx => by
    rw [hW0] at hx
    exact ⟨cl_kept hx (by simp [go_sem]), cl_kept hx (by simp [go_sem]), cl_kept hx (by simp [go_sem]), cl_kept hx (by simp [go_sem]), cl_kept hx (by simp [go_sem]), cl_kept hx (by simp [go_sem]), cl_kept hx (by simp [go_sem]), cl_kept hx (by simp [go_sem])⟩
  have HW0 : Hid (Below w.heap.size w W0) := by rw [hW0]; exact bl_alloc (bl_alloc (bl_refl _))
  clear hW0
  refine wp_region_held_drew (S := fun w' => w'.cell? ⟨w.heap.size, 0, none⟩ = some (.int .i64 W) ∧ w'.cell? ⟨w.heap.size, 1, none⟩ = some (.int .i64 H) ∧ w'.cell? ⟨w.heap.size, 2, none⟩ = some (.slice a zl ca) ∧ w'.cell? ⟨w.heap.size, 3, none⟩ = some (.slice c n cc) ∧ w'.cell? ⟨w.heap.size, 4, none⟩ = some (.slice mp mn mc) ∧ w'.cell? ⟨w.heap.size, 5, none⟩ = some (.slice sp sn sc) ∧ w'.cell? ⟨w.heap.size + 1, 0, none⟩ = some (.int .i64 v) ∧ w'.cell? ⟨w.heap.size + 1, 1, none⟩ = some (.int .i64 l)) (by kernel_rfl) (HSX.out _ (bl_drew (bl_refl _))) (fun hHeld => ?_)
  refine wpAnyH_take (i := 0) (v := .agg #[.int .i64 W, .int .i64 H, .slice a zl ca, .slice c n cc, .slice mp mn mc, .slice sp sn sc]) rfl (by kernel_rfl) (by kernel_rfl) (by kernel_rfl) (fun _ _ _ h => h) (Or.inl ⟨by rfl, ?hyy⟩) (by assumption) ?_
  case hyy => (intro w' hSw; (try dsimp only at hSw); go_simp)
  try simp only [Act.put, List.getElem_toArray, List.getElem_cons_zero, List.setIfInBounds_toArray, List.set_cons_zero, List.set_cons_succ]
  refine wpAnyH_take (i := 2) (v := .agg #[.int .i64 v, .int .i64 l]) rfl (by kernel_rfl) (by kernel_rfl) (by kernel_rfl) (fun _ _ _ h => h) (Or.inl ⟨by rfl, ?hyy⟩) (by assumption) ?_
  case hyy => (intro w' hSw; (try dsimp only at hSw); go_simp)
  try simp only [Act.put, List.getElem_toArray, List.getElem_cons_succ, List.getElem_cons_zero, List.setIfInBounds_toArray, List.set_cons_zero, List.set_cons_succ]
  refine wpAnyH_ready (rs := [1]) (by kernel_rfl) (by simp) ?_
  refine AllReadyH.cons rfl (fun K hK => ?_) AllReadyH.nil
  refine step_callTo (by rfl) 7 #[.agg #[.int .i64 W, .int .i64 H, .slice a zl ca, .slice c n cc, .slice mp mn mc, .slice sp sn sc]] (by kernel_rfl) (C7.out _ (bl_drew HW0.out)) ?_
  rintro e w5 ⟨s7, rfl, hb5, h6⟩
  refine ⟨_, rfl, ?_⟩
  have HB5 : Hid (Below W0.heap.size W0 w5) := bl_via (bl_drew (bl_refl _)) hb5
  have H6 : Hid (Calls Tryz.prog 6 #[s7, .agg #[.int .i64 v, .int .i64 l]] w5 _) := h6 w5 (bl_refl _)
  clear hb5 h6
  refine hK.out _ _ (HSX.out _ HB5.out) (fun hHd => ?_)
  clear hK K
  try simp only [Act.put, List.getElem_toArray, List.getElem_cons_succ, List.getElem_cons_zero, List.setIfInBounds_toArray, List.set_cons_zero, List.set_cons_succ]
  refine wpAnyH_ready (rs := [3]) (by kernel_rfl) (by simp) ?_
  refine AllReadyH.cons rfl (fun K hK => ?_) AllReadyH.nil
  refine step_callTo (by rfl) 6 #[s7, .agg #[.int .i64 v, .int .i64 l]] (by kernel_rfl) H6.out ?_
  rintro e w6 ⟨rfl, hb6⟩
  refine ⟨_, rfl, ?_⟩
  have HB6 : Hid (Below W0.heap.size W0 w6 ∧ Below w.heap.size w w6) := ⟨bl_via HB5.out hb6, bl_via HW0.out (bl_via HB5.out hb6)⟩
  refine hK.out _ _ (HSX.out _ HB6.out.1) (fun hHd => ?_)
  clear hK K
  try simp only [Act.put, List.getElem_toArray, List.getElem_cons_succ, List.getElem_cons_zero, List.setIfInBounds_toArray, List.set_cons_zero, List.set_cons_succ]
  refine wpAnyH_take (i := 4) (v := .tuple #[.slice none 0 0, .int .i64 10]) rfl (by kernel_rfl) (by kernel_rfl) (by kernel_rfl) (fun _ _ _ h => h) (Or.inl ⟨by rfl, ?hyy⟩) (by assumption) ?_
  case hyy => (intro w' hSw; (try dsimp only at hSw); go_simp)
  try simp only [Act.put, List.getElem_toArray, List.getElem_cons_succ, List.getElem_cons_zero, List.setIfInBounds_toArray, List.set_cons_zero, List.set_cons_succ]
  refine wpAnyH_take (i := 5) (v := .slice none 0 0) rfl (by kernel_rfl) (by kernel_rfl) (by kernel_rfl) (fun _ _ _ h => h) (Or.inl ⟨by rfl, ?hyy⟩) (by assumption) ?_
  case hyy => (intro w' hSw; (try dsimp only at hSw); go_simp)
  try simp only [Act.put, List.getElem_toArray, List.getElem_cons_succ, List.getElem_cons_zero, List.setIfInBounds_toArray, List.set_cons_zero, List.set_cons_succ]
  refine wpAnyH_take (i := 6) (v := .int .i64 10) rfl (by kernel_rfl) (by kernel_rfl) (by kernel_rfl) (fun _ _ _ h => h) (Or.inl ⟨by rfl, ?hyy⟩) (by assumption) ?_
  case hyy => (intro w' hSw; (try dsimp only at hSw); go_simp)
  try simp only [Act.put, List.getElem_toArray, List.getElem_cons_succ, List.getElem_cons_zero, List.setIfInBounds_toArray, List.set_cons_zero, List.set_cons_succ]
  refine wpAnyH_take (i := 7) (v := .slice none 0 0) rfl (by kernel_rfl) (by kernel_rfl) (by kernel_rfl) (fun _ _ _ h => h) (Or.inl ⟨by rfl, ?hyy⟩) (by assumption) ?_
  case hyy => (intro w' hSw; (try dsimp only at hSw); go_simp)
  try simp only [Act.put, List.getElem_toArray, List.getElem_cons_succ, List.getElem_cons_zero, List.setIfInBounds_toArray, List.set_cons_zero, List.set_cons_succ]
  refine wpAnyH_take (i := 8) (v := .int .i64 10) rfl (by kernel_rfl) (by kernel_rfl) (by kernel_rfl) (fun _ _ _ h => h) (Or.inl ⟨by rfl, ?hyy⟩) (by assumption) ?_
  case hyy => (intro w' hSw; (try dsimp only at hSw); go_simp)
  try simp only [Act.put, List.getElem_toArray, List.getElem_cons_succ, List.getElem_cons_zero, List.setIfInBounds_toArray, List.set_cons_zero, List.set_cons_succ]
  refine wpAnyH_done (by kernel_rfl) ?_ _
  obtain ⟨s0, s1, s2, s3, s4, s5, e0, e1⟩ := HSX.out _ HB6.out.1
  have zs : w.heap.size < w6.heap.size := World.block_lt_of_cell? _ _ s0
  have ze : w.heap.size + 1 < w6.heap.size := World.block_lt_of_cell? _ _ e0
  clear hb6
  go_wp2_with (go_at_call 8; refine (C8.out _ HB6.out.2).mono ?_; rintro e w7 ⟨rfl, hb7⟩; have HB7 : Hid (Below W0.heap.size W0 w7 ∧ Below w.heap.size w w7 ∧ Below w6.heap.size w6 w7) := ⟨bl_via HB6.out.1 hb7, bl_via HB6.out.2 hb7, hb7⟩; obtain ⟨rs0, rs1, rs2, rs3, rs4, rs5, re0, re1⟩ := HSX.out _ HB7.out.1; have rzs : w.heap.size < w7.heap.size := World.block_lt_of_cell? _ _ rs0; have rze : w.heap.size + 1 < w7.heap.size := World.block_lt_of_cell? _ _ re0; clear hb7)
  go_ret
  exact ⟨rfl, HB7.out.2.1⟩
set_option maxRecDepth 100000 in
set_option maxHeartbeats 6400000 in
theorem cut_line (W H v l : Int) (a c mp sp : Option Addr) (zl ca n cc mn mc sn sc : Nat) (w : World)
    (C7 : Hid (∀ V : World, Below w.heap.size w V → Calls Tryz.prog 7 #[.agg #[.int .i64 W, .int .i64 H, .slice a zl ca, .slice c n cc, .slice mp mn mc, .slice sp sn sc]] V fun e w' => ∃ s7, e = .returned s7 ∧ Below V.heap.size V w' ∧ ∀ V2 : World, Below w'.heap.size w' V2 → Calls Tryz.prog 6 #[s7, .agg #[.int .i64 v, .int .i64 l]] V2 fun e2 w2 => e2 = .returned (.tuple #[.slice none 0 0, .int .i64 3]) ∧ Below V2.heap.size V2 w2))
    (C8 : Hid (∀ V : World, Below w.heap.size w V → Calls Tryz.prog 8 #[.agg #[.int .i64 W, .int .i64 H, .slice a zl ca, .slice c n cc, .slice mp mn mc, .slice sp sn sc]] V fun e w' => e = .returned (.bool true) ∧ Below V.heap.size V w')) (hl : lineB v l = false) :
    Calls Tryz.prog 3 #[.agg #[.int .i64 W, .int .i64 H, .slice a zl ca, .slice c n cc, .slice mp mn mc, .slice sp sn sc], .agg #[.int .i64 v, .int .i64 l]] w fun e w' => e = .returned (.bool true) ∧ Below w.heap.size w w' := by
  have C9 : Hid (∀ V : World, Calls Tryz.prog 9 #[.agg #[.int .i64 v, .int .i64 l]] V fun e w' => e = .returned (.bool false) ∧ Below V.heap.size V w') := fun V => (lineMay_any v l V).mono fun e w' ⟨h, o, hw⟩ => ⟨by rw [h, hl], by rw [hw]; exact bl_alloc (bl_refl _)⟩
  clear hl
  go_enter Tryz.func3, Tryz.ntmps3
  go_upto_region 1 with fail
  refine wp_named (fun W0 hW0 => ?_)
  have HSX : Hid (∀ wx : World, Below W0.heap.size W0 wx → wx.cell? ⟨w.heap.size, 0, none⟩ = some (.int .i64 W) ∧ wx.cell? ⟨w.heap.size, 1, none⟩ = some (.int .i64 H) ∧ wx.cell? ⟨w.heap.size, 2, none⟩ = some (.slice a zl ca) ∧ wx.cell? ⟨w.heap.size, 3, none⟩ = some (.slice c n cc) ∧ wx.cell? ⟨w.heap.size, 4, none⟩ = some (.slice mp mn mc) ∧ wx.cell? ⟨w.heap.size, 5, none⟩ = some (.slice sp sn sc) ∧ wx.cell? ⟨w.heap.size + 1, 0, none⟩ = some (.int .i64 v) ∧ wx.cell? ⟨w.heap.size + 1, 1, none⟩ = some (.int .i64 l)) := fun wx hx => by
    rw [hW0] at hx
    exact ⟨cl_kept hx (by simp [go_sem]), cl_kept hx (by simp [go_sem]), cl_kept hx (by simp [go_sem]), cl_kept hx (by simp [go_sem]), cl_kept hx (by simp [go_sem]), cl_kept hx (by simp [go_sem]), cl_kept hx (by simp [go_sem]), cl_kept hx (by simp [go_sem])⟩
  have HW0 : Hid (Below w.heap.size w W0) := by rw [hW0]; exact bl_alloc (bl_alloc (bl_refl _))
  clear hW0
  refine wp_region_held_drew (S := fun w' => w'.cell? ⟨w.heap.size, 0, none⟩ = some (.int .i64 W) ∧ w'.cell? ⟨w.heap.size, 1, none⟩ = some (.int .i64 H) ∧ w'.cell? ⟨w.heap.size, 2, none⟩ = some (.slice a zl ca) ∧ w'.cell? ⟨w.heap.size, 3, none⟩ = some (.slice c n cc) ∧ w'.cell? ⟨w.heap.size, 4, none⟩ = some (.slice mp mn mc) ∧ w'.cell? ⟨w.heap.size, 5, none⟩ = some (.slice sp sn sc) ∧ w'.cell? ⟨w.heap.size + 1, 0, none⟩ = some (.int .i64 v) ∧ w'.cell? ⟨w.heap.size + 1, 1, none⟩ = some (.int .i64 l)) (by kernel_rfl) (HSX.out _ (bl_drew (bl_refl _))) (fun hHeld => ?_)
  refine wpAnyH_take (i := 0) (v := .agg #[.int .i64 W, .int .i64 H, .slice a zl ca, .slice c n cc, .slice mp mn mc, .slice sp sn sc]) rfl (by kernel_rfl) (by kernel_rfl) (by kernel_rfl) (fun _ _ _ h => h) (Or.inl ⟨by rfl, ?hyy⟩) (by assumption) ?_
  case hyy => (intro w' hSw; (try dsimp only at hSw); go_simp)
  try simp only [Act.put, List.getElem_toArray, List.getElem_cons_zero, List.setIfInBounds_toArray, List.set_cons_zero, List.set_cons_succ]
  refine wpAnyH_take (i := 2) (v := .agg #[.int .i64 v, .int .i64 l]) rfl (by kernel_rfl) (by kernel_rfl) (by kernel_rfl) (fun _ _ _ h => h) (Or.inl ⟨by rfl, ?hyy⟩) (by assumption) ?_
  case hyy => (intro w' hSw; (try dsimp only at hSw); go_simp)
  try simp only [Act.put, List.getElem_toArray, List.getElem_cons_succ, List.getElem_cons_zero, List.setIfInBounds_toArray, List.set_cons_zero, List.set_cons_succ]
  refine wpAnyH_ready (rs := [1]) (by kernel_rfl) (by simp) ?_
  refine AllReadyH.cons rfl (fun K hK => ?_) AllReadyH.nil
  refine step_callTo (by rfl) 7 #[.agg #[.int .i64 W, .int .i64 H, .slice a zl ca, .slice c n cc, .slice mp mn mc, .slice sp sn sc]] (by kernel_rfl) (C7.out _ (bl_drew HW0.out)) ?_
  rintro e w5 ⟨s7, rfl, hb5, h6⟩
  refine ⟨_, rfl, ?_⟩
  have HB5 : Hid (Below W0.heap.size W0 w5) := bl_via (bl_drew (bl_refl _)) hb5
  have H6 : Hid (Calls Tryz.prog 6 #[s7, .agg #[.int .i64 v, .int .i64 l]] w5 _) := h6 w5 (bl_refl _)
  clear hb5 h6
  refine hK.out _ _ (HSX.out _ HB5.out) (fun hHd => ?_)
  clear hK K
  try simp only [Act.put, List.getElem_toArray, List.getElem_cons_succ, List.getElem_cons_zero, List.setIfInBounds_toArray, List.set_cons_zero, List.set_cons_succ]
  refine wpAnyH_ready (rs := [3]) (by kernel_rfl) (by simp) ?_
  refine AllReadyH.cons rfl (fun K hK => ?_) AllReadyH.nil
  refine step_callTo (by rfl) 6 #[s7, .agg #[.int .i64 v, .int .i64 l]] (by kernel_rfl) H6.out ?_
  rintro e w6 ⟨rfl, hb6⟩
  refine ⟨_, rfl, ?_⟩
  have HB6 : Hid (Below W0.heap.size W0 w6 ∧ Below w.heap.size w w6) := ⟨bl_via HB5.out hb6, bl_via HW0.out (bl_via HB5.out hb6)⟩
  refine hK.out _ _ (HSX.out _ HB6.out.1) (fun hHd => ?_)
  clear hK K
  try simp only [Act.put, List.getElem_toArray, List.getElem_cons_succ, List.getElem_cons_zero, List.setIfInBounds_toArray, List.set_cons_zero, List.set_cons_succ]
  refine wpAnyH_take (i := 4) (v := .tuple #[.slice none 0 0, .int .i64 3]) rfl (by kernel_rfl) (by kernel_rfl) (by kernel_rfl) (fun _ _ _ h => h) (Or.inl ⟨by rfl, ?hyy⟩) (by assumption) ?_
  case hyy => (intro w' hSw; (try dsimp only at hSw); go_simp)
  try simp only [Act.put, List.getElem_toArray, List.getElem_cons_succ, List.getElem_cons_zero, List.setIfInBounds_toArray, List.set_cons_zero, List.set_cons_succ]
  refine wpAnyH_take (i := 5) (v := .slice none 0 0) rfl (by kernel_rfl) (by kernel_rfl) (by kernel_rfl) (fun _ _ _ h => h) (Or.inl ⟨by rfl, ?hyy⟩) (by assumption) ?_
  case hyy => (intro w' hSw; (try dsimp only at hSw); go_simp)
  try simp only [Act.put, List.getElem_toArray, List.getElem_cons_succ, List.getElem_cons_zero, List.setIfInBounds_toArray, List.set_cons_zero, List.set_cons_succ]
  refine wpAnyH_take (i := 6) (v := .int .i64 3) rfl (by kernel_rfl) (by kernel_rfl) (by kernel_rfl) (fun _ _ _ h => h) (Or.inl ⟨by rfl, ?hyy⟩) (by assumption) ?_
  case hyy => (intro w' hSw; (try dsimp only at hSw); go_simp)
  try simp only [Act.put, List.getElem_toArray, List.getElem_cons_succ, List.getElem_cons_zero, List.setIfInBounds_toArray, List.set_cons_zero, List.set_cons_succ]
  refine wpAnyH_take (i := 7) (v := .slice none 0 0) rfl (by kernel_rfl) (by kernel_rfl) (by kernel_rfl) (fun _ _ _ h => h) (Or.inl ⟨by rfl, ?hyy⟩) (by assumption) ?_
  case hyy => (intro w' hSw; (try dsimp only at hSw); go_simp)
  try simp only [Act.put, List.getElem_toArray, List.getElem_cons_succ, List.getElem_cons_zero, List.setIfInBounds_toArray, List.set_cons_zero, List.set_cons_succ]
  refine wpAnyH_take (i := 8) (v := .int .i64 3) rfl (by kernel_rfl) (by kernel_rfl) (by kernel_rfl) (fun _ _ _ h => h) (Or.inl ⟨by rfl, ?hyy⟩) (by assumption) ?_
  case hyy => (intro w' hSw; (try dsimp only at hSw); go_simp)
  try simp only [Act.put, List.getElem_toArray, List.getElem_cons_succ, List.getElem_cons_zero, List.setIfInBounds_toArray, List.set_cons_zero, List.set_cons_succ]
  refine wpAnyH_done (by kernel_rfl) ?_ _
  obtain ⟨s0, s1, s2, s3, s4, s5, e0, e1⟩ := HSX.out _ HB6.out.1
  have zs : w.heap.size < w6.heap.size := World.block_lt_of_cell? _ _ s0
  have ze : w.heap.size + 1 < w6.heap.size := World.block_lt_of_cell? _ _ e0
  clear hb6
  go_wp2_with (first
    | (go_at_call 8; refine (C8.out _ HB6.out.2).mono ?_; rintro e w7 ⟨rfl, hb7⟩; have HB7 : Hid (Below W0.heap.size W0 w7 ∧ Below w.heap.size w w7 ∧ Below w6.heap.size w6 w7) := ⟨bl_via HB6.out.1 hb7, bl_via HB6.out.2 hb7, hb7⟩; obtain ⟨rs0, rs1, rs2, rs3, rs4, rs5, re0, re1⟩ := HSX.out _ HB7.out.1; have rzs : w.heap.size < w7.heap.size := World.block_lt_of_cell? _ _ rs0; have rze : w.heap.size + 1 < w7.heap.size := World.block_lt_of_cell? _ _ re0; clear hb7)
    | (go_at_call 9; refine (C9.out _).mono ?_; rintro e w8 ⟨rfl, hb8⟩; have HB8 : Hid (Below w.heap.size w w8) := bl_via HB7.out.2.1 hb8; clear hb8))
  go_ret
  exact ⟨rfl, HB8.out⟩
set_option maxRecDepth 100000 in
set_option maxHeartbeats 6400000 in
theorem cut_ok (W H v l : Int) (a c mp sp : Option Addr) (zl ca n cc mn mc sn sc : Nat) (PG QG : World → Option Addr → Nat → Prop) (w : World)
    (C7 : Hid (∀ V : World, Below w.heap.size w V → Calls Tryz.prog 7 #[.agg #[.int .i64 W, .int .i64 H, .slice a zl ca, .slice c n cc, .slice mp mn mc, .slice sp sn sc]] V fun e w' => ∃ s7, e = .returned s7 ∧ Below V.heap.size V w' ∧ ∀ V2 : World, Below w'.heap.size w' V2 → Calls Tryz.prog 6 #[s7, .agg #[.int .i64 v, .int .i64 l]] V2 fun e2 w2 => ∃ pa pl pc, e2 = .returned (.tuple #[.slice pa pl pc, .int .i64 0]) ∧ PG w2 pa pl ∧ Below V2.heap.size V2 w2))
    (C8 : Hid (∀ V : World, Below w.heap.size w V → Calls Tryz.prog 8 #[.agg #[.int .i64 W, .int .i64 H, .slice a zl ca, .slice c n cc, .slice mp mn mc, .slice sp sn sc]] V fun e w' => e = .returned (.bool true) ∧ Below V.heap.size V w')) (hl : lineB v l = true) (C11 : Hid (∀ V : World, Below w.heap.size w V → Calls Tryz.prog 11 #[.agg #[.int .i64 W, .int .i64 H, .slice a zl ca, .slice c n cc, .slice mp mn mc, .slice sp sn sc], .agg #[.int .i64 v, .int .i64 l]] V fun e w' => ∃ qa ql qc, e = .returned (.slice qa ql qc) ∧ QG w' qa ql ∧ Below V.heap.size V w')) (hPG : ∀ pa pl (V V2 : World), PG V pa pl → Below V.heap.size V V2 → PG V2 pa pl) (C10 : Hid (∀ (V : World) (pa qa : Option Addr) (pl ql pc qc : Nat), PG V pa pl → QG V qa ql → Calls Tryz.prog 10 #[.slice pa pl pc, .slice qa ql qc] V fun e w' => e = .returned (.bool true) ∧ Below V.heap.size V w')) :
    Calls Tryz.prog 3 #[.agg #[.int .i64 W, .int .i64 H, .slice a zl ca, .slice c n cc, .slice mp mn mc, .slice sp sn sc], .agg #[.int .i64 v, .int .i64 l]] w fun e w' => e = .returned (.bool true) ∧ Below w.heap.size w w' := by
  have C9 : Hid (∀ V : World, Calls Tryz.prog 9 #[.agg #[.int .i64 v, .int .i64 l]] V fun e w' => e = .returned (.bool true) ∧ Below V.heap.size V w') := fun V => (lineMay_any v l V).mono fun e w' ⟨h, o, hw⟩ => ⟨by rw [h, hl], by rw [hw]; exact bl_alloc (bl_refl _)⟩
  clear hl
  go_enter Tryz.func3, Tryz.ntmps3
  go_upto_region 1 with fail
  refine wp_named (fun W0 hW0 => ?_)
  have HSX : Hid (∀ wx : World, Below W0.heap.size W0 wx → wx.cell? ⟨w.heap.size, 0, none⟩ = some (.int .i64 W) ∧ wx.cell? ⟨w.heap.size, 1, none⟩ = some (.int .i64 H) ∧ wx.cell? ⟨w.heap.size, 2, none⟩ = some (.slice a zl ca) ∧ wx.cell? ⟨w.heap.size, 3, none⟩ = some (.slice c n cc) ∧ wx.cell? ⟨w.heap.size, 4, none⟩ = some (.slice mp mn mc) ∧ wx.cell? ⟨w.heap.size, 5, none⟩ = some (.slice sp sn sc) ∧ wx.cell? ⟨w.heap.size + 1, 0, none⟩ = some (.int .i64 v) ∧ wx.cell? ⟨w.heap.size + 1, 1, none⟩ = some (.int .i64 l)) := fun wx hx => by
    rw [hW0] at hx
    exact ⟨cl_kept hx (by simp [go_sem]), cl_kept hx (by simp [go_sem]), cl_kept hx (by simp [go_sem]), cl_kept hx (by simp [go_sem]), cl_kept hx (by simp [go_sem]), cl_kept hx (by simp [go_sem]), cl_kept hx (by simp [go_sem]), cl_kept hx (by simp [go_sem])⟩
  have HW0 : Hid (Below w.heap.size w W0) := by rw [hW0]; exact bl_alloc (bl_alloc (bl_refl _))
  clear hW0
  refine wp_region_held_drew (S := fun w' => w'.cell? ⟨w.heap.size, 0, none⟩ = some (.int .i64 W) ∧ w'.cell? ⟨w.heap.size, 1, none⟩ = some (.int .i64 H) ∧ w'.cell? ⟨w.heap.size, 2, none⟩ = some (.slice a zl ca) ∧ w'.cell? ⟨w.heap.size, 3, none⟩ = some (.slice c n cc) ∧ w'.cell? ⟨w.heap.size, 4, none⟩ = some (.slice mp mn mc) ∧ w'.cell? ⟨w.heap.size, 5, none⟩ = some (.slice sp sn sc) ∧ w'.cell? ⟨w.heap.size + 1, 0, none⟩ = some (.int .i64 v) ∧ w'.cell? ⟨w.heap.size + 1, 1, none⟩ = some (.int .i64 l)) (by kernel_rfl) (HSX.out _ (bl_drew (bl_refl _))) (fun hHeld => ?_)
  refine wpAnyH_take (i := 0) (v := .agg #[.int .i64 W, .int .i64 H, .slice a zl ca, .slice c n cc, .slice mp mn mc, .slice sp sn sc]) rfl (by kernel_rfl) (by kernel_rfl) (by kernel_rfl) (fun _ _ _ h => h) (Or.inl ⟨by rfl, ?hyy⟩) (by assumption) ?_
  case hyy => (intro w' hSw; (try dsimp only at hSw); go_simp)
  try simp only [Act.put, List.getElem_toArray, List.getElem_cons_zero, List.setIfInBounds_toArray, List.set_cons_zero, List.set_cons_succ]
  refine wpAnyH_take (i := 2) (v := .agg #[.int .i64 v, .int .i64 l]) rfl (by kernel_rfl) (by kernel_rfl) (by kernel_rfl) (fun _ _ _ h => h) (Or.inl ⟨by rfl, ?hyy⟩) (by assumption) ?_
  case hyy => (intro w' hSw; (try dsimp only at hSw); go_simp)
  try simp only [Act.put, List.getElem_toArray, List.getElem_cons_succ, List.getElem_cons_zero, List.setIfInBounds_toArray, List.set_cons_zero, List.set_cons_succ]
  refine wpAnyH_ready (rs := [1]) (by kernel_rfl) (by simp) ?_
  refine AllReadyH.cons rfl (fun K hK => ?_) AllReadyH.nil
  refine step_callTo (by rfl) 7 #[.agg #[.int .i64 W, .int .i64 H, .slice a zl ca, .slice c n cc, .slice mp mn mc, .slice sp sn sc]] (by kernel_rfl) (C7.out _ (bl_drew HW0.out)) ?_
  rintro e w5 ⟨s7, rfl, hb5, h6⟩
  refine ⟨_, rfl, ?_⟩
  have HB5 : Hid (Below W0.heap.size W0 w5) := bl_via (bl_drew (bl_refl _)) hb5
  have H6 : Hid (Calls Tryz.prog 6 #[s7, .agg #[.int .i64 v, .int .i64 l]] w5 _) := h6 w5 (bl_refl _)
  clear hb5 h6
  refine hK.out _ _ (HSX.out _ HB5.out) (fun hHd => ?_)
  clear hK K
  try simp only [Act.put, List.getElem_toArray, List.getElem_cons_succ, List.getElem_cons_zero, List.setIfInBounds_toArray, List.set_cons_zero, List.set_cons_succ]
  refine wpAnyH_ready (rs := [3]) (by kernel_rfl) (by simp) ?_
  refine AllReadyH.cons rfl (fun K hK => ?_) AllReadyH.nil
  refine step_callTo (by rfl) 6 #[s7, .agg #[.int .i64 v, .int .i64 l]] (by kernel_rfl) H6.out ?_
  rintro e w6 ⟨pa, pl, pc, rfl, hpg, hb6⟩
  refine ⟨_, rfl, ?_⟩
  have HB6 : Hid (Below W0.heap.size W0 w6 ∧ Below w.heap.size w w6) := ⟨bl_via HB5.out hb6, bl_via HW0.out (bl_via HB5.out hb6)⟩
  refine hK.out _ _ (HSX.out _ HB6.out.1) (fun hHd => ?_)
  clear hK K
  try simp only [Act.put, List.getElem_toArray, List.getElem_cons_succ, List.getElem_cons_zero, List.setIfInBounds_toArray, List.set_cons_zero, List.set_cons_succ]
  refine wpAnyH_take (i := 4) (v := .tuple #[.slice pa pl pc, .int .i64 0]) rfl (by kernel_rfl) (by kernel_rfl) (by kernel_rfl) (fun _ _ _ h => h) (Or.inl ⟨by rfl, ?hyy⟩) (by assumption) ?_
  case hyy => (intro w' hSw; (try dsimp only at hSw); go_simp)
  try simp only [Act.put, List.getElem_toArray, List.getElem_cons_succ, List.getElem_cons_zero, List.setIfInBounds_toArray, List.set_cons_zero, List.set_cons_succ]
  refine wpAnyH_take (i := 5) (v := .slice pa pl pc) rfl (by kernel_rfl) (by kernel_rfl) (by kernel_rfl) (fun _ _ _ h => h) (Or.inl ⟨by rfl, ?hyy⟩) (by assumption) ?_
  case hyy => (intro w' hSw; (try dsimp only at hSw); go_simp)
  try simp only [Act.put, List.getElem_toArray, List.getElem_cons_succ, List.getElem_cons_zero, List.setIfInBounds_toArray, List.set_cons_zero, List.set_cons_succ]
  refine wpAnyH_take (i := 6) (v := .int .i64 0) rfl (by kernel_rfl) (by kernel_rfl) (by kernel_rfl) (fun _ _ _ h => h) (Or.inl ⟨by rfl, ?hyy⟩) (by assumption) ?_
  case hyy => (intro w' hSw; (try dsimp only at hSw); go_simp)
  try simp only [Act.put, List.getElem_toArray, List.getElem_cons_succ, List.getElem_cons_zero, List.setIfInBounds_toArray, List.set_cons_zero, List.set_cons_succ]
  refine wpAnyH_take (i := 7) (v := .slice pa pl pc) rfl (by kernel_rfl) (by kernel_rfl) (by kernel_rfl) (fun _ _ _ h => h) (Or.inl ⟨by rfl, ?hyy⟩) (by assumption) ?_
  case hyy => (intro w' hSw; (try dsimp only at hSw); go_simp)
  try simp only [Act.put, List.getElem_toArray, List.getElem_cons_succ, List.getElem_cons_zero, List.setIfInBounds_toArray, List.set_cons_zero, List.set_cons_succ]
  refine wpAnyH_take (i := 8) (v := .int .i64 0) rfl (by kernel_rfl) (by kernel_rfl) (by kernel_rfl) (fun _ _ _ h => h) (Or.inl ⟨by rfl, ?hyy⟩) (by assumption) ?_
  case hyy => (intro w' hSw; (try dsimp only at hSw); go_simp)
  try simp only [Act.put, List.getElem_toArray, List.getElem_cons_succ, List.getElem_cons_zero, List.setIfInBounds_toArray, List.set_cons_zero, List.set_cons_succ]
  refine wpAnyH_done (by kernel_rfl) ?_ _
  obtain ⟨s0, s1, s2, s3, s4, s5, e0, e1⟩ := HSX.out _ HB6.out.1
  have zs : w.heap.size < w6.heap.size := World.block_lt_of_cell? _ _ s0
  have ze : w.heap.size + 1 < w6.heap.size := World.block_lt_of_cell? _ _ e0
  have HPG : Hid (PG w6 pa pl) := hpg
  clear hb6 hpg
  go_wp2_with (first
    | (go_at_call 8; refine (C8.out _ HB6.out.2).mono ?_; rintro e w7 ⟨rfl, hb7⟩; have HB7 : Hid (Below W0.heap.size W0 w7 ∧ Below w.heap.size w w7 ∧ Below w6.heap.size w6 w7) := ⟨bl_via HB6.out.1 hb7, bl_via HB6.out.2 hb7, hb7⟩; obtain ⟨rs0, rs1, rs2, rs3, rs4, rs5, re0, re1⟩ := HSX.out _ HB7.out.1; have rzs : w.heap.size < w7.heap.size := World.block_lt_of_cell? _ _ rs0; have rze : w.heap.size + 1 < w7.heap.size := World.block_lt_of_cell? _ _ re0; clear hb7)
    | (go_at_call 9; refine (C9.out _).mono ?_; rintro e w8 ⟨rfl, hb8⟩; have HB8 : Hid (Below W0.heap.size W0 w8 ∧ Below w.heap.size w w8 ∧ Below w6.heap.size w6 w8) := ⟨bl_via HB7.out.1 hb8, bl_via HB7.out.2.1 hb8, bl_via HB7.out.2.2 hb8⟩; obtain ⟨qs0, qs1, qs2, qs3, qs4, qs5, qe0, qe1⟩ := HSX.out _ HB8.out.1; have qzs : w.heap.size < w8.heap.size := World.block_lt_of_cell? _ _ qs0; have qze : w.heap.size + 1 < w8.heap.size := World.block_lt_of_cell? _ _ qe0; clear hb8)
    | (go_at_call 11; refine (C11.out _ HB8.out.2.1).mono ?_; rintro e w9 ⟨qa, ql, qc, rfl, hqg, hb9⟩; have HB9 : Hid (QG w9 qa ql ∧ PG w9 pa pl ∧ Below w.heap.size w w9) := ⟨hqg, hPG pa pl _ _ HPG.out (bl_via HB8.out.2.2 hb9), bl_via HB8.out.2.1 hb9⟩; clear hqg hb9)
    | (go_at_call 10; refine (C10.out _ pa qa pl ql pc qc HB9.out.2.1 HB9.out.1).mono ?_; rintro e w10 ⟨rfl, hb10⟩; have HB10 : Hid (Below w.heap.size w w10) := bl_via HB9.out.2.2 hb10; clear hb10)
    | fail)
  go_ret
  exact ⟨rfl, HB10.out⟩
end Go.Proofs.YtmjhfdohcghhoaaGreatDoor
