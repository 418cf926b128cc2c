/- Which triangles are joined: the reference's groups. -/
import Derived.Test.YtehmoacggikfmaaDoorQlay
import Derived.Test.YtehmoacggikfmaaDoorQlba
import Derived.Test.YtehmoacggikfmaaDoorQlbb
namespace Go.Proofs.YtehmoacggikfmaaDoor
open Go.RowKit
attribute [local go_sem ↓] Go.wp_at_zero Go.wp_at_succ

/-- A row of numbers that may be written. -/
def WRow (w : World) (g n : Nat) (who : Nat → Nat) : Prop := ∀ i, i < n → w.cell? ⟨g, i, none⟩ = some (.int .i64 (who i : Int)) ∧ w.frozen? ⟨g, i, none⟩ = false
theorem WRow.kept {w wx : World} {g n : Nat} {who : Nat → Nat} (h : WRow w g n who) (hb : Below w.heap.size w wx) : WRow wx g n who := fun i hi =>
  ⟨cl_kept hb (h i hi).1, (hb.frozen (p := ⟨g, i, none⟩) (World.block_lt_of_cell? _ _ (h i hi).1)).trans (h i hi).2⟩
/-- One number turned. -/
def upd (who : Nat → Nat) (i v : Nat) : Nat → Nat := fun j => if j = i then v else who j
theorem WRow.set {w : World} {g n : Nat} {who : Nat → Nat} (h : WRow w g n who) {i v : Nat} (hi : i < n) : WRow (w.setCell ⟨g, i, none⟩ (.int .i64 (v : Int))) g n (upd who i v) := fun j hj => by
  refine ⟨?_, by rw [World.frozen?_setCell]; exact (h j hj).2⟩
  by_cases e : j = i
  · subst e
    simp only [upd, if_true]
    exact World.cell?_setCell_same _ _ _ (h j hj).1
  · simp only [upd, if_neg e]
    exact (World.cell?_setCell_other _ _ _ _ (by intro hh; injection hh with _ h2; exact e h2.symm)).trans (h j hj).1
/-- Triangles in a row of memory that is another one. -/
def TRB (w : World) (a : Option Addr) (l : List (Int × Int × Int)) (g : Nat) : Prop :=
  ∀ i (h : i < l.length), ∃ ga, a = some ⟨ga, 0, none⟩ ∧ ga ≠ g ∧ w.cell? ⟨ga, i * 3, none⟩ = some (.int .i64 l[i].1) ∧ w.cell? ⟨ga, i * 3 + 1, none⟩ = some (.int .i64 l[i].2.1) ∧ w.cell? ⟨ga, i * 3 + 2, none⟩ = some (.int .i64 l[i].2.2)
theorem TRB.row {w : World} {a : Option Addr} {l : List (Int × Int × Int)} {g : Nat} (h : TRB w a l g) : TRow w a l := fun i hi => by
  obtain ⟨ga, e, _, hc⟩ := h i hi
  exact ⟨ga, e, hc⟩
theorem TRB.kept {w wx : World} {a : Option Addr} {l : List (Int × Int × Int)} {g : Nat} (h : TRB w a l g) (hb : Below w.heap.size w wx) : TRB wx a l g := fun i hi => by
  obtain ⟨ga, e, hn, h0, h1, h2⟩ := h i hi
  exact ⟨ga, e, hn, cl_kept hb h0, cl_kept hb h1, cl_kept hb h2⟩
theorem TRB.set {w : World} {a : Option Addr} {l : List (Int × Int × Int)} {g i : Nat} {v : Value} (h : TRB w a l g) : TRB (w.setCell ⟨g, i, none⟩ v) a l g := fun j hj => by
  obtain ⟨ga, e, hn, h0, h1, h2⟩ := h j hj
  exact ⟨ga, e, hn, set_far h0 (by dsimp only; omega), set_far h1 (by dsimp only; omega), set_far h2 (by dsimp only; omega)⟩
theorem row_trb {w : World} {a : Option Addr} {l : List (Int × Int × Int)} {g : Nat} (h : TRow w a l) (hg : w.heap.size ≤ g) : TRB w a l g := fun i hi => by
  obtain ⟨ga, e, h0, h1, h2⟩ := h i hi
  have := World.block_lt_of_cell? _ _ h0
  exact ⟨ga, e, by dsimp only at this; omega, h0, h1, h2⟩

/-- Each is joined to its number, which is no greater. -/
def Inv (l : List (Int × Int × Int)) (who : Nat → Nat) : Prop := ∀ i (hi : i < l.length), who i ≤ i ∧ ∃ hw : who i < l.length, Reach l l[i] l[who i]
/-- Across an edge nothing has a lesser number. -/
def Ok (l : List (Int × Int × Int)) (who : Nat → Nat) (i e : Nat) : Prop := ∀ (hi : i < l.length) j (_ : j < l.length), plc l (acr l[i] (edg l[i] e)) = (j : Int) → who i ≤ who j
def sumW (who : Nat → Nat) : Nat → Nat
  | 0 => 0
  | n + 1 => sumW who n + who n
theorem inv_id (l : List (Int × Int × Int)) : Inv l (fun i => i) := fun _ hi => ⟨Nat.le_refl _, hi, .here (List.getElem_mem hi)⟩
theorem sum_far {who : Nat → Nat} {i v : Nat} (n : Nat) (h : n ≤ i) : sumW (upd who i v) n = sumW who n := by
  induction n with
  | zero => rfl
  | succ n ih =>
    have e : upd who i v n = who n := if_neg (by omega)
    show sumW (upd who i v) n + upd who i v n = sumW who n + who n
    rw [ih (by omega), e]
theorem sum_upd {who : Nat → Nat} {i v : Nat} (hv : v < who i) (n : Nat) (h : i < n) : sumW (upd who i v) n < sumW who n := by
  induction n with
  | zero => omega
  | succ n ih =>
    show sumW (upd who i v) n + upd who i v n < sumW who n + who n
    by_cases e : i = n
    · subst e
      have e2 : upd who i v i = v := if_pos rfl
      rw [sum_far i (Nat.le_refl _), e2]
      omega
    · have e2 : upd who i v n = who n := if_neg (by omega)
      have := ih (by omega)
      rw [e2]
      omega
theorem plc_get {l : List (Int × Int × Int)} {t : Int × Int × Int} {j : Nat} (hj : j < l.length) (h : plc l t = (j : Int)) : l[j] = t := by
  unfold plc at h
  split at h
  · rename_i hm
    have e : l.idxOf t = j := by omega
    subst e
    exact List.getElem_idxOf hj
  · omega
theorem plc_bd (l : List (Int × Int × Int)) (t : Int × Int × Int) : plc l t = -1 ∨ ∃ j : Nat, j < l.length ∧ plc l t = (j : Int) := by
  unfold plc
  split
  · rename_i hm
    exact .inr ⟨_, List.idxOf_lt_length_of_mem hm, rfl⟩
  · exact .inl rfl
theorem inv_upd {l : List (Int × Int × Int)} {who : Nat → Nat} {i j e : Nat} (hI : Inv l who) (hi : i < l.length) (hj : j < l.length) (hk : Kd l[i]) (hp : plc l (acr l[i] (edg l[i] e)) = (j : Int)) (hlt : who j < who i) : Inv l (upd who i (who j)) := by
  intro m hm
  by_cases h : m = i
  · subst h
    simp only [upd, if_true]
    obtain ⟨h1, _, _⟩ := hI m hm
    obtain ⟨_, hw, hr⟩ := hI j hj
    have ha : Adj l[m] l[j] := by
      have h3 := acr_adj hk (edg_own l[m] e)
      rw [plc_get hj hp]
      exact ⟨h3.2.1, _, edg_own _ _, h3.1⟩
    exact ⟨by omega, hw, ((Reach.here (List.getElem_mem hm)).step (List.getElem_mem hj) ha).trans hr⟩
  · simp only [upd, if_neg h]
    exact hI m hm

theorem fresh_a {v w8 : World} {g : Nat} (hg : v.heap.size = g) (hb : Below (v.alloc (.cells #[.int .i64 0, .int .i64 0, .int .i64 0] 52)).heap.size (v.alloc (.cells #[.int .i64 0, .int .i64 0, .int .i64 0] 52)) w8) : w8.cell? ⟨g, 0, none⟩ = some (.int .i64 0) ∧ w8.cell? ⟨g, 1, none⟩ = some (.int .i64 0) ∧ w8.cell? ⟨g, 2, none⟩ = some (.int .i64 0) ∧ w8.frozen? ⟨g, 0, none⟩ = false ∧ w8.frozen? ⟨g, 1, none⟩ = false ∧ w8.frozen? ⟨g, 2, none⟩ = false ∧ g < w8.heap.size := by
  subst hg
  have c0 : w8.cell? ⟨v.heap.size, 0, none⟩ = some (.int .i64 0) := cl_kept hb (by simp [go_sem])
  refine ⟨c0, cl_kept hb (by simp [go_sem]), cl_kept hb (by simp [go_sem]), ?_, ?_, ?_, World.block_lt_of_cell? _ _ c0⟩
  all_goals exact (hb.frozen (by simp)).trans (by simp [go_sem])
theorem fresh_d {v w8 : World} {g : Nat} (hg : v.heap.size = g) (hb : Below ((v.alloc (.cells #[.int .i64 0, .int .i64 0, .int .i64 0] 52)).drew).heap.size ((v.alloc (.cells #[.int .i64 0, .int .i64 0, .int .i64 0] 52)).drew) w8) : w8.cell? ⟨g, 0, none⟩ = some (.int .i64 0) ∧ w8.cell? ⟨g, 1, none⟩ = some (.int .i64 0) ∧ w8.cell? ⟨g, 2, none⟩ = some (.int .i64 0) ∧ w8.frozen? ⟨g, 0, none⟩ = false ∧ w8.frozen? ⟨g, 1, none⟩ = false ∧ w8.frozen? ⟨g, 2, none⟩ = false ∧ g < w8.heap.size := by
  subst hg
  have c0 : w8.cell? ⟨v.heap.size, 0, none⟩ = some (.int .i64 0) := cl_kept hb (by simp [go_sem])
  refine ⟨c0, cl_kept hb (by simp [go_sem]), cl_kept hb (by simp [go_sem]), ?_, ?_, ?_, World.block_lt_of_cell? _ _ c0⟩
  all_goals exact (hb.frozen (by simp)).trans (by simp [go_sem])
theorem fresh_dd {v w8 : World} {g : Nat} (hg : v.heap.size = g) (hb : Below ((v.alloc (.cells #[.int .i64 0, .int .i64 0, .int .i64 0] 52)).drew.drew).heap.size ((v.alloc (.cells #[.int .i64 0, .int .i64 0, .int .i64 0] 52)).drew.drew) w8) : w8.cell? ⟨g, 0, none⟩ = some (.int .i64 0) ∧ w8.cell? ⟨g, 1, none⟩ = some (.int .i64 0) ∧ w8.cell? ⟨g, 2, none⟩ = some (.int .i64 0) ∧ w8.frozen? ⟨g, 0, none⟩ = false ∧ w8.frozen? ⟨g, 1, none⟩ = false ∧ w8.frozen? ⟨g, 2, none⟩ = false ∧ g < w8.heap.size := by
  subst hg
  have c0 : w8.cell? ⟨v.heap.size, 0, none⟩ = some (.int .i64 0) := cl_kept hb (by simp [go_sem])
  refine ⟨c0, cl_kept hb (by simp [go_sem]), cl_kept hb (by simp [go_sem]), ?_, ?_, ?_, World.block_lt_of_cell? _ _ c0⟩
  all_goals exact (hb.frozen (by simp)).trans (by simp [go_sem])
theorem Twl.set {w : World} {g : Nat} {v0 v1 v2 v3 v4 v5 v6 v7 v8 v9 v10 v11 : Int} (h : Twl w g v0 v1 v2 v3 v4 v5 v6 v7 v8 v9 v10 v11) {p : Addr} {u : Value} (hp : g ≠ p.block) : Twl (w.setCell p u) g v0 v1 v2 v3 v4 v5 v6 v7 v8 v9 v10 v11 := by
  obtain ⟨h0, h1, h2, h3, h4, h5, h6, h7, h8, h9, h10, h11⟩ := h
  exact ⟨set_far h0 hp, set_far h1 hp, set_far h2 hp, set_far h3 hp, set_far h4 hp, set_far h5 hp, set_far h6 hp, set_far h7 hp, set_far h8 hp, set_far h9 hp, set_far h10 hp, set_far h11 hp⟩
theorem st_far {w : World} {p a : Addr} {u v : Value} (h : w.cell? a = some v) (hne : a.block ≠ p.block) : (w.setCell p u).cell? a = some v := set_far h hne

/-- What groups keeps in memory. -/
def GWp (w wx : World) (a : Option Addr) (L : List (Int × Int × Int)) (g : Nat) (who : Nat → Nat) : Prop := TRB wx a L g ∧ WRow wx g L.length who ∧ Below w.heap.size w wx
theorem GWp.kept {w wr wx : World} {a : Option Addr} {L : List (Int × Int × Int)} {g : Nat} {who : Nat → Nat} (h : GWp w wr a L g who) (hb : Below wr.heap.size wr wx) : GWp w wx a L g who := ⟨h.1.kept hb, h.2.1.kept hb, bl_via h.2.2 hb⟩
/-- One of a triangle's edges, and where its four numbers lie. -/
theorem edge_of (x y k : Int) (ge k' : Nat) (h : k' < 3) : ∃ E0 E1 E2 E3 : Int, Hid (edg (x, y, k) k' = (E0, E1, E2, E3) ∧ hasB x y k E0 E1 E2 E3 = true ∧ ∀ W' : World, Twl W' ge (ue0 x y k) (ue1 x y k) (ue2 x y k) (ue3 x y k) (ue4 x y k) (ue5 x y k) (ue6 x y k) (ue7 x y k) (ue8 x y k) (ue9 x y k) (ue10 x y k) (ue11 x y k) → W'.cell? ⟨ge, k' * 4, none⟩ = some (.int .i64 E0) ∧ W'.cell? ⟨ge, k' * 4 + 1, none⟩ = some (.int .i64 E1) ∧ W'.cell? ⟨ge, k' * 4 + 2, none⟩ = some (.int .i64 E2) ∧ W'.cell? ⟨ge, k' * 4 + 3, none⟩ = some (.int .i64 E3)) := by
  have hk : k' = 0 ∨ k' = 1 ∨ k' = 2 := by omega
  rcases hk with rfl | rfl | rfl
  · exact ⟨_, _, _, _, ⟨rfl, by simp [hasB, e0, sameB], fun W' ⟨m0, m1, m2, m3, m4, m5, m6, m7, m8, m9, m10, m11⟩ => ⟨m0, m1, m2, m3⟩⟩⟩
  · exact ⟨_, _, _, _, ⟨rfl, by simp [hasB, e1, sameB], fun W' ⟨m0, m1, m2, m3, m4, m5, m6, m7, m8, m9, m10, m11⟩ => ⟨m4, m5, m6, m7⟩⟩⟩
  · exact ⟨_, _, _, _, ⟨rfl, by simp [hasB, e2, sameB], fun W' ⟨m0, m1, m2, m3, m4, m5, m6, m7, m8, m9, m10, m11⟩ => ⟨m8, m9, m10, m11⟩⟩⟩

set_option maxRecDepth 100000 in
set_option maxHeartbeats 3200000 in
theorem groups_any (W H b off cap : Nat) (zs : List Int) (c : Value) (w : World) (hr : Row w (some ⟨b, off, none⟩) zs) (hW : 1 ≤ W ∧ W ≤ 8) (hH : 1 ≤ H ∧ H ≤ 8) (hl : zs.length = W * H) (hm : maskB zs = true) :
    Calls Tryd.prog 33 #[.agg #[.int .i64 (W : Int), .int .i64 (H : Int), .slice (some ⟨b, off, none⟩) zs.length cap, c], .bool true] w fun e w' => ∃ g who, e = .returned (.slice (some ⟨g, 0, none⟩) (ty zs W H).length (ty zs W H).length) ∧ WRow w' g (ty zs W H).length who ∧ Inv (ty zs W H) who ∧ (∀ i e, i < (ty zs W H).length → e < 3 → Ok (ty zs W H) who i e) ∧ Below w.heap.size w w' := by
  have C38 : Hid (∀ W' : World, Below w.heap.size w W' → Calls Tryd.prog 10 #[.agg #[.int .i64 (W : Int), .int .i64 (H : Int), .slice (some ⟨b, off, none⟩) zs.length cap, c]] W' fun e w' => ∃ v, e = .returned v ∧ w'.ownsRow (W'.heap.size + 1) 52 3 v (ty zs W H).length (flatV (ty zs W H)) ∧ Below W'.heap.size W' w') := fun W' hW' => trisOf_any W H b off cap zs c W' (hr.kept hW') hW hH hl hm
  have HBD : Hid (∀ t ∈ ty zs W H, (0 ≤ t.1 ∧ t.1 ≤ 8) ∧ (0 ≤ t.2.1 ∧ t.2.1 ≤ 8) ∧ (0 ≤ t.2.2 ∧ t.2.2 ≤ 3)) := ty_bd hW.2 hH.2
  have hlen : (ty zs W H).length ≤ 256 := by have := ty_len zs W H hW.2; omega
  obtain ⟨i3, hi3, hz0, hz1, hz2⟩ := info_parts inf3
  have HI3 : Hid (Tryd.prog.info? 3 = some i3 ∧ i3.zero = some (.int .i64 0) ∧ i3.size = 1 ∧ i3.bytes = 8) := ⟨hi3, hz0, hz1, hz2⟩
  clear hr hl hm hW hH hi3 hz0 hz1 hz2
  obtain ⟨L, hL⟩ : ∃ L, L = ty zs W H := ⟨_, rfl⟩
  rw [← hL] at C38 HBD hlen ⊢
  clear hL
  go_enter Tryd.func33, Tryd.ntmps33
  go_wp2_with (first
    | (go_at_call 10; refine (C38.out _ (by with_reducible exact bl_alloc (bl_refl _))).mono ?_; rintro e w1 ⟨v, rfl, ho, hb⟩; have hB : Below w.heap.size w w1 := bl_via (bl_alloc (bl_refl _)) hb; obtain ⟨a, ca, rfl, hT⟩ := own_tris ho; have HW : Hid (TRow w1 a L ∧ Below w.heap.size w w1) := ⟨hT, hB⟩; clear hB hT ho hb)
    | (at_make; refine wpList_make_full _ rfl (.tmp 18) (.tmp 18) 22 rfl w1.heap.size 3 i3 (.int .i64 0) 1 Tryd.underlying22 HI3.out.1 HI3.out.2.1 HI3.out.2.2.1 .i64 .i64 _ _ L.length rfl rfl rfl rfl ?b2 ?b3 ?b4 ?mk))
  case b2 =>
    rw [HI3.out.2.2.2]
    omega
  case b3 =>
    unfold maxLen
    omega
  case b4 => exact Nat.le_refl _
  case mk =>
    intro w2 ho hg
    have hbel : Below w1.heap.size w1 w2 := (Below.refl _ _).grown hg (Nat.le_refl _) (fun k h => by cases h)
    have hF : ∀ i, i < L.length → (∃ u, w2.cell? ⟨w1.heap.size, i, none⟩ = some u) ∧ w2.frozen? ⟨w1.heap.size, i, none⟩ = false := fun i hi => by
      have h1 := ho.1
      have h2 := ho.cellAt i (by omega)
      exact ⟨⟨_, h2.trans (List.getElem?_eq_getElem (by omega))⟩, ho.frozenAt i⟩
    obtain ⟨g, hgg⟩ : ∃ g, g = w1.heap.size := ⟨_, rfl⟩
    have HF : Hid (TRB w2 a L g ∧ (∀ i, i < L.length → (∃ u, w2.cell? ⟨g, i, none⟩ = some u) ∧ w2.frozen? ⟨g, i, none⟩ = false) ∧ Below w.heap.size w w2 ∧ w.heap.size ≤ g) := ⟨(row_trb HW.out.1 (by omega)).kept hbel, by rw [hgg]; exact hF, bl_via HW.out.2 hbel, by rw [hgg]; exact HW.out.2.size⟩
    rw [← hgg]
    clear hF hbel ho hg hgg HW
    go_wp2
    go_loopg [7] L.length (fun gk s7 wx => ∃ i : Nat, i ≤ L.length ∧ gk = L.length - i ∧ s7 = .int .i64 (i : Int) ∧ TRB wx a L g ∧ (∀ j, j < L.length → (∃ u, wx.cell? ⟨g, j, none⟩ = some u) ∧ wx.frozen? ⟨g, j, none⟩ = false) ∧ (∀ j, j < i → wx.cell? ⟨g, j, none⟩ = some (.int .i64 (j : Int))) ∧ Below w.heap.size w wx)
    case atStart => exact ⟨0, by omega, rfl, rfl, HF.out.1, HF.out.2.1, fun j h => by omega, HF.out.2.2.1⟩
    case round =>
      obtain ⟨i, hi, rfl, rfl, hT, hC, hD, hB⟩ := hrel
      have HR : Hid (TRB wr a L g ∧ (∀ j, j < L.length → (∃ u, wr.cell? ⟨g, j, none⟩ = some u) ∧ wr.frozen? ⟨g, j, none⟩ = false) ∧ (∀ j, j < i → wr.cell? ⟨g, j, none⟩ = some (.int .i64 (j : Int))) ∧ Below w.heap.size w wr) := ⟨hT, hC, hD, hB⟩
      clear hT hC hD hB
      by_cases h1 : i < L.length
      · have i1 : (i : Int) < (L.length : Int) := by omega
        have i0 : (0 : Int) ≤ (i : Int) := by omega
        obtain ⟨⟨u, hu⟩, hf⟩ := HR.out.2.1 i h1
        go_wp2
        go_roundg (L.length - (i + 1))
        case measure => omega
        case rel =>
          refine ⟨i + 1, by omega, rfl, by go_num, HR.out.1.set, fun j hj => ?_, fun j hj => ?_, bl_set HR.out.2.2.2 HF.out.2.2.2⟩
          · refine ⟨?_, by rw [World.frozen?_setCell]; exact (HR.out.2.1 j hj).2⟩
            by_cases e : j = i
            · subst e
              exact ⟨_, World.cell?_setCell_same _ _ _ hu⟩
            · obtain ⟨u', hu'⟩ := (HR.out.2.1 j hj).1
              exact ⟨u', (World.cell?_setCell_other _ _ _ _ (by intro hh; injection hh with _ h2; exact e h2.symm)).trans hu'⟩
          · by_cases e : j = i
            · subst e
              exact World.cell?_setCell_same _ _ _ hu
            · exact (World.cell?_setCell_other _ _ _ _ (by intro hh; injection hh with _ h2; exact e h2.symm)).trans (HR.out.2.2.1 j (by omega))
      · have i1 : ¬ (i : Int) < (L.length : Int) := by omega
        have HG : Hid (GWp w wr a L g (fun j => j)) := ⟨HR.out.1, fun j hj => ⟨HR.out.2.2.1 j (by omega), (HR.out.2.1 j hj).2⟩, HR.out.2.2.2⟩
        have hgl : w.heap.size ≤ g := HF.out.2.2.2
        clear HR HF
        go_wp2
        go_loopg [8] (sumW (fun j => j) L.length + 1) (fun gk s8 wx => ∃ (who : Nat → Nat) (ch : Bool), s8 = .bool ch ∧ gk = sumW who L.length + (if ch = true then 1 else 0) ∧ Inv L who ∧ (ch = false → ∀ i e, i < L.length → e < 3 → Ok L who i e) ∧ GWp w wx a L g who)
        case atStart => exact ⟨fun j => j, true, rfl, rfl, inv_id L, by simp, HG.out⟩
        case round =>
          clear HG
          obtain ⟨who, ch, rfl, rfl, hI, hO, hG⟩ := hrel
          have HI : Hid (Inv L who) := hI
          have HO : Hid (ch = false → ∀ i e, i < L.length → e < 3 → Ok L who i e) := hO
          have HG : Hid (GWp w wr a L g who) := hG
          clear hI hO hG
          cases ch
          · go_wp2
            go_ret
            exact ⟨g, rfl, who, HG.out.2.1, HI.out, HO.out (by simp), HG.out.2.2⟩
          · obtain ⟨S0, hS0⟩ : ∃ S, S = sumW who L.length := ⟨_, rfl⟩
            have HS0 : Hid (S0 = sumW who L.length) := hS0
            go_wp2
            go_loopg [8, 9] L.length (fun gk s8 s9 wx => ∃ (i : Nat) (who : Nat → Nat) (ch : Bool), i ≤ L.length ∧ gk = L.length - i ∧ s8 = .bool ch ∧ s9 = .int .i64 (i : Int) ∧ Inv L who ∧ (sumW who L.length ≤ S0 ∧ (ch = true → sumW who L.length < S0)) ∧ (ch = false → ∀ i' e, i' < i → e < 3 → Ok L who i' e) ∧ GWp w wx a L g who)
            case atStart => exact ⟨0, who, false, by omega, rfl, rfl, rfl, HI.out, ⟨by omega, by simp⟩, fun _ i' e h => by omega, HG.out⟩
            case round =>
              clear HG HI HO
              obtain ⟨i, who1, ch, hi, rfl, rfl, rfl, hI, hS, hO, hG⟩ := hrel
              have HI : Hid (Inv L who1 ∧ (sumW who1 L.length ≤ S0 ∧ (ch = true → sumW who1 L.length < S0)) ∧ (ch = false → ∀ i' e, i' < i → e < 3 → Ok L who1 i' e)) := ⟨hI, hS, hO⟩
              have HG : Hid (GWp w wr a L g who1) := hG
              clear hI hS hO hG
              by_cases h1 : i < L.length
              · have i1 : (i : Int) < (L.length : Int) := by omega
                have i0 : (0 : Int) ≤ (i : Int) := by omega
                obtain ⟨ga, rfl, hne, t0, t1, t2⟩ := HG.out.1 i h1
                have hbd := HBD.out _ (List.getElem_mem h1)
                have zg : g < wr.heap.size := World.block_lt_of_cell? _ _ (HG.out.2.1 i h1).1
                obtain ⟨t, ht⟩ : ∃ t, t = L[i] := ⟨_, rfl⟩
                obtain ⟨x, y, k⟩ := t
                rw [← ht] at t0 t1 t2 hbd
                dsimp only at t0 t1 t2 hbd
                have HE : Hid ((x, y, k) = L[i]) := ht
                have HTB : Hid (triB x y k = true ∧ Kd L[i]) := ⟨by simp [triB]; omega, by rw [← ht]; exact hbd.2.2⟩
                have C13 : Hid (∀ W' : World, Calls Tryd.prog 43 #[.agg #[.int .i64 x, .int .i64 y, .int .i64 k]] W' fun e w' => ∃ g, e = .returned (.slice (some ⟨g, 0, none⟩) 3 3) ∧ W'.heap.size ≤ g ∧ Twl w' g (ue0 x y k) (ue1 x y k) (ue2 x y k) (ue3 x y k) (ue4 x y k) (ue5 x y k) (ue6 x y k) (ue7 x y k) (ue8 x y k) (ue9 x y k) (ue10 x y k) (ue11 x y k) ∧ Below W'.heap.size W' w') := fun W' => edgesOf_any x y k W' (by omega) (by omega) (by omega) (by omega) hbd.2.2.1 hbd.2.2.2
                clear ht hbd
                go_wp2_with (go_at_call 43; refine (C13.out _).mono ?_; rintro e w3 ⟨ge, rfl, hge, hM, hb⟩; have HG3 : Hid (GWp w w3 (some ⟨ga, 0, none⟩) L g who1 ∧ Twl w3 ge (ue0 x y k) (ue1 x y k) (ue2 x y k) (ue3 x y k) (ue4 x y k) (ue5 x y k) (ue6 x y k) (ue7 x y k) (ue8 x y k) (ue9 x y k) (ue10 x y k) (ue11 x y k)) := ⟨HG.out.kept hb, hM⟩; have hgg : g < ge := (by omega); clear hge hM hb)
                go_loopg [8, 11] 3 (fun gk s8 s11 wx => ∃ (k' : Nat) (who : Nat → Nat) (ch : Bool), k' ≤ 3 ∧ gk = 3 - k' ∧ s8 = .bool ch ∧ s11 = .int .i64 (k' : Int) ∧ Inv L who ∧ (sumW who L.length ≤ S0 ∧ (ch = true → sumW who L.length < S0)) ∧ (ch = false → (∀ i' e, i' < i → e < 3 → Ok L who i' e) ∧ ∀ e, e < k' → Ok L who i e) ∧ GWp w wx (some ⟨ga, 0, none⟩) L g who ∧ Twl wx ge (ue0 x y k) (ue1 x y k) (ue2 x y k) (ue3 x y k) (ue4 x y k) (ue5 x y k) (ue6 x y k) (ue7 x y k) (ue8 x y k) (ue9 x y k) (ue10 x y k) (ue11 x y k))
                case atStart => exact ⟨0, who1, ch, by omega, rfl, rfl, rfl, HI.out.1, HI.out.2.1, fun h => ⟨HI.out.2.2 h, fun e h => by omega⟩, HG3.out.1, HG3.out.2⟩
                case round =>
                  clear HG HG3 HI t0 t1 t2 zg
                  obtain ⟨k', who2, ch2, hk', rfl, rfl, rfl, hI, hS, hO, hG, hTw⟩ := hrel
                  have HI : Hid (Inv L who2 ∧ (sumW who2 L.length ≤ S0 ∧ (ch2 = true → sumW who2 L.length < S0)) ∧ (ch2 = false → (∀ i' e, i' < i → e < 3 → Ok L who2 i' e) ∧ ∀ e, e < k' → Ok L who2 i e)) := ⟨hI, hS, hO⟩
                  have HG : Hid (GWp w wr (some ⟨ga, 0, none⟩) L g who2 ∧ Twl wr ge (ue0 x y k) (ue1 x y k) (ue2 x y k) (ue3 x y k) (ue4 x y k) (ue5 x y k) (ue6 x y k) (ue7 x y k) (ue8 x y k) (ue9 x y k) (ue10 x y k) (ue11 x y k)) := ⟨hG, hTw⟩
                  clear hI hS hO hG hTw
                  by_cases hk3 : k' < 3
                  · have k1 : (k' : Int) < 3 := by omega
                    have k0 : (0 : Int) ≤ (k' : Int) := by omega
                    obtain ⟨E0, E1, E2, E3, HEG⟩ := edge_of x y k ge k' hk3
                    obtain ⟨ga', ea, hne', t0, t1, t2⟩ := HG.out.1.1 i h1
                    obtain ⟨m0, m1, m2, m3⟩ := HEG.out.2.2 _ HG.out.2
                    simp only [Option.some.injEq, Addr.mk.injEq, and_true] at ea
                    subst ea
                    rw [← HE.out] at t0 t1 t2
                    dsimp only at t0 t1 t2
                    have zt : ga < wr.heap.size := World.block_lt_of_cell? _ _ t0
                    have ze : ge < wr.heap.size := World.block_lt_of_cell? _ _ m0
                    go_wp2
                    go_cut [12, 13] (fun sa sb wx => ∃ g12 : Nat, sa = .pointer (some ⟨g12, 0, none⟩) ∧ sb = .bool true ∧ Tr wx g12 (acX x y k E0 E1 E2 E3) (acY x y k E0 E1 E2 E3) (acK x y k E0 E1 E2 E3) ∧ Below wr.heap.size wr wx)
                    case first =>
                      go_region_held3 (fun w' => w'.cell? ⟨ga, i * 3, none⟩ = some (.int .i64 x) ∧ w'.cell? ⟨ga, i * 3 + 1, none⟩ = some (.int .i64 y) ∧ w'.cell? ⟨ga, i * 3 + 2, none⟩ = some (.int .i64 k) ∧ w'.cell? ⟨ge, k' * 4, none⟩ = some (.int .i64 E0) ∧ w'.cell? ⟨ge, k' * 4 + 1, none⟩ = some (.int .i64 E1) ∧ w'.cell? ⟨ge, k' * 4 + 2, none⟩ = some (.int .i64 E2) ∧ w'.cell? ⟨ge, k' * 4 + 3, none⟩ = some (.int .i64 E3))
                        ((refine ⟨?_, ?_, ?_, ?_, ?_, ?_, ?_⟩ <;> (repeat' (first | (with_reducible assumption) | (with_reducible refine st_far ?_ ?_) | (dsimp only; omega) | (simp [go_sem]; done) | (with_reducible refine al_old ?_) | (with_reducible refine dr_old ?_)))))
                        ((go_at_call 44; refine (acrossOf_yes _ _ _ _ _ _ _ _ HTB.out.1 HEG.out.2.1).mono ?_; rintro e w8 ⟨rfl, hb⟩; have t0_w8 : w8.cell? ⟨ga, i * 3, none⟩ = some (.int .i64 x) := cl_kept hb (by with_reducible (repeat (first | assumption | refine dr_old ?_ | refine al_old ?_))); have t1_w8 : w8.cell? ⟨ga, i * 3 + 1, none⟩ = some (.int .i64 y) := cl_kept hb (by with_reducible (repeat (first | assumption | refine dr_old ?_ | refine al_old ?_))); have t2_w8 : w8.cell? ⟨ga, i * 3 + 2, none⟩ = some (.int .i64 k) := cl_kept hb (by with_reducible (repeat (first | assumption | refine dr_old ?_ | refine al_old ?_))); have m0_w8 : w8.cell? ⟨ge, k' * 4, none⟩ = some (.int .i64 E0) := cl_kept hb (by with_reducible (repeat (first | assumption | refine dr_old ?_ | refine al_old ?_))); have m1_w8 : w8.cell? ⟨ge, k' * 4 + 1, none⟩ = some (.int .i64 E1) := cl_kept hb (by with_reducible (repeat (first | assumption | refine dr_old ?_ | refine al_old ?_))); have m2_w8 : w8.cell? ⟨ge, k' * 4 + 2, none⟩ = some (.int .i64 E2) := cl_kept hb (by with_reducible (repeat (first | assumption | refine dr_old ?_ | refine al_old ?_))); have m3_w8 : w8.cell? ⟨ge, k' * 4 + 3, none⟩ = some (.int .i64 E3) := cl_kept hb (by with_reducible (repeat (first | assumption | refine dr_old ?_ | refine al_old ?_))); (first | (have hfz := fresh_a (g := wr.heap.size) rfl hb; obtain ⟨fy0, fy1, fy2, fz0, fz1, fz2, fz3⟩ := hfz) | (have hfz := fresh_d (g := wr.heap.size) rfl hb; obtain ⟨fy0, fy1, fy2, fz0, fz1, fz2, fz3⟩ := hfz) | (have hfz := fresh_dd (g := wr.heap.size) rfl hb; obtain ⟨fy0, fy1, fy2, fz0, fz1, fz2, fz3⟩ := hfz) | skip); have hq : Below wr.heap.size wr w8 := (by with_reducible (first | exact hb | exact bl_undrew hb | exact bl_undrew (bl_undrew hb) | exact bl_via (bl_alloc (bl_refl _)) hb | exact bl_via (bl_drew (bl_alloc (bl_refl _))) hb | exact bl_via (bl_alloc (bl_drew (bl_refl _))) hb | exact bl_via (bl_drew (bl_alloc (bl_drew (bl_refl _)))) hb)); have HQ : Hid (Below wr.heap.size wr w8) := hq; have zs0 : ga < w8.heap.size := World.block_lt_of_cell? _ _ t0_w8; have zs1 : ge < w8.heap.size := World.block_lt_of_cell? _ _ m0_w8; clear hb hq))
                      all_goals
                        go_wp2
                        go_meet
                        case rel =>
                          refine ⟨_, rfl, rfl, ?_, ?_⟩
                          · first | (simp [Tr, go_sem]; done) | (simp [Tr, go_sem, *]; done)
                          · with_reducible repeat' (first | exact HQ.out | refine bl_set ?_ ?_ | refine bl_alloc ?_ | refine bl_drew ?_)
                            all_goals (first | omega | (dsimp only; omega) | (simp; done))
                    case rest =>
                      obtain ⟨g12, rfl, rfl, hTr, hBc⟩ := hcut
                      have HG1 : Hid (GWp w wc (some ⟨ga, 0, none⟩) L g who2 ∧ Twl wc ge (ue0 x y k) (ue1 x y k) (ue2 x y k) (ue3 x y k) (ue4 x y k) (ue5 x y k) (ue6 x y k) (ue7 x y k) (ue8 x y k) (ue9 x y k) (ue10 x y k) (ue11 x y k)) := ⟨HG.out.1.kept hBc, HG.out.2.kept hBc⟩
                      have HTr : Hid (Tr wc g12 (acX x y k E0 E1 E2 E3) (acY x y k E0 E1 E2 E3) (acK x y k E0 E1 E2 E3)) := hTr
                      clear hTr hBc HG t0 t1 t2 m0 m1 m2 m3 zt ze
                      obtain ⟨n0, n1, n2⟩ := HTr.out
                      have zn : g12 < wc.heap.size := World.block_lt_of_cell? _ _ n0
                      have HPL : Hid (plc L (acr L[i] (edg L[i] k')) = plc L ((acX x y k E0 E1 E2 E3), (acY x y k E0 E1 E2 E3), (acK x y k E0 E1 E2 E3))) := by
                        show plc L (acr L[i] (edg L[i] k')) = plc L ((acX x y k E0 E1 E2 E3), (acY x y k E0 E1 E2 E3), (acK x y k E0 E1 E2 E3))
                        rw [← HE.out, HEG.out.1]
                        rfl
                      rcases plc_bd L ((acX x y k E0 E1 E2 E3), (acY x y k E0 E1 E2 E3), (acK x y k E0 E1 E2 E3)) with hp | ⟨j, hj, hp⟩
                      · have C110 : Hid (∀ W' : World, TRow W' (some ⟨ga, 0, none⟩) L → Calls Tryd.prog 46 #[.slice (some ⟨ga, 0, none⟩) L.length ca, .agg #[.int .i64 (acX x y k E0 E1 E2 E3), .int .i64 (acY x y k E0 E1 E2 E3), .int .i64 (acK x y k E0 E1 E2 E3)]] W' fun e w' => e = .returned (.int .i64 (-1)) ∧ Below W'.heap.size W' w') := fun W' hT => hp ▸ placeOf_any _ ca L _ _ _ W' hT hlen
                        have HOK : Hid (Ok L who2 i k') := fun hi' j' hj' hq => by
                          rw [HPL.out, hp] at hq
                          omega
                        clear hp
                        go_wp2
                        go_quiet (fail)
                        generalize hwe : World.drewN wc _ = we
                        have n0' : we.cell? ⟨g12, 0, none⟩ = some (.int .i64 (acX x y k E0 E1 E2 E3)) := by rw [← hwe]; exact n0
                        have n1' : we.cell? ⟨g12, 1, none⟩ = some (.int .i64 (acY x y k E0 E1 E2 E3)) := by rw [← hwe]; exact n1
                        have n2' : we.cell? ⟨g12, 2, none⟩ = some (.int .i64 (acK x y k E0 E1 E2 E3)) := by rw [← hwe]; exact n2
                        have zn' : g12 < we.heap.size := World.block_lt_of_cell? _ _ n0'
                        have HGe : Hid (GWp w we (some ⟨ga, 0, none⟩) L g who2 ∧ Twl we ge (ue0 x y k) (ue1 x y k) (ue2 x y k) (ue3 x y k) (ue4 x y k) (ue5 x y k) (ue6 x y k) (ue7 x y k) (ue8 x y k) (ue9 x y k) (ue10 x y k) (ue11 x y k)) := by
                          rw [← hwe]
                          exact ⟨HG1.out.1.kept (bl_drewN (bl_refl _)), HG1.out.2.kept (bl_drewN (bl_refl _))⟩
                        clear hwe HG1 n0 n1 n2 zn HTr
                        go_wp2_with (go_at_call 46; refine (C110.out _ (HGe.out.1.1.row)).mono ?_; rintro e w10 ⟨rfl, hb⟩; have HG2 : Hid (GWp w w10 (some ⟨ga, 0, none⟩) L g who2 ∧ Twl w10 ge (ue0 x y k) (ue1 x y k) (ue2 x y k) (ue3 x y k) (ue4 x y k) (ue5 x y k) (ue6 x y k) (ue7 x y k) (ue8 x y k) (ue9 x y k) (ue10 x y k) (ue11 x y k)) := ⟨HGe.out.1.kept hb, HGe.out.2.kept hb⟩; clear hb)
                        go_quiet (fail)
                        go_wp2
                        go_roundg (3 - (k' + 1))
                        case measure => omega
                        case rel =>
                          refine ⟨k' + 1, who2, ch2, by omega, rfl, rfl, by go_num, HI.out.1, HI.out.2.1, fun h => ⟨(HI.out.2.2 h).1, fun e' he' => ?_⟩, HG2.out.1.kept (bl_drewN (bl_refl _)), HG2.out.2.kept (bl_drewN (bl_refl _))⟩
                          by_cases ee : e' = k'
                          · subst ee; exact HOK.out
                          · exact (HI.out.2.2 h).2 e' (by omega)
                      · have C110 : Hid (∀ W' : World, TRow W' (some ⟨ga, 0, none⟩) L → Calls Tryd.prog 46 #[.slice (some ⟨ga, 0, none⟩) L.length ca, .agg #[.int .i64 (acX x y k E0 E1 E2 E3), .int .i64 (acY x y k E0 E1 E2 E3), .int .i64 (acK x y k E0 E1 E2 E3)]] W' fun e w' => e = .returned (.int .i64 (j : Int)) ∧ Below W'.heap.size W' w') := fun W' hT => hp ▸ placeOf_any _ ca L _ _ _ W' hT hlen
                        have HP : Hid (plc L (acr L[i] (edg L[i] k')) = (j : Int)) := HPL.out.trans hp
                        have j1 : (j : Int) < (L.length : Int) := by omega
                        have j0 : (0 : Int) ≤ (j : Int) := by omega
                        clear hp
                        go_wp2
                        go_quiet (fail)
                        generalize hwe : World.drewN wc _ = we
                        have n0' : we.cell? ⟨g12, 0, none⟩ = some (.int .i64 (acX x y k E0 E1 E2 E3)) := by rw [← hwe]; exact n0
                        have n1' : we.cell? ⟨g12, 1, none⟩ = some (.int .i64 (acY x y k E0 E1 E2 E3)) := by rw [← hwe]; exact n1
                        have n2' : we.cell? ⟨g12, 2, none⟩ = some (.int .i64 (acK x y k E0 E1 E2 E3)) := by rw [← hwe]; exact n2
                        have zn' : g12 < we.heap.size := World.block_lt_of_cell? _ _ n0'
                        have HGe : Hid (GWp w we (some ⟨ga, 0, none⟩) L g who2 ∧ Twl we ge (ue0 x y k) (ue1 x y k) (ue2 x y k) (ue3 x y k) (ue4 x y k) (ue5 x y k) (ue6 x y k) (ue7 x y k) (ue8 x y k) (ue9 x y k) (ue10 x y k) (ue11 x y k)) := by
                          rw [← hwe]
                          exact ⟨HG1.out.1.kept (bl_drewN (bl_refl _)), HG1.out.2.kept (bl_drewN (bl_refl _))⟩
                        clear hwe HG1 n0 n1 n2 zn HTr
                        go_wp2_with (go_at_call 46; refine (C110.out _ (HGe.out.1.1.row)).mono ?_; rintro e w10 ⟨rfl, hb⟩; have HG2 : Hid (GWp w w10 (some ⟨ga, 0, none⟩) L g who2 ∧ Twl w10 ge (ue0 x y k) (ue1 x y k) (ue2 x y k) (ue3 x y k) (ue4 x y k) (ue5 x y k) (ue6 x y k) (ue7 x y k) (ue8 x y k) (ue9 x y k) (ue10 x y k) (ue11 x y k)) := ⟨HGe.out.1.kept hb, HGe.out.2.kept hb⟩; clear hb)
                        obtain ⟨ci, fi⟩ := HG2.out.1.2.1 i h1
                        obtain ⟨cj, fj⟩ := HG2.out.1.2.1 j hj
                        by_cases hlt : who2 j < who2 i
                        · have q1 : (who2 j : Int) < (who2 i : Int) := by omega
                          go_quiet (fail)
                          generalize hwd : World.drewN w10 _ = wd
                          have ci' : wd.cell? ⟨g, i, none⟩ = some (.int .i64 (who2 i : Int)) := by rw [← hwd]; exact ci
                          have cj' : wd.cell? ⟨g, j, none⟩ = some (.int .i64 (who2 j : Int)) := by rw [← hwd]; exact cj
                          have fi' : wd.frozen? ⟨g, i, none⟩ = false := by rw [← hwd]; exact fi
                          have HGd : Hid (GWp w wd (some ⟨ga, 0, none⟩) L g who2 ∧ Twl wd ge (ue0 x y k) (ue1 x y k) (ue2 x y k) (ue3 x y k) (ue4 x y k) (ue5 x y k) (ue6 x y k) (ue7 x y k) (ue8 x y k) (ue9 x y k) (ue10 x y k) (ue11 x y k)) := by
                            rw [← hwd]
                            exact ⟨HG2.out.1.kept (bl_drewN (bl_refl _)), HG2.out.2.kept (bl_drewN (bl_refl _))⟩
                          clear ci cj fi fj hwd HG2 HGe n0' n1' n2' zn'
                          go_wp2
                          go_roundg (3 - (k' + 1))
                          case measure => omega
                          case rel => exact ⟨k' + 1, upd who2 i (who2 j), true, by omega, rfl, rfl, by go_num, inv_upd HI.out.1 h1 hj HTB.out.2 HP.out hlt, ⟨Nat.le_trans (Nat.le_of_lt (sum_upd hlt _ h1)) HI.out.2.1.1, fun _ => Nat.lt_of_lt_of_le (sum_upd hlt _ h1) HI.out.2.1.1⟩, by simp, ⟨HGd.out.1.1.set, HGd.out.1.2.1.set h1, bl_set HGd.out.1.2.2 hgl⟩, HGd.out.2.set (by dsimp only; omega)⟩
                        · have q1 : ¬ (who2 j : Int) < (who2 i : Int) := by omega
                          have HOK : Hid (Ok L who2 i k') := fun hi' j' hj' hq => by
                            rw [HP.out] at hq
                            obtain rfl : j = j' := by omega
                            omega
                          go_quiet (fail)
                          go_wp2
                          go_roundg (3 - (k' + 1))
                          case measure => omega
                          case rel =>
                            refine ⟨k' + 1, who2, ch2, by omega, rfl, rfl, by go_num, HI.out.1, HI.out.2.1, fun h => ⟨(HI.out.2.2 h).1, fun e' he' => ?_⟩, HG2.out.1.kept (bl_drewN (bl_refl _)), HG2.out.2.kept (bl_drewN (bl_refl _))⟩
                            by_cases ee : e' = k'
                            · subst ee; exact HOK.out
                            · exact (HI.out.2.2 h).2 e' (by omega)
                  · obtain rfl : k' = 3 := by omega
                    go_wp2
                    go_roundg (L.length - (i + 1))
                    case measure => omega
                    case rel =>
                      refine ⟨i + 1, who2, ch2, by omega, rfl, rfl, by go_num, HI.out.1, HI.out.2.1, fun h i' e hi' he => ?_, HG.out.1⟩
                      by_cases ei : i' = i
                      · subst ei; exact (HI.out.2.2 h).2 e he
                      · exact (HI.out.2.2 h).1 i' e (by omega) he
              · have i1 : ¬ (i : Int) < (L.length : Int) := by omega
                go_wp2
                go_roundg (sumW who1 L.length + (if ch = true then 1 else 0))
                case measure =>
                  have q1 := HI.out.2.1
                  have q2 := HS0.out
                  cases ch
                  · simp
                    omega
                  · have := q1.2 rfl
                    simp
                    omega
                case rel => exact ⟨who1, ch, rfl, rfl, HI.out.1, fun h i' e hi' he => HI.out.2.2 h i' e (by omega) he, HG.out⟩
end Go.Proofs.YtehmoacggikfmaaDoor
