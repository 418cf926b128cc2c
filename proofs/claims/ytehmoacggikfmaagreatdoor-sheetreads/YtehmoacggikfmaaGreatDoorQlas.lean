/- A part of the proof of sheetReads_holds. -/
import Derived.Test.YtehmoacggikfmaaGreatDoorQlag
import Derived.Test.YtehmoacggikfmaaGreatDoorQlap
import Derived.Test.YtehmoacggikfmaaGreatDoorQlar
import Derived.Test.YtehmoacggikfmaaGreatDoorQlal
import Derived.Maps.AppendAt
import Derived.Test.YtehmoacggikfmaaGreatDoorQlac
import Derived.Deep.AppendLies
import Derived.Deep.RegionLaw
namespace Go.Proofs.YtehmoacggikfmaaGreatDoor
open Go.RowKit
attribute [local go_sem ↓] Go.wp_at_zero Go.wp_at_succ

theorem bl_undrew {v u : World} (h : Below v.drew.heap.size v.drew u) : Below v.heap.size v u := bl_via (bl_drew (bl_refl v)) h
/-- Triangles in a row of memory, as a slice has them. -/
def TRow (w : World) (a : Option Addr) (l : List (Int × Int × Int)) : Prop :=
  ∀ i (h : i < l.length), ∃ g, a = some ⟨g, 0, none⟩ ∧ w.cell? ⟨g, i * 3, none⟩ = some (.int .i64 l[i].1) ∧ w.cell? ⟨g, i * 3 + 1, none⟩ = some (.int .i64 l[i].2.1) ∧ w.cell? ⟨g, i * 3 + 2, none⟩ = some (.int .i64 l[i].2.2)
theorem TRow.kept {w wx : World} {a : Option Addr} {l : List (Int × Int × Int)} (h : TRow w a l) (hb : Below w.heap.size w wx) : TRow wx a l := fun i hi => by
  obtain ⟨g, e, h0, h1, h2⟩ := h i hi
  exact ⟨g, e, cl_kept hb h0, cl_kept hb h1, cl_kept hb h2⟩
theorem flatV_at : ∀ (l : List (Int × Int × Int)) (i : Nat) (h : i < l.length), (flatV l)[i * 3]? = some (.int .i64 l[i].1) ∧ (flatV l)[i * 3 + 1]? = some (.int .i64 l[i].2.1) ∧ (flatV l)[i * 3 + 2]? = some (.int .i64 l[i].2.2)
  | t :: l, 0, _ => by simp [flatV]
  | t :: l, i + 1, h => by
    have ih := flatV_at l i (by simpa using h)
    have e : flatV (t :: l) = [Value.int .i64 t.1, .int .i64 t.2.1, .int .i64 t.2.2] ++ flatV l := by simp [flatV]
    rw [e, show (i + 1) * 3 = 3 + i * 3 by omega]
    simp only [List.getElem_cons_succ]
    refine ⟨?_, ?_, ?_⟩
    · rw [List.getElem?_append_right (by simp)]
      simpa using ih.1
    · rw [List.getElem?_append_right (by simp; omega)]
      rw [show 3 + i * 3 + 1 - [Value.int .i64 t.1, Value.int .i64 t.2.1, Value.int .i64 t.2.2].length = i * 3 + 1 by simp; omega]
      exact ih.2.1
    · rw [List.getElem?_append_right (by simp; omega)]
      rw [show 3 + i * 3 + 2 - [Value.int .i64 t.1, Value.int .i64 t.2.1, Value.int .i64 t.2.2].length = i * 3 + 2 by simp; omega]
      exact ih.2.2
theorem own_tris {w : World} {base : Nat} {v : Value} {l : List (Int × Int × Int)} (h : w.ownsRow base 87 3 v l.length (flatV l)) : ∃ a cap, v = .slice a l.length cap ∧ TRow w a l := by
  rcases h.2 with ⟨rfl, h0⟩ | ⟨g, cap, cur, rfl, _⟩
  · exact ⟨none, 0, by rw [h0], fun i hi => by omega⟩
  · refine ⟨some ⟨g, 0, none⟩, cap, rfl, fun i hi => ⟨g, rfl, ?_⟩⟩
    have f := flatV_at l i hi
    exact ⟨(h.cellAt _ (by omega)).trans f.1, (h.cellAt _ (by omega)).trans f.2.1, (h.cellAt _ (by omega)).trans f.2.2⟩

theorem ty_bd {zs : List Int} {W H : Nat} (hW : W ≤ 8) (hH : H ≤ 8) : ∀ t ∈ ty zs W H, (0 ≤ t.1 ∧ t.1 ≤ 8) ∧ (0 ≤ t.2.1 ∧ t.2.1 ≤ 8) ∧ (0 ≤ t.2.2 ∧ t.2.2 ≤ 3) := by
  intro t ht
  simp only [ty, tx, tk, List.mem_flatMap, List.mem_map, List.mem_filter, List.mem_range] at ht
  obtain ⟨y, hy, x, hx, k, ⟨hk, _⟩, rfl⟩ := ht
  dsimp only
  omega

/-- How many of some triangles have an edge. -/
def cnt (l : List (Int × Int × Int)) (p q r s : Int) : Nat := l.countP fun t => hasB t.1 t.2.1 t.2.2 p q r s
theorem cnt_next {l : List (Int × Int × Int)} {p q r s : Int} {i : Nat} (h : i < l.length) : cnt (l.take (i + 1)) p q r s = cnt (l.take i) p q r s + if hasB l[i].1 l[i].2.1 l[i].2.2 p q r s = true then 1 else 0 := by
  unfold cnt
  rw [List.take_succ_eq_append_getElem h, List.countP_append]
  simp [List.countP_cons]
theorem cnt_le (l : List (Int × Int × Int)) (p q r s : Int) (i : Nat) : cnt (l.take i) p q r s ≤ l.length := by
  unfold cnt
  exact Nat.le_trans List.countP_le_length (by simp; omega)

set_option maxRecDepth 100000 in
set_option maxHeartbeats 3200000 in
theorem innerEdge_any (W H b off cap : Nat) (zs : List Int) (c : Value) (p q r s : Int) (w : World) (hr : Row w (some ⟨b, off, none⟩) zs) (hW : 1 ≤ W ∧ W ≤ 8) (hH : 1 ≤ H ∧ H ≤ 8) (hl : zs.length = W * H) (hm : maskB zs = true) :
    Calls Tryz.prog 36 #[.agg #[.int .i64 (W : Int), .int .i64 (H : Int), .slice (some ⟨b, off, none⟩) zs.length cap, c], .agg #[.int .i64 p, .int .i64 q, .int .i64 r, .int .i64 s]] w fun e w' => e = .returned (.bool (decide (cnt (ty zs W H) p q r s = 2))) ∧ Below w.heap.size w w' := by
  have C38 : Hid (∀ W' : World, Below w.heap.size w W' → Calls Tryz.prog 58 #[.agg #[.int .i64 (W : Int), .int .i64 (H : Int), .slice (some ⟨b, off, none⟩) zs.length cap, c]] W' fun e w' => ∃ v, e = .returned v ∧ w'.ownsRow (W'.heap.size + 1) 87 3 v (ty zs W H).length (flatV (ty zs W H)) ∧ Below W'.heap.size W' w') := fun W' hW' => trisOf_any W H b off cap zs c W' (hr.kept hW') hW hH hl hm
  have HBD : Hid (∀ t ∈ ty zs W H, (0 ≤ t.1 ∧ t.1 ≤ 8) ∧ (0 ≤ t.2.1 ∧ t.2.1 ≤ 8) ∧ (0 ≤ t.2.2 ∧ t.2.2 ≤ 3)) := ty_bd hW.2 hH.2
  have hlen : (ty zs W H).length ≤ 256 := by have := ty_len zs W H hW.2; omega
  clear hr hl hm hW hH
  obtain ⟨L, hL⟩ : ∃ L, L = ty zs W H := ⟨_, rfl⟩
  rw [← hL] at C38 HBD hlen ⊢
  clear hL
  go_enter Tryz.func36, Tryz.ntmps36
  go_wp2_with (go_at_call 58; refine (C38.out _ (by with_reducible exact bl_alloc (bl_alloc (bl_refl _)))).mono ?_; rintro e w1 ⟨v, rfl, ho, hb⟩; have hQ : Qd w1 (w.heap.size + 1) p q r s := Qd.kept (by simp [Qd, go_sem]) hb; have hB : Below w.heap.size w w1 := bl_via (bl_alloc (bl_alloc (bl_refl _))) hb; obtain ⟨a, ca, rfl, hT⟩ := own_tris ho; have HW : Hid (Qd w1 (w.heap.size + 1) p q r s ∧ TRow w1 a L ∧ Below w.heap.size w w1) := ⟨hQ, hT, hB⟩; clear hQ hB hT ho hb)
  go_loopg [6, 7] L.length (fun g s6 s7 wx => ∃ i : Nat, i ≤ L.length ∧ g = L.length - i ∧ s6 = .int .i64 ((cnt (L.take i) p q r s : Nat) : Int) ∧ s7 = .int .i64 (i : Int) ∧ Qd wx (w.heap.size + 1) p q r s ∧ TRow wx a L ∧ Below w.heap.size w wx)
  case atStart => exact ⟨0, by omega, rfl, by simp [cnt], rfl, HW.out⟩
  case round =>
    clear HW
    obtain ⟨i, hi, rfl, rfl, rfl, hQ, hT, hB⟩ := hrel
    have HR : Hid (Qd wr (w.heap.size + 1) p q r s ∧ TRow wr a L ∧ Below w.heap.size w wr) := ⟨hQ, hT, hB⟩
    clear hQ hT hB
    obtain ⟨n, hn⟩ : ∃ n, n = cnt (L.take i) p q r s := ⟨_, rfl⟩
    have hn2 : n ≤ 256 := by have := cnt_le L p q r s i; omega
    have HN : Hid (n = cnt (L.take i) p q r s) := hn
    rw [← hn]
    clear hn
    by_cases h1 : i < L.length
    · have i1 : (i : Int) < (L.length : Int) := by omega
      have i0 : (0 : Int) ≤ (i : Int) := by omega
      obtain ⟨q0, q1, q2, q3⟩ := HR.out.1
      obtain ⟨g, rfl, t0, t1, t2⟩ := HR.out.2.1 i h1
      have hbd := HBD.out _ (List.getElem_mem h1)
      obtain ⟨t, ht⟩ : ∃ t, t = L[i] := ⟨_, rfl⟩
      obtain ⟨x, y, k⟩ := t
      rw [← ht] at t0 t1 t2 hbd
      dsimp only at t0 t1 t2 hbd
      have HCN : Hid (cnt (L.take (i + 1)) p q r s = n + if hasB x y k p q r s = true then 1 else 0) := by
        show cnt (L.take (i + 1)) p q r s = n + if hasB x y k p q r s = true then 1 else 0
        rw [cnt_next h1, ← ht, ← HN.out]
      have C53 : Hid (∀ W' : World, Calls Tryz.prog 59 #[.agg #[.int .i64 x, .int .i64 y, .int .i64 k], .agg #[.int .i64 p, .int .i64 q, .int .i64 r, .int .i64 s]] W' fun e w' => e = .returned (.bool (hasB x y k p q r s)) ∧ Below W'.heap.size W' w') := fun W' => hasEdge_any x y k p q r s W' (by omega) (by omega) (by omega) (by omega) (by omega) (by omega)
      clear ht hbd
      have zq : w.heap.size + 1 < wr.heap.size := World.block_lt_of_cell? _ _ q0
      have zg : g < wr.heap.size := World.block_lt_of_cell? _ _ t0
      go_wp2
      go_cut [21] (fun s21 wx => s21 = .bool (hasB x y k p q r s) ∧ Below wr.heap.size wr wx)
      case first =>
        go_region_held3 (fun w' => w'.cell? ⟨g, i * 3, none⟩ = some (.int .i64 x) ∧ w'.cell? ⟨g, i * 3 + 1, none⟩ = some (.int .i64 y) ∧ w'.cell? ⟨g, i * 3 + 2, none⟩ = some (.int .i64 k) ∧ w'.cell? ⟨w.heap.size + 1, 0, none⟩ = some (.int .i64 p) ∧ w'.cell? ⟨w.heap.size + 1, 1, none⟩ = some (.int .i64 q) ∧ w'.cell? ⟨w.heap.size + 1, 2, none⟩ = some (.int .i64 r) ∧ w'.cell? ⟨w.heap.size + 1, 3, none⟩ = some (.int .i64 s))
          ((refine ⟨?_, ?_, ?_, ?_, ?_, ?_, ?_⟩ <;> (repeat' (first | (with_reducible assumption) | (dsimp only; omega) | (simp [go_sem]; done) | (with_reducible refine al_old ?_) | (with_reducible refine dr_old ?_)))))
          ((go_at_call 59; refine (C53.out _).mono ?_; rintro e w8 ⟨rfl, hb⟩; have t0' : w8.cell? ⟨g, i * 3, none⟩ = some (.int .i64 x) := cl_kept hb (by with_reducible (repeat (first | assumption | refine dr_old ?_))); have t1' : w8.cell? ⟨g, i * 3 + 1, none⟩ = some (.int .i64 y) := cl_kept hb (by with_reducible (repeat (first | assumption | refine dr_old ?_))); have t2' : w8.cell? ⟨g, i * 3 + 2, none⟩ = some (.int .i64 k) := cl_kept hb (by with_reducible (repeat (first | assumption | refine dr_old ?_))); have q0' : w8.cell? ⟨w.heap.size + 1, 0, none⟩ = some (.int .i64 p) := cl_kept hb (by with_reducible (repeat (first | assumption | refine dr_old ?_))); have q1' : w8.cell? ⟨w.heap.size + 1, 1, none⟩ = some (.int .i64 q) := cl_kept hb (by with_reducible (repeat (first | assumption | refine dr_old ?_))); have q2' : w8.cell? ⟨w.heap.size + 1, 2, none⟩ = some (.int .i64 r) := cl_kept hb (by with_reducible (repeat (first | assumption | refine dr_old ?_))); have q3' : w8.cell? ⟨w.heap.size + 1, 3, none⟩ = some (.int .i64 s) := cl_kept hb (by with_reducible (repeat (first | assumption | refine dr_old ?_))); have hq : Below wr.heap.size wr w8 := (by with_reducible (first | exact hb | exact bl_undrew hb | exact bl_undrew (bl_undrew hb))); have HQ : Hid (Below wr.heap.size wr w8) := hq; clear hb hq))
        all_goals
          go_wp2
          go_meet
          case rel =>
            refine ⟨rfl, ?_⟩
            with_reducible repeat' (first | exact HQ.out | refine bl_drew ?_)
      case rest =>
        obtain ⟨rfl, hBc⟩ := hcut
        have HC : Hid (Qd wc (w.heap.size + 1) p q r s ∧ TRow wc (some ⟨g, 0, none⟩) L ∧ Below w.heap.size w wc) := ⟨HR.out.1.kept hBc, HR.out.2.1.kept hBc, bl_via HR.out.2.2 hBc⟩
        clear hBc q0 q1 q2 q3 t0 t1 t2 zq zg HR
        cases hh : hasB x y k p q r s
        · have HM : Hid (cnt (L.take (i + 1)) p q r s = n) := by
            show cnt (L.take (i + 1)) p q r s = n
            rw [HCN.out, hh]
            simp
          go_wp2
          go_roundg (L.length - (i + 1))
          case measure => omega
          case rel => exact ⟨i + 1, by omega, rfl, by rw [HM.out], by go_num, HC.out⟩
        · have HM : Hid (cnt (L.take (i + 1)) p q r s = n + 1) := by
            show cnt (L.take (i + 1)) p q r s = n + 1
            rw [HCN.out, hh]
            simp
          go_wp2
          go_roundg (L.length - (i + 1))
          case measure => omega
          case rel => exact ⟨i + 1, by omega, rfl, by rw [HM.out]; go_num, by go_num, HC.out⟩
    · have i1 : ¬ (i : Int) < (L.length : Int) := by omega
      have HM : Hid (n = cnt L p q r s) := by
        show n = cnt L p q r s
        rw [HN.out, List.take_of_length_le (by omega)]
      go_wp2
      go_ret
      refine ⟨ret_bool ?_, HR.out.2.2⟩
      rw [← HM.out]
      rw [Bool.eq_iff_iff]
      simp
      omega

/-- Has a triangle an edge; the edges of a triangle; what lies across one of them. -/
def hasT (t : Int × Int × Int) (e : Int × Int × Int × Int) : Bool := hasB t.1 t.2.1 t.2.2 e.1 e.2.1 e.2.2.1 e.2.2.2
def edg (t : Int × Int × Int) (i : Nat) : Int × Int × Int × Int :=
  if i = 0 then (ue0 t.1 t.2.1 t.2.2, ue1 t.1 t.2.1 t.2.2, ue2 t.1 t.2.1 t.2.2, ue3 t.1 t.2.1 t.2.2)
  else if i = 1 then (ue4 t.1 t.2.1 t.2.2, ue5 t.1 t.2.1 t.2.2, ue6 t.1 t.2.1 t.2.2, ue7 t.1 t.2.1 t.2.2)
  else (ue8 t.1 t.2.1 t.2.2, ue9 t.1 t.2.1 t.2.2, ue10 t.1 t.2.1 t.2.2, ue11 t.1 t.2.1 t.2.2)
def acr (t : Int × Int × Int) (e : Int × Int × Int × Int) : Int × Int × Int :=
  (acX t.1 t.2.1 t.2.2 e.1 e.2.1 e.2.2.1 e.2.2.2, acY t.1 t.2.1 t.2.2 e.1 e.2.1 e.2.2.1 e.2.2.2, acK t.1 t.2.1 t.2.2 e.1 e.2.1 e.2.2.1 e.2.2.2)
/-- A triangle whose kind may be. -/
def Kd (t : Int × Int × Int) : Prop := 0 ≤ t.2.2 ∧ t.2.2 ≤ 3

theorem edg_own (t : Int × Int × Int) (i : Nat) : hasT t (edg t i) = true := by
  unfold edg
  split
  · simp [hasT, hasB, e0, sameB]
  · split
    · simp [hasT, hasB, e1, sameB]
    · simp [hasT, hasB, e2, sameB]
theorem hasT_edg {t : Int × Int × Int} {e : Int × Int × Int × Int} (h : hasT t e = true) : ∃ i, i < 3 ∧ edg t i = e := by
  unfold hasT at h
  rw [hasB_or] at h
  obtain ⟨p, q, r, s⟩ := e
  rcases h with h | h | h
  · exact ⟨0, by omega, by simpa [edg, e0, sameB] using h⟩
  · exact ⟨1, by omega, by simpa [edg, e1, sameB] using h⟩
  · exact ⟨2, by omega, by simpa [edg, e2, sameB] using h⟩

/-- Two triangles with an edge in common. -/
def Adj (t u : Int × Int × Int) : Prop := u ≠ t ∧ ∃ e, hasT t e = true ∧ hasT u e = true
theorem Adj.symm {t u : Int × Int × Int} (h : Adj t u) : Adj u t := ⟨fun e => h.1 e.symm, h.2.imp fun _ he => ⟨he.2, he.1⟩⟩

theorem acr_is {t u : Int × Int × Int} {e : Int × Int × Int × Int} (ht : Kd t) (hu : Kd u) (h1 : hasT t e = true) (h2 : hasT u e = true) (hne : u ≠ t) : u = acr t e := by
  obtain ⟨x, y, k⟩ := t
  obtain ⟨X, Y, K⟩ := u
  obtain ⟨p, q, r, s⟩ := e
  have := across_is x y k p q r s (X - x) (Y - y) K ht.1 ht.2 hu.1 hu.2 h1 ⟨by rw [show x + (X - x) = X by omega, show y + (Y - y) = Y by omega]; exact h2, fun hh => hne (by obtain ⟨a, b, c⟩ := hh; simp; omega)⟩
  simp only [acr, Prod.mk.injEq]
  omega
theorem acr_adj {t : Int × Int × Int} {e : Int × Int × Int × Int} (ht : Kd t) (h1 : hasT t e = true) : hasT (acr t e) e = true ∧ acr t e ≠ t ∧ Kd (acr t e) := by
  obtain ⟨x, y, k⟩ := t
  obtain ⟨p, q, r, s⟩ := e
  obtain ⟨dx, dy, l, _, _, hl, ho⟩ := across_has x y k p q r s ht.1 ht.2 h1
  have h := across_is x y k p q r s dx dy l ht.1 ht.2 hl.1 hl.2 h1 ho
  have e : acr (x, y, k) (p, q, r, s) = (x + dx, y + dy, l) := by simp only [acr, Prod.mk.injEq]; omega
  rw [e]
  exact ⟨ho.1, fun hh => ho.2 (by simpa using hh), hl⟩
theorem adj_iff {t u : Int × Int × Int} (ht : Kd t) (hu : Kd u) : Adj t u ↔ ∃ i, i < 3 ∧ u = acr t (edg t i) := by
  constructor
  · rintro ⟨hne, e, h1, h2⟩
    obtain ⟨i, hi, rfl⟩ := hasT_edg h1
    exact ⟨i, hi, acr_is ht hu h1 h2 hne⟩
  · rintro ⟨i, _, rfl⟩
    have h := acr_adj ht (edg_own t i)
    exact ⟨h.2.1, _, edg_own t i, h.1⟩

/-- One comes from a triangle to another across edges, through triangles of a list. -/
def Reach (l : List (Int × Int × Int)) (t u : Int × Int × Int) : Prop := t ∈ l ∧ ∀ p : Int × Int × Int → Prop, p t → (∀ a b, p a → b ∈ l → Adj a b → p b) → p u
theorem Reach.here {l : List (Int × Int × Int)} {t : Int × Int × Int} (h : t ∈ l) : Reach l t t := ⟨h, fun _ k _ => k⟩
theorem Reach.step {l : List (Int × Int × Int)} {t u v : Int × Int × Int} (h : Reach l t u) (hv : v ∈ l) (ha : Adj u v) : Reach l t v := ⟨h.1, fun p k s => s _ _ (h.2 p k s) hv ha⟩
theorem Reach.ind {l : List (Int × Int × Int)} {t : Int × Int × Int} {motive : ∀ u, Reach l t u → Prop} (here : ∀ h : t ∈ l, motive t (Reach.here h))
    (step : ∀ {u v} (h : Reach l t u) (hv : v ∈ l) (ha : Adj u v), motive u h → motive v (Reach.step h hv ha)) {u : Int × Int × Int} (h : Reach l t u) : motive u h := by
  obtain ⟨_, m⟩ := h.2 (fun x => ∃ k : Reach l t x, motive x k) ⟨Reach.here h.1, here h.1⟩ (fun _ _ ⟨_, m⟩ hb hab => ⟨_, step _ hb hab m⟩)
  exact m
theorem Reach.mem {l : List (Int × Int × Int)} {t u : Int × Int × Int} (h : Reach l t u) : t ∈ l ∧ u ∈ l := by
  induction h using Reach.ind with
  | here h => exact ⟨h, h⟩
  | step _ hv _ ih => exact ⟨ih.1, hv⟩
theorem Reach.trans {l : List (Int × Int × Int)} {t u v : Int × Int × Int} (h : Reach l t u) (k : Reach l u v) : Reach l t v := by
  induction k using Reach.ind with
  | here _ => exact h
  | step _ hv ha ih => exact ih.step hv ha
theorem Reach.symm {l : List (Int × Int × Int)} {t u : Int × Int × Int} (h : Reach l t u) : Reach l u t := by
  induction h using Reach.ind with
  | here h => exact .here h
  | step h hv ha ih => exact ((Reach.here hv).step h.mem.2 ha.symm).trans ih

theorem nodup_inj {l : List (Int × Int × Int)} (hn : l.Nodup) {i j : Nat} (hi : i < l.length) (hj : j < l.length) (e : l[i] = l[j]) : i = j := by
  have hp := List.pairwise_iff_getElem.1 hn
  rcases Nat.lt_trichotomy i j with h | h | h
  · exact absurd e (hp i j hi hj h)
  · exact h
  · exact absurd e.symm (hp j i hj hi h)

/-- All triangles of a list are joined to its first. -/
def Joined (l : List (Int × Int × Int)) : Prop := ∃ h : 0 < l.length, ∀ i (hi : i < l.length), Reach l l[0] l[i]

/-- The least that each is joined to, found: all are 0 just where all are joined. -/
theorem who_joined {l : List (Int × Int × Int)} (hn : l.Nodup) (h0 : 0 < l.length) (who : Nat → Nat)
    (h1 : ∀ i (hi : i < l.length), who i ≤ i ∧ ∃ hw : who i < l.length, Reach l l[i] l[who i])
    (h2 : ∀ i j (hi : i < l.length) (hj : j < l.length), Adj l[i] l[j] → who i ≤ who j) :
    (∀ i, i < l.length → who i = 0) ↔ Joined l := by
  constructor
  · intro h
    refine ⟨h0, fun i hi => ?_⟩
    obtain ⟨_, _, hr⟩ := h1 i hi
    simp only [h i hi] at hr
    exact hr.symm
  · rintro ⟨_, h⟩ i hi
    have key : ∀ t, Reach l l[0] t → ∀ j (hj : j < l.length), l[j] = t → who j = 0 := by
      intro t ht
      generalize hz : l[0] = z at ht
      induction ht using Reach.ind with
      | here hm =>
        intro j hj e
        have : j = 0 := nodup_inj hn hj h0 (e.trans hz.symm)
        have := (h1 j hj).1
        omega
      | @step u v hr hv ha ih =>
        intro j hj e
        obtain ⟨i', hi', e'⟩ := List.getElem_of_mem hr.mem.2
        have w0 := ih i' hi' e'
        have := h2 j i' hj hi' (by rw [e, e']; exact ha.symm)
        omega
    exact key _ (h i hi) i hi rfl

/-- What is reached from the first, closed under what is across: all just where all are joined. -/
theorem reached_joined {l : List (Int × Int × Int)} (h0 : 0 < l.length) (R : Nat → Prop) (hz : R 0)
    (h1 : ∀ i (hi : i < l.length), R i → Reach l l[0] l[i])
    (h2 : ∀ i j (hi : i < l.length) (hj : j < l.length), R i → Adj l[i] l[j] → R j) (hn : l.Nodup) :
    (∀ i, i < l.length → R i) ↔ Joined l := by
  constructor
  · exact fun h => ⟨h0, fun i hi => h1 i hi (h i hi)⟩
  · rintro ⟨_, h⟩ i hi
    have key : ∀ t, Reach l l[0] t → ∀ j (hj : j < l.length), l[j] = t → R j := by
      intro t ht
      generalize hz' : l[0] = z at ht
      induction ht using Reach.ind with
      | here hm =>
        intro j hj e
        have : j = 0 := nodup_inj hn hj h0 (e.trans hz'.symm)
        exact this ▸ hz
      | @step u v hr hv ha ih =>
        intro j hj e
        obtain ⟨i', hi', e'⟩ := List.getElem_of_mem hr.mem.2
        exact h2 i' j hi' hj (ih i' hi' e') (by rw [e, e']; exact ha)
    exact key _ (h i hi) i hi rfl

theorem tk_nodup (zs : List Int) (W x y : Nat) : ∀ n, (tk zs W x y n).Nodup
  | 0 => by simp [tk]
  | n + 1 => by
    cases h : bitAt zs W x y n
    · rw [tk_no h]; exact tk_nodup zs W x y n
    · rw [tk_yes h, List.nodup_append]
      refine ⟨tk_nodup zs W x y n, by simp, ?_⟩
      intro a ha b hb
      simp [tk] at ha hb
      obtain ⟨k, ⟨hk, _⟩, rfl⟩ := ha
      subst hb
      simp
      omega
theorem tx_nodup (zs : List Int) (W y : Nat) : ∀ n, (tx zs W y n).Nodup
  | 0 => by simp [tx]
  | n + 1 => by
    rw [tx_succ, List.nodup_append]
    refine ⟨tx_nodup zs W y n, tk_nodup _ _ _ _ _, ?_⟩
    intro a ha b hb
    simp only [tx, tk, List.mem_flatMap, List.mem_map, List.mem_filter, List.mem_range] at ha hb
    obtain ⟨x, hx, k, _, rfl⟩ := ha
    obtain ⟨k', _, rfl⟩ := hb
    simp
    omega
theorem ty_nodup (zs : List Int) (W : Nat) : ∀ n, (ty zs W n).Nodup
  | 0 => by simp [ty]
  | n + 1 => by
    rw [ty_succ, List.nodup_append]
    refine ⟨ty_nodup zs W n, tx_nodup _ _ _ _, ?_⟩
    intro a ha b hb
    simp only [ty, tx, tk, List.mem_flatMap, List.mem_map, List.mem_filter, List.mem_range] at ha hb
    obtain ⟨y, hy, x, hx, k, _, rfl⟩ := ha
    obtain ⟨x', _, k', _, rfl⟩ := hb
    simp
    omega

end Go.Proofs.YtehmoacggikfmaaGreatDoor
namespace Go.Proofs.YtehmoacggikfmaaGreatDoor
open Go.RowKit Go.ChangeMaps

/-- Which triangles of a list have an edge. -/
def gix (l : List (Int × Int × Int)) (e : Int × Int × Int × Int) : List Int := ((List.range l.length).filter fun i => hasT (l.getD i (0, 0, 0)) e).map fun (i : Nat) => (i : Int)
theorem gix_nil (e : Int × Int × Int × Int) : gix [] e = [] := rfl
theorem gix_snoc (l : List (Int × Int × Int)) (t : Int × Int × Int) (e : Int × Int × Int × Int) : gix (l ++ [t]) e = gix l e ++ if hasT t e = true then [(l.length : Int)] else [] := by
  unfold gix
  rw [List.length_append, List.length_singleton, List.range_succ, List.filter_append, List.map_append]
  congr 1
  · congr 1
    apply List.filter_congr
    intro i hi
    have hi' : i < l.length := by simpa using hi
    simp [hi', List.getElem_append_left, Nat.lt_succ_of_lt hi']
  · have e1 : (l ++ [t]).getD l.length (0, 0, 0) = t := by simp
    cases h : hasT t e
    · simp [h]
    · simp [h]
theorem gix_len (l : List (Int × Int × Int)) (e : Int × Int × Int × Int) : (gix l e).length ≤ l.length := by
  unfold gix
  rw [List.length_map]
  exact Nat.le_trans (List.length_filter_le _ _) (by simp)
theorem gix_mem {l : List (Int × Int × Int)} {e : Int × Int × Int × Int} {j : Int} : j ∈ gix l e ↔ ∃ i : Nat, ∃ h : i < l.length, j = (i : Int) ∧ hasT l[i] e = true := by
  unfold gix
  simp only [List.mem_map, List.mem_filter, List.mem_range]
  constructor
  · rintro ⟨i, ⟨hi, ht⟩, rfl⟩
    exact ⟨i, hi, rfl, by simpa [hi] using ht⟩
  · rintro ⟨i, hi, rfl, ht⟩
    exact ⟨i, ⟨hi, by simpa [hi] using ht⟩, rfl⟩

/-- Of each edge its triangles, in memory: rows apart from one another and from the row of the triangles. -/
def GP (w : World) (base ra : Nat) (vt : Value) (G : Int × Int × Int × Int → List Int) : Prop :=
  ∃ ls clock, EM w ra ls clock ∧ Good ls clock ∧ (∀ e, lk ls e = none → G e = []) ∧
    (∀ e v, lk ls e = some v → w.ownsRow base 3 1 v (G e).length ((G e).map (Value.int .i64)) ∧ G e ≠ [] ∧ (vt.ownBlock = none ∨ v.ownBlock ≠ vt.ownBlock)) ∧
    (∀ e e' v v', e ≠ e' → lk ls e = some v → lk ls e' = some v' → v.ownBlock ≠ v'.ownBlock)

theorem own_some {w : World} {base : Nat} {e : TypeId} {size : Nat} {v : Value} {n : Nat} {xs : List Value} (h : w.ownsRow base e size v n xs) (hn : 0 < n) : ∃ g, v.ownBlock = some g ∧ base ≤ g ∧ g < w.heap.size := by
  rcases h.2 with ⟨rfl, h0⟩ | ⟨g, cap, cur, rfl, h2, h3, h4⟩
  · omega
  · refine ⟨g, by simp [Value.ownBlock], h2, ?_⟩
    exact (Array.getElem?_eq_some_iff.1 h3).1
theorem own_lt {w : World} {base : Nat} {e : TypeId} {size : Nat} {v : Value} {n : Nat} {xs : List Value} (h : w.ownsRow base e size v n xs) : ∀ g, v.ownBlock = some g → base ≤ g ∧ g < w.heap.size := fun g hg => h.lt g hg

theorem EM.lt {w : World} {r : Nat} {ls : List ((Int × Int × Int × Int) × Value × Nat)} {c : Nat} (h : EM w r ls c) : r < w.heap.size := (Array.getElem?_eq_some_iff.1 h).1
theorem EM.grown {w w' : World} {r : Nat} {ls : List ((Int × Int × Int × Int) × Value × Nat)} {c : Nat} {row : Option Nat} (h : EM w r ls c) (hg : w.grownBy w' row) (hne : some r ≠ row) : EM w' r ls c := (hg.block r h.lt hne).trans h
theorem bl_grown {w v : World} (h : Below w.heap.size w v) : w.grownBy v none := ⟨h.os, h.tape, h.output, h.size, fun k hk _ => h.block k hk⟩

theorem GP.kept {w w' : World} {base ra : Nat} {vt : Value} {G : Int × Int × Int × Int → List Int} (h : GP w base ra vt G) (hb : Below w.heap.size w w') : GP w' base ra vt G := by
  obtain ⟨ls, c, h1, h2, h3, h4, h5⟩ := h
  refine ⟨ls, c, h1.grown (bl_grown hb) (by simp), h2, h3, fun e v he => ?_, h5⟩
  obtain ⟨a1, a2, a3⟩ := h4 e v he
  exact ⟨own_below a1 hb, a2, a3⟩
/-- The row of the triangles is written, or made anew. -/
theorem GP.other {w w' : World} {base ra : Nat} {vt vt' : Value} {G : Int × Int × Int × Int → List Int} (h : GP w base ra vt G) (hra : ra < base) (hg : w.grownBy w' vt.ownBlock) (hvt : ∀ g, vt.ownBlock = some g → base ≤ g) (hl : vt'.ownBlock = vt.ownBlock ∨ vt'.ownBlock = some w.heap.size) : GP w' base ra vt' G := by
  obtain ⟨ls, c, h1, h2, h3, h4, h5⟩ := h
  refine ⟨ls, c, h1.grown hg (fun e => by have := hvt _ e.symm; omega), h2, h3, fun e v he => ?_, h5⟩
  obtain ⟨a1, a2, a3⟩ := h4 e v he
  obtain ⟨g, hg1, hg2, hg3⟩ := own_some a1 (List.length_pos_iff.2 a2)
  refine ⟨a1.kept hg ?_, a2, ?_⟩
  · rcases a3 with a3 | a3
    · rw [hg1, a3]
      exact Or.inr (by simp)
    · exact Or.inr a3
  · rcases hl with hl | hl
    · rw [hl]
      exact a3
    · rw [hl, hg1]
      refine Or.inr (fun e => ?_)
      simp at e
      omega

theorem zero70 (w : World) : (zeroValue 22).run Tryz.prog w = .ok (.slice none 0 0) w := by kernel_rfl

/-- An edge gets one triangle more: the entry, what is appended to it, the store. -/
theorem GP.entry {w : World} {base ra : Nat} {vt : Value} {G : Int × Int × Int × Int → List Int} (h : GP w base ra vt G) (hra : ra < base) (hvt : ∀ g, vt.ownBlock = some g → g < w.heap.size) (e : Int × Int × Int × Int) (n : Int) :
    ∃ v0 st W2, (Instr.mapEntry 36 (.map (some ra)) (ek e)).run Tryz.prog w = .ok (.tuple #[v0, .int .i64 st]) W2 ∧ w.grownBy W2 (some ra) ∧ W2.heap.size = w.heap.size ∧ W2.ownsRow base 3 1 v0 (G e).length ((G e).map (Value.int .i64)) ∧
      ∀ v' W3, W2.grownBy W3 v0.ownBlock → W3.ownsRow base 3 1 v' ((G e).length + 1) ((G e).map (Value.int .i64) ++ [.int .i64 n]) → (v'.ownBlock = v0.ownBlock ∨ v'.ownBlock = some W2.heap.size) →
        ∃ W4, (Instr.entryStore 36 (.map (some ra)) (.int .i64 st) v').run Tryz.prog W3 = .ok () W4 ∧ W3.grownBy W4 (some ra) ∧ GP W4 base ra vt (fun j => if j = e then G e ++ [n] else G j) := by
  obtain ⟨ls, c, h1, h2, h3, h4, h5⟩ := h
  obtain ⟨st, ls1, c1, hrun, hst⟩ := entry27 Tryz.underlying36 zero70 h1 h2 e
  have hb := h1
  unfold EM at hb
  have hg1 := grown_set hb (.map (ls1.map toE).toArray c1)
  have hne : ∀ {W : World} {v : Value} {n : Nat} {xs : List Value}, W.ownsRow base 3 1 v n xs → v.ownBlock = none ∨ v.ownBlock ≠ some ra := fun {W v n xs} ho => by
    cases hu : v.ownBlock with
    | none => exact Or.inl rfl
    | some g =>
      refine Or.inr (fun e1 => ?_)
      have := (ho.lt g hu).1
      simp at e1
      omega
  have hv0 : (setBlock w ra (.map (ls1.map toE).toArray c1)).ownsRow base 3 1 ((lk ls e).getD (.slice none 0 0)) (G e).length ((G e).map (Value.int .i64)) := by
    cases hl : lk ls e with
    | none =>
      rw [h3 e hl]
      exact World.ownsRow_nil _ _ _ _
    | some v =>
      have a := (h4 e v hl).1
      exact a.kept hg1 (hne a)
  have hsz : (setBlock w ra (.map (ls1.map toE).toArray c1)).heap.size = w.heap.size := by simp [setBlock]
  refine ⟨_, (st : Int), _, hrun, hg1, hsz, hv0, fun v' W3 hg2 hown hloc => ?_⟩
  obtain ⟨ls', c', g1, g2, _, g3⟩ := hst v'
  have hem : EM W3 ra ls1 c1 := by
    have e0 : EM (setBlock w ra (.map (ls1.map toE).toArray c1)) ra ls1 c1 := heap_setBlock_same hb _
    refine e0.grown hg2 ?_
    rcases hne hv0 with e1 | e1
    · rw [e1]
      simp
    · exact fun e2 => e1 e2.symm
  have hg3 := grown_set hem (.map (ls'.map toE).toArray c')
  refine ⟨_, g3 W3 hem, hg3, ls', c', heap_setBlock_same hem _, g1, fun j hj => ?_, fun j v hj => ?_, fun j j' v v2 hjj hj hj' => ?_⟩
  · rw [g2 j] at hj
    by_cases e1 : j = e
    · rw [if_pos e1] at hj
      cases hj
    · rw [if_neg e1] at hj
      dsimp only
      rw [if_neg e1]
      exact h3 j hj
  · rw [g2 j] at hj
    by_cases e1 : j = e
    · dsimp only
      rw [if_pos e1] at hj ⊢
      simp at hj
      subst hj
      refine ⟨?_, by simp, ?_⟩
      · have := hown.kept hg3 (hne hown)
        simpa using this
      · rcases hloc with hl | hl
        · cases hlk : lk ls e with
          | none =>
            rw [hlk] at hl
            have : v'.ownBlock = none := by rw [hl]; rfl
            obtain ⟨g, hg, _⟩ := own_some hown (by omega)
            rw [hg] at this
            cases this
          | some v =>
            rw [hlk] at hl
            rw [hl]
            exact (h4 e v hlk).2.2
        · rw [hl]
          cases hvb : vt.ownBlock with
          | none => exact Or.inl rfl
          | some g =>
            have := hvt g hvb
            refine Or.inr (fun e2 => ?_)
            simp at e2
            omega
    · dsimp only
      rw [if_neg e1] at hj ⊢
      obtain ⟨a1, a2, a3⟩ := h4 j v hj
      refine ⟨?_, a2, a3⟩
      have b1 := a1.kept hg1 (hne a1)
      have b2 : W3.ownsRow base 3 1 v (G j).length ((G j).map (Value.int .i64)) := by
        refine b1.kept hg2 ?_
        cases hlk : lk ls e with
        | none =>
          obtain ⟨g, hg, _⟩ := own_some a1 (List.length_pos_iff.2 a2)
          rw [hg]
          exact Or.inr (by simp [Value.ownBlock])
        | some v0 => exact Or.inr (h5 j e v v0 e1 hj hlk)
      exact b2.kept hg3 (hne b2)
  · rw [g2 j] at hj
    rw [g2 j'] at hj'
    have fresh : ∀ i u, i ≠ e → lk ls i = some u → u.ownBlock ≠ v'.ownBlock := fun i u hi hu => by
      obtain ⟨a1, a2, _⟩ := h4 i u hu
      obtain ⟨g, hg, _, hg3⟩ := own_some a1 (List.length_pos_iff.2 a2)
      rcases hloc with hl | hl
      · cases hlk : lk ls e with
        | none =>
          rw [hlk] at hl
          rw [hl, hg]
          simp [Value.ownBlock]
        | some v0 =>
          rw [hlk] at hl
          rw [hl]
          exact h5 i e u v0 hi hu hlk
      · rw [hl, hg, hsz]
        intro e2
        simp at e2
        omega
    by_cases e1 : j = e
    · rw [if_pos e1] at hj
      rw [if_neg (fun e2 => hjj (e1.trans e2.symm))] at hj'
      simp at hj
      subst hj
      exact fun e2 => fresh j' v2 (fun e3 => hjj (e1.trans e3.symm)) hj' e2.symm
    · rw [if_neg e1] at hj
      by_cases e3 : j' = e
      · rw [if_pos e3] at hj'
        simp at hj'
        subst hj'
        exact fresh j v e1 hj
      · rw [if_neg e3] at hj'
        exact h5 j j' v v2 hjj hj hj'

/-- The paper's own three cells. -/
def Pc (w : World) (pb ra rk : Nat) (vt : Value) : Prop :=
  w.cell? ⟨pb, 0, none⟩ = some vt ∧ w.cell? ⟨pb, 1, none⟩ = some (.map (some ra)) ∧ w.cell? ⟨pb, 2, none⟩ = some (.map (some rk)) ∧ w.frozen? ⟨pb, 0, none⟩ = false
theorem Pc.lt {w : World} {pb ra rk : Nat} {vt : Value} (h : Pc w pb ra rk vt) : pb < w.heap.size := World.block_lt_of_cell? _ _ h.1
theorem Pc.grown {w w' : World} {pb ra rk : Nat} {vt : Value} {row : Option Nat} (h : Pc w pb ra rk vt) (hg : w.grownBy w' row) (hne : some pb ≠ row) : Pc w' pb ra rk vt :=
  ⟨hg.cell h.1 hne, hg.cell h.2.1 hne, hg.cell h.2.2.1 hne, (World.frozen?_of_block (a := ⟨pb, 0, none⟩) (hg.block pb h.lt hne)).trans h.2.2.2⟩
theorem Pc.apart {w : World} {pb ra rk r : Nat} {vt : Value} {ls : List ((Int × Int × Int × Int) × Value × Nat)} {c : Nat} (h : Pc w pb ra rk vt) (he : EM w r ls c) : pb ≠ r := by
  rintro rfl
  have := h.1
  unfold EM at he
  simp [World.cell?, he] at this

/-- The paper: its cells, its triangles, of each edge which have it; no crease yet; all of it newer than w0. -/
def PP (w0 w : World) (base pb ra rk : Nat) (vt : Value) (L : List (Int × Int × Int)) (G : Int × Int × Int × Int → List Int) : Prop :=
  Pc w pb ra rk vt ∧ w.ownsRow base 87 3 vt L.length (flatV L) ∧ GP w base ra vt G ∧ (∃ c, EM w rk [] c ∧ Good [] c) ∧ (w0.heap.size ≤ pb ∧ pb < base ∧ w0.heap.size ≤ ra ∧ ra < base ∧ w0.heap.size ≤ rk ∧ rk < base ∧ ra ≠ rk ∧ base ≤ w.heap.size) ∧ Below w0.heap.size w0 w
theorem PP.kept {w0 w w' : World} {base pb ra rk : Nat} {vt : Value} {L : List (Int × Int × Int)} {G : Int × Int × Int × Int → List Int} (h : PP w0 w base pb ra rk vt L G) (hb : Below w.heap.size w w') : PP w0 w' base pb ra rk vt L G := by
  obtain ⟨h1, h2, h3, ⟨c, h4, h4g⟩, ⟨a1, a2, a3, a4, a5, a6, a7, a8⟩, h6⟩ := h
  exact ⟨h1.grown (bl_grown hb) (by simp), own_below h2 hb, h3.kept hb, ⟨c, h4.grown (bl_grown hb) (by simp), h4g⟩, ⟨a1, a2, a3, a4, a5, a6, a7, Nat.le_trans a8 hb.size⟩, bl_via h6 hb⟩

theorem PP.entry {w0 wr w : World} {base pb ra rk : Nat} {vt : Value} {L : List (Int × Int × Int)} {G : Int × Int × Int × Int → List Int} (h : PP w0 wr base pb ra rk vt L G) (hb : Below wr.heap.size wr w) (e : Int × Int × Int × Int) (n : Int) :
    ∃ v0 st W2, (Instr.mapEntry 36 (.map (some ra)) (ek e)).run Tryz.prog w = .ok (.tuple #[v0, .int .i64 st]) W2 ∧ w.grownBy W2 (some ra) ∧ W2.heap.size = w.heap.size ∧ W2.ownsRow base 3 1 v0 (G e).length ((G e).map (Value.int .i64)) ∧ (∀ g, v0.ownBlock = some g → base ≤ g ∧ g < wr.heap.size) ∧
      ∀ v' W3, W2.grownBy W3 v0.ownBlock → W3.ownsRow base 3 1 v' ((G e).length + 1) ((G e).map (Value.int .i64) ++ [.int .i64 n]) → (v'.ownBlock = v0.ownBlock ∨ v'.ownBlock = some W2.heap.size) →
        ∃ W4, (Instr.entryStore 36 (.map (some ra)) (.int .i64 st) v').run Tryz.prog W3 = .ok () W4 ∧ W3.grownBy W4 (some ra) ∧ PP w0 W4 base pb ra rk vt L (fun j => if j = e then G e ++ [n] else G j) := by
  have hk := h.kept hb
  obtain ⟨h1, h2, h3, ⟨c, h4, h4g⟩, ⟨a1, a2, a3, a4, a5, a6, a7, a8⟩, h6⟩ := hk
  have hemr : ∃ ls c, EM w ra ls c := by
    obtain ⟨ls, c, q, _⟩ := h3
    exact ⟨ls, c, q⟩
  obtain ⟨lsr, cr, hemr⟩ := hemr
  obtain ⟨v0, st, W2, r1, r2, r3, r4, r5⟩ := h3.entry a4 (fun g hg => (own_lt h2 g hg).2) e n
  have htop : ∀ g, v0.ownBlock = some g → base ≤ g ∧ g < wr.heap.size := by
    obtain ⟨q1, q2, ⟨ls, cl, b1, b2, b3, b4, b5⟩, q3⟩ := h
    have b1' : EM w ra ls cl := b1.grown (bl_grown hb) (by simp)
    obtain ⟨st', ls1, c1, hrun, _⟩ := entry27 Tryz.underlying36 zero70 b1' b2 e
    rw [hrun] at r1
    simp only [Result.ok.injEq, Value.tuple.injEq, Array.mk.injEq, List.cons.injEq] at r1
    obtain ⟨⟨rfl, _⟩, _⟩ := r1
    intro g hg
    cases hl : lk ls e with
    | none =>
      rw [hl] at hg
      simp [Value.ownBlock] at hg
    | some v =>
      rw [hl] at hg
      exact own_lt (b4 e v hl).1 g hg
  refine ⟨v0, st, W2, r1, r2, r3, r4, htop, fun v' W3 g1 g2 g3 => ?_⟩
  obtain ⟨W4, s1, s2, s3⟩ := r5 v' W3 g1 g2 g3
  have hrow : ∀ k : Nat, k < base → some k ≠ v0.ownBlock := fun k hk e1 => by
    have := (htop k e1.symm).1
    omega
  have hrowt : vt.ownBlock = none ∨ vt.ownBlock ≠ some ra := by
    cases hu : vt.ownBlock with
    | none => exact Or.inl rfl
    | some g =>
      refine Or.inr (fun e1 => ?_)
      have := (own_lt h2 g hu).1
      simp at e1
      omega
  have hvv : vt.ownBlock = none ∨ vt.ownBlock ≠ v0.ownBlock := by
    obtain ⟨ls, cl, b1, b2, b3, b4, b5⟩ := h3
    obtain ⟨st', ls1, c1, hrun, _⟩ := entry27 Tryz.underlying36 zero70 b1 b2 e
    rw [hrun] at r1
    simp only [Result.ok.injEq, Value.tuple.injEq, Array.mk.injEq, List.cons.injEq] at r1
    obtain ⟨⟨rfl, _⟩, _⟩ := r1
    cases hl : lk ls e with
    | none =>
      cases hu : vt.ownBlock with
      | none => exact Or.inl rfl
      | some g => exact Or.inr (by simp [Value.ownBlock])
    | some v =>
      rcases (b4 e v hl).2.2 with q | q
      · exact Or.inl q
      · exact Or.inr (fun e1 => q e1.symm)
  have hpa : some pb ≠ some ra := fun e1 => h1.apart hemr (by simpa using e1)
  refine ⟨W4, s1, s2, ((h1.grown r2 hpa).grown g1 (hrow pb a2)).grown s2 hpa, ((h2.kept r2 hrowt).kept g1 hvv).kept s2 hrowt, s3, ⟨c, ((h4.grown r2 (fun e1 => a7 (by simp at e1; exact e1.symm))).grown g1 (hrow rk a6)).grown s2 (fun e1 => a7 (by simp at e1; exact e1.symm)), h4g⟩, ⟨a1, a2, a3, a4, a5, a6, a7, Nat.le_trans a8 (Nat.le_trans r2.size (Nat.le_trans g1.size s2.size))⟩, ?_⟩
  have hlt : w0.heap.size ≤ w.heap.size := h6.size
  have k1 := h6.grown r2 hlt (fun k hk => by simp at hk; omega)
  have k2 := k1.grown g1 (Nat.le_trans hlt r2.size) (fun k hk => by have := (htop k hk).1; omega)
  exact k2.grown s2 (Nat.le_trans hlt (Nat.le_trans r2.size g1.size)) (fun k hk => by simp at hk; omega)

/-- The triangles get one more, and the paper's cell is written anew. -/
theorem PP.pushed {w0 wr w w3 : World} {base pb ra rk g cap : Nat} {vt : Value} {L : List (Int × Int × Int)} {t : Int × Int × Int} {G : Int × Int × Int × Int → List Int} (h : PP w0 wr base pb ra rk vt L G) (hb : Below wr.heap.size wr w) (hg : w.grownBy w3 vt.ownBlock)
    (hown : w3.ownsRow base 87 3 (.slice (some ⟨g, 0, none⟩) (L.length + 1) cap) (L.length + 1) (flatV L ++ [.int .i64 t.1, .int .i64 t.2.1, .int .i64 t.2.2])) (hl : vt.ownBlock = some g ∨ g = w.heap.size) :
    PP w0 (w3.setCell ⟨pb, 0, none⟩ (.slice (some ⟨g, 0, none⟩) (L.length + 1) cap)) base pb ra rk (.slice (some ⟨g, 0, none⟩) (L.length + 1) cap) (L ++ [t]) G := by
  obtain ⟨h1, h2, h3, ⟨c, h4, h4g⟩, ⟨a1, a2, a3, a4, a5, a6, a7, a8⟩, h6⟩ := h.kept hb
  have hrow : ∀ k : Nat, k < base → some k ≠ vt.ownBlock := fun k hk e1 => by
    have := (own_lt h2 k e1.symm).1
    omega
  have hvb : (Value.slice (some ⟨g, 0, none⟩) (L.length + 1) cap).ownBlock = some g := rfl
  have p1 := h1.grown hg (hrow pb a2)
  have hemr : ∃ ls c, EM w ra ls c := by
    obtain ⟨ls, c, q, _⟩ := h3
    exact ⟨ls, c, q⟩
  obtain ⟨lsr, cr, hemr⟩ := hemr
  have hpa : pb ≠ ra := h1.apart hemr
  have hpk : pb ≠ rk := h1.apart h4
  have gp := h3.other (vt' := .slice (some ⟨g, 0, none⟩) (L.length + 1) cap) a4 hg (fun g hg => (own_lt h2 g hg).1) (by
    rw [hvb]
    rcases hl with q | q
    · exact Or.inl q.symm
    · exact Or.inr (by rw [q]))
  have hs : w3.grownBy (w3.setCell ⟨pb, 0, none⟩ (.slice (some ⟨g, 0, none⟩) (L.length + 1) cap)) (some pb) := by
    have hb := Below.setCell (w := w3) (p := ⟨pb, 0, none⟩) (Below.refl pb w3) (Nat.le_refl _) (.slice (some ⟨g, 0, none⟩) (L.length + 1) cap)
    exact ⟨hb.os, hb.tape, hb.output, hb.size, fun k _ hk => by
      have : k ≠ pb := fun e1 => hk (by rw [e1])
      exact Below.heap_setCell _ _ _ k this⟩
  have hgb : base ≤ g := (own_lt hown g hvb).1
  have hgs : some g ≠ some pb := fun e1 => by
    simp at e1
    omega
  refine ⟨⟨?_, ?_, ?_, ?_⟩, ?_, ?_, ⟨c, (h4.grown hg (hrow rk a6)).grown hs (fun e1 => hpk (by simpa using e1.symm)), h4g⟩, ⟨a1, a2, a3, a4, a5, a6, a7, Nat.le_trans a8 (Nat.le_trans hg.size hs.size)⟩, ?_⟩
  · exact World.cell?_setCell_same _ _ _ p1.1
  · exact (World.cell?_setCell_other _ _ _ _ (by simp)).trans p1.2.1
  · exact (World.cell?_setCell_other _ _ _ _ (by simp)).trans p1.2.2.1
  · exact (World.frozen?_setCell _ _ _ _).trans p1.2.2.2
  · rw [List.length_append, List.length_singleton, flatV_add]
    exact hown.kept hs (Or.inr (by rw [hvb]; exact hgs))
  · obtain ⟨ls, cl, b1, b2, b3, b4, b5⟩ := gp
    refine ⟨ls, cl, b1.grown hs (fun e1 => hpa (by simpa using e1.symm)), b2, b3, fun e v he => ?_, b5⟩
    obtain ⟨q1, q2, q3⟩ := b4 e v he
    refine ⟨q1.kept hs ?_, q2, q3⟩
    obtain ⟨g', e1, e2, _⟩ := own_some q1 (List.length_pos_iff.2 q2)
    rw [e1]
    exact Or.inr (fun e3 => by simp at e3; omega)
  · have k1 := h6.grown hg h6.size (fun k hk => by have := (own_lt h2 k hk).1; omega)
    exact k1.grown hs (Nat.le_trans h6.size hg.size) (fun k hk => by simp at hk; omega)

theorem edg_ne {t : Int × Int × Int} (ht : Kd t) : edg t 0 ≠ edg t 1 ∧ edg t 0 ≠ edg t 2 ∧ edg t 1 ≠ edg t 2 := by
  obtain ⟨x, y, k⟩ := t
  have hk : k = 0 ∨ k = 1 ∨ k = 2 ∨ k = 3 := by
    have h1 := ht.1
    have h2 := ht.2
    simp only at h1 h2
    omega
  have o0 := edg_own (x, y, k) 0
  have q : ∀ i, i < 3 → edg (x, y, k) i = if i = 0 then (ue0 x y k, ue1 x y k, ue2 x y k, ue3 x y k) else if i = 1 then (ue4 x y k, ue5 x y k, ue6 x y k, ue7 x y k) else (ue8 x y k, ue9 x y k, ue10 x y k, ue11 x y k) := fun i _ => rfl
  have r0 : e0 x y k (ue0 x y k) (ue1 x y k) (ue2 x y k) (ue3 x y k) = true := by simp [e0, sameB]
  have r1 : e1 x y k (ue4 x y k) (ue5 x y k) (ue6 x y k) (ue7 x y k) = true := by simp [e1, sameB]
  have r2 : e2 x y k (ue8 x y k) (ue9 x y k) (ue10 x y k) (ue11 x y k) = true := by simp [e2, sameB]
  rw [q 0 (by omega), q 1 (by omega), q 2 (by omega)]
  simp only [if_pos, Nat.one_ne_zero, show ¬ (2 : Nat) = 0 by omega, show ¬ (2 : Nat) = 1 by omega, if_false, ne_eq, Prod.mk.injEq]
  rcases hk with rfl | rfl | rfl | rfl <;> simp only [e0_0, e0_1, e0_2, e0_3, e1_0, e1_1, e1_2, e1_3, e2_0, e2_1, e2_2, e2_3] at r0 r1 r2 <;> omega

/-- Of each edge its triangles, once the first i edges of one more have been told. -/
def Gi (L : List (Int × Int × Int)) (t : Int × Int × Int) (i : Nat) : Int × Int × Int × Int → List Int := fun e =>
  gix L e ++ if (0 < i ∧ e = edg t 0) ∨ (1 < i ∧ e = edg t 1) ∨ (2 < i ∧ e = edg t 2) then [(L.length : Int)] else []
theorem Gi_zero (L : List (Int × Int × Int)) (t : Int × Int × Int) : Gi L t 0 = gix L := by
  funext e
  simp [Gi]
theorem Gi_three (L : List (Int × Int × Int)) (t : Int × Int × Int) : Gi L t 3 = gix (L ++ [t]) := by
  funext e
  rw [gix_snoc]
  unfold Gi
  by_cases h : hasT t e = true
  · obtain ⟨i, hi, he⟩ := hasT_edg h
    have : i = 0 ∨ i = 1 ∨ i = 2 := by omega
    rw [if_pos h, if_pos]
    rcases this with rfl | rfl | rfl
    · exact Or.inl ⟨by omega, he.symm⟩
    · exact Or.inr (Or.inl ⟨by omega, he.symm⟩)
    · exact Or.inr (Or.inr ⟨by omega, he.symm⟩)
  · rw [if_neg h, if_neg]
    rintro (⟨_, e1⟩ | ⟨_, e1⟩ | ⟨_, e1⟩) <;> exact h (by rw [e1]; exact edg_own _ _)
theorem Gi_len (L : List (Int × Int × Int)) (t : Int × Int × Int) (i : Nat) (e : Int × Int × Int × Int) : (Gi L t i e).length ≤ L.length + 1 := by
  unfold Gi
  rw [List.length_append]
  have := gix_len L e
  split <;> simp <;> omega
theorem Gi_step (L : List (Int × Int × Int)) {t : Int × Int × Int} (ht : Kd t) (i : Nat) (hi : i < 3) : (fun j => if j = edg t i then Gi L t i (edg t i) ++ [(L.length : Int)] else Gi L t i j) = Gi L t (i + 1) := by
  obtain ⟨n1, n2, n3⟩ := edg_ne ht
  funext e
  have : i = 0 ∨ i = 1 ∨ i = 2 := by omega
  rcases this with rfl | rfl | rfl
  · by_cases h : e = edg t 0 <;> simp [Gi, h]
  · by_cases h : e = edg t 1
    · subst h
      simp [Gi, n1.symm]
    · simp [Gi, h]
  · by_cases h : e = edg t 2
    · subst h
      simp [Gi, n2.symm, n3.symm]
    · simp [Gi, h]

theorem idx32 (a0 a1 a2 a3 a4 a5 a6 a7 a8 a9 a10 a11 : Int) (w : World) :
    (Instr.index 111 (.agg #[.int .i64 a0, .int .i64 a1, .int .i64 a2, .int .i64 a3, .int .i64 a4, .int .i64 a5, .int .i64 a6, .int .i64 a7, .int .i64 a8, .int .i64 a9, .int .i64 a10, .int .i64 a11]) (.int .i64 0)).run Tryz.prog w = .ok (.agg #[.int .i64 a0, .int .i64 a1, .int .i64 a2, .int .i64 a3]) w ∧
    (Instr.index 111 (.agg #[.int .i64 a0, .int .i64 a1, .int .i64 a2, .int .i64 a3, .int .i64 a4, .int .i64 a5, .int .i64 a6, .int .i64 a7, .int .i64 a8, .int .i64 a9, .int .i64 a10, .int .i64 a11]) (.int .i64 1)).run Tryz.prog w = .ok (.agg #[.int .i64 a4, .int .i64 a5, .int .i64 a6, .int .i64 a7]) w ∧
    (Instr.index 111 (.agg #[.int .i64 a0, .int .i64 a1, .int .i64 a2, .int .i64 a3, .int .i64 a4, .int .i64 a5, .int .i64 a6, .int .i64 a7, .int .i64 a8, .int .i64 a9, .int .i64 a10, .int .i64 a11]) (.int .i64 2)).run Tryz.prog w = .ok (.agg #[.int .i64 a8, .int .i64 a9, .int .i64 a10, .int .i64 a11]) w := by
  refine ⟨?_, ?_, ?_⟩ <;> kernel_rfl
def TB (w : World) (B : Nat) (x y k : Int) : Prop := w.heap[B]? = some (.cells #[.int .i64 x, .int .i64 y, .int .i64 k] 87)
theorem TB.tr {w : World} {B : Nat} {x y k : Int} (h : TB w B x y k) : Tr w B x y k := by
  unfold TB at h
  simp [Tr, World.cell?, h]
theorem TB.lt {w : World} {B : Nat} {x y k : Int} (h : TB w B x y k) : B < w.heap.size := (Array.getElem?_eq_some_iff.1 h).1
theorem TB.grown {w w' : World} {B : Nat} {x y k : Int} {row : Option Nat} (h : TB w B x y k) (hg : w.grownBy w' row) (hne : some B ≠ row) : TB w' B x y k := (hg.block B h.lt hne).trans h
theorem TB.not_row {w : World} {B base n : Nat} {x y k : Int} {v : Value} {xs : List Value} (h : TB w B x y k) (ho : w.ownsRow base 3 1 v n xs) : some B ≠ v.ownBlock := by
  rcases ho.2 with ⟨rfl, _⟩ | ⟨g, cap, cur, rfl, _, hgb, _⟩
  · simp [Value.ownBlock]
  · intro e
    obtain rfl : B = g := by simpa [Value.ownBlock] using e
    unfold TB at h
    rw [h] at hgb
    simp at hgb
theorem TB.ne_map {w : World} {B r c : Nat} {x y k : Int} {ls : List ((Int × Int × Int × Int) × Value × Nat)} (h : TB w B x y k) (he : EM w r ls c) : some B ≠ some r := by
  intro e
  obtain rfl : B = r := by simpa using e
  unfold EM at he
  unfold TB at h
  rw [h] at he
  cases he
theorem cell_one {w : World} {g : Nat} (v : Value) (h : w.cell? ⟨g, 0, none⟩ = some v) : ∀ j u, [v][j]? = some u → w.cell? ((⟨g, 0, none⟩ : Addr).add j) = some u := by
  intro j u hu
  match j, hu with
  | 0, hu => simp at hu; subst hu; simpa [Addr.add] using h
theorem one_cell (n : Int) : ∀ u ∈ [Value.int .i64 n], u.oneCell' = true := by
  intro u hu
  simp at hu
  subst hu
  rfl

theorem three_cell (x y k : Int) : ∀ u ∈ [Value.int .i64 x, .int .i64 y, .int .i64 k], u.oneCell' = true := by
  intro u hu
  simp at hu
  rcases hu with rfl | rfl | rfl <;> rfl

set_option maxRecDepth 100000 in
set_option maxHeartbeats 6400000 in
theorem add_any (w0 : World) (x y k : Int) (base pb ra rk ccap : Nat) (ad : Option Addr) (L : List (Int × Int × Int)) (w : World) (h : triB x y k = true) (hs : Steps w0) (hL : L.length ≤ 300) (hp : PP w0 w base pb ra rk (.slice ad L.length ccap) L (gix L)) :
    Calls Tryz.prog 45 #[.pointer (some ⟨pb, 0, none⟩), .agg #[.int .i64 x, .int .i64 y, .int .i64 k]] w fun e w' => e = .returned (.tuple #[]) ∧ ∃ ad' ccap', PP w0 w' base pb ra rk (.slice ad' (L.length + 1) ccap') (L ++ [(x, y, k)]) (gix (L ++ [(x, y, k)])) := by
  have HS : Hid (Steps w0) := hs
  have hk : Kd (x, y, k) := by
    have := h
    simp only [triB, decide_eq_true_eq] at this
    exact ⟨this.1, this.2.1⟩
  have HK : Hid (Kd (x, y, k)) := hk
  obtain ⟨i3, hi3, hz30, hz31, hz32⟩ := info_parts inf3
  have HI : Hid (Tryz.prog.info? 3 = some i3 ∧ i3.zero = some (.int .i64 0) ∧ i3.size = 1 ∧ i3.bytes = 8) := ⟨hi3, hz30, hz31, hz32⟩
  obtain ⟨i23, hi23, hz230, hz231, hz232⟩ := info_parts inf23
  have HI23 : Hid (Tryz.prog.info? 87 = some i23 ∧ i23.zero = some (.agg #[.int .i64 0, .int .i64 0, .int .i64 0]) ∧ i23.size = 3 ∧ i23.bytes = 24) := ⟨hi23, hz230, hz231, hz232⟩
  have HP : Hid (PP w0 w base pb ra rk (.slice ad L.length ccap) L (gix L)) := hp
  obtain ⟨vt, hvt⟩ : ∃ v, v = Value.slice ad L.length ccap := ⟨_, rfl⟩
  clear hs hi3 hz30 hz31 hz32 hi23 hz230 hz231 hz232 hp hk
  go_enter Tryz.func45, Tryz.ntmps45
  go_wp2_with (go_at_call 71; refine (paperEdges_any _ _ _ _ h (HS.out.kept (bl_alloc HP.out.2.2.2.2.2))).mono ?_; rintro e w2 ⟨rfl, hb⟩; have HQ2 : Hid (PP w0 w2 base pb ra rk (.slice ad L.length ccap) L (gix L) ∧ TB w2 w.heap.size x y k) := ⟨HP.out.kept (bl_via (bl_alloc (bl_refl _)) hb), (hb.block w.heap.size (by simp)).trans (heap_alloc_new w _)⟩; clear hb)
  go_loopg [8] 3 (fun g s8 wx => ∃ i : Nat, i ≤ 3 ∧ g = 3 - i ∧ s8 = .int .i64 (i : Int) ∧ PP w0 wx base pb ra rk (.slice ad L.length ccap) L (Gi L (x, y, k) i) ∧ TB wx w.heap.size x y k)
  case atStart => exact ⟨0, by omega, rfl, rfl, by rw [Gi_zero]; exact HQ2.out.1, HQ2.out.2⟩
  case round =>
    clear HP HQ2
    obtain ⟨i, hi, rfl, rfl, hP, hQ⟩ := hrel
    obtain ⟨x0, x1, x2⟩ := idx32 (ue0 x y k) (ue1 x y k) (ue2 x y k) (ue3 x y k) (ue4 x y k) (ue5 x y k) (ue6 x y k) (ue7 x y k) (ue8 x y k) (ue9 x y k) (ue10 x y k) (ue11 x y k) wr
    by_cases h1 : i < 3
    · have h01 : i = 0 ∨ i = 1 ∨ i = 2 := by omega
      rcases h01 with rfl | rfl | rfl
      · have HP : Hid (PP w0 wr base pb ra rk (.slice ad L.length ccap) L (Gi L (x, y, k) 0)) := hP
        have HQ : Hid (TB wr w.heap.size x y k) := hQ
        have hk := HK.out
        clear hP hQ
        go_wp2
        refine wp_named (fun W0 hW0 => ?_)
        have hB0 : Below wr.heap.size wr W0 := by rw [hW0]; exact bl_alloc (bl_refl _)
        have HB0 : Hid (Below wr.heap.size wr W0) := hB0
        have HP0 : Hid (PP w0 W0 base pb ra rk (.slice ad L.length ccap) L (Gi L (x, y, k) 0)) := HP.out.kept hB0
        have c0 : W0.cell? ⟨pb, 0, none⟩ = some (.slice ad L.length ccap) := HP0.out.1.1
        have c1 : W0.cell? ⟨pb, 1, none⟩ = some (.map (some ra)) := HP0.out.1.2.1
        have c2 : W0.cell? ⟨wr.heap.size, 0, none⟩ = some (.int .i64 (ue0 x y k)) := by rw [hW0]; simp [go_sem]
        have c3 : W0.cell? ⟨wr.heap.size, 1, none⟩ = some (.int .i64 (ue1 x y k)) := by rw [hW0]; simp [go_sem]
        have c4 : W0.cell? ⟨wr.heap.size, 2, none⟩ = some (.int .i64 (ue2 x y k)) := by rw [hW0]; simp [go_sem]
        have c5 : W0.cell? ⟨wr.heap.size, 3, none⟩ = some (.int .i64 (ue3 x y k)) := by rw [hW0]; simp [go_sem]
        have z1 : wr.heap.size + 1 = W0.heap.size := by rw [hW0]; simp
        clear hW0 hB0
        obtain ⟨v0, st, W2, hrun, hg2, hz2, hown, htop, hback⟩ := HP.out.entry (w := (W0.alloc (.cells #[.int .i64 (L.length : Int)] 3)).drew) (bl_drew (bl_alloc HB0.out)) (edg (x, y, k) 0) (L.length : Int)
        have hrun' : (Instr.mapEntry 36 (.map (some ra)) (.agg #[.int .i64 (ue0 x y k), .int .i64 (ue1 x y k), .int .i64 (ue2 x y k), .int .i64 (ue3 x y k)])).run Tryz.prog (W0.alloc (.cells #[.int .i64 (L.length : Int)] 3)).drew = .ok (.tuple #[v0, .int .i64 st]) W2 := hrun
        clear hrun
        have a4 := HP.out.2.2.2.2.1
        have hne0 : some pb ≠ some ra := fun e => by
          obtain ⟨ls, c, q, _⟩ := HP.out.2.2.1
          exact HP.out.1.apart q (by simpa using e)
        have hne1 : some wr.heap.size ≠ some ra := fun e => by
          simp at e
          omega
        have m0 : W2.cell? ⟨pb, 0, none⟩ = some (.slice ad L.length ccap) := hg2.cell (w := (W0.alloc (.cells #[.int .i64 (L.length : Int)] 3)).drew) (al_old c0) (by exact hne0)
        have m1 : W2.cell? ⟨pb, 1, none⟩ = some (.map (some ra)) := hg2.cell (w := (W0.alloc (.cells #[.int .i64 (L.length : Int)] 3)).drew) (al_old c1) (by exact hne0)
        have m2 : W2.cell? ⟨wr.heap.size, 0, none⟩ = some (.int .i64 (ue0 x y k)) := hg2.cell (w := (W0.alloc (.cells #[.int .i64 (L.length : Int)] 3)).drew) (al_old c2) (by exact hne1)
        have m3 : W2.cell? ⟨wr.heap.size, 1, none⟩ = some (.int .i64 (ue1 x y k)) := hg2.cell (w := (W0.alloc (.cells #[.int .i64 (L.length : Int)] 3)).drew) (al_old c3) (by exact hne1)
        have m4 : W2.cell? ⟨wr.heap.size, 2, none⟩ = some (.int .i64 (ue2 x y k)) := hg2.cell (w := (W0.alloc (.cells #[.int .i64 (L.length : Int)] 3)).drew) (al_old c4) (by exact hne1)
        have m5 : W2.cell? ⟨wr.heap.size, 3, none⟩ = some (.int .i64 (ue3 x y k)) := hg2.cell (w := (W0.alloc (.cells #[.int .i64 (L.length : Int)] 3)).drew) (al_old c5) (by exact hne1)
        have hnw : W2.cell? ⟨W0.heap.size, 0, none⟩ = some (.int .i64 (L.length : Int)) := hg2.cell (w := (W0.alloc (.cells #[.int .i64 (L.length : Int)] 3)).drew) (by simp [go_sem]) (fun e => by simp at e; omega)
        have hW2 : W2.heap.size = W0.heap.size + 1 := by simpa using hz2
        have HG2 : Hid (base ≤ W2.heap.size ∧ (Gi L (x, y, k) 0 (edg (x, y, k) 0)).length + 1 ≤ 1000) := ⟨by omega, Nat.succ_le_succ (Nat.le_trans (Gi_len L (x, y, k) 0 _) (by omega))⟩
        have HNA : Hid (∀ (W3 : World), W2.grownBy W3 v0.ownBlock → ∀ a v, (a.block = pb ∨ a.block = wr.heap.size) → W2.cell? a = some v → W3.cell? a = some v) := fun W3 hg a v ha hc => hg.cell hc (fun e => by
          have := htop _ e.symm
          rcases ha with ha | ha <;> omega)
        have hneT : some w.heap.size ≠ some ra := by
          obtain ⟨ls, c, q, _⟩ := HP.out.2.2.1
          exact HQ.out.ne_map q
        have HT2 : Hid (TB W2 w.heap.size x y k) := TB.grown (w := (W0.alloc (.cells #[.int .i64 (L.length : Int)] 3)).drew) (HQ.out.grown (bl_grown (bl_drew (bl_alloc HB0.out))) (by simp)) hg2 hneT
        have HOW : Hid (W2.ownsRow base 3 1 v0 (Gi L (x, y, k) 0 (edg (x, y, k) 0)).length ((Gi L (x, y, k) 0 (edg (x, y, k) 0)).map (Value.int .i64))) := hown
        have HBK : Hid (∀ g cap W3, W2.grownBy W3 v0.ownBlock → W3.ownsRow base 3 1 (.slice (some ⟨g, 0, none⟩) ((Gi L (x, y, k) 0 (edg (x, y, k) 0)).length + 1) cap) ((Gi L (x, y, k) 0 (edg (x, y, k) 0)).length + 1) ((Gi L (x, y, k) 0 (edg (x, y, k) 0)).map (Value.int .i64) ++ [.int .i64 (L.length : Int)]) → (v0.ownBlock = some g ∨ g = W2.heap.size) →
          ∃ W4, (Instr.entryStore 36 (.map (some ra)) (.int .i64 st) (.slice (some ⟨g, 0, none⟩) ((Gi L (x, y, k) 0 (edg (x, y, k) 0)).length + 1) cap)).run Tryz.prog W3 = .ok () W4 ∧ W3.grownBy W4 (some ra) ∧ PP w0 W4 base pb ra rk (.slice ad L.length ccap) L (Gi L (x, y, k) (0 + 1))) := fun g cap W3 q1 q2 q3 => by
          obtain ⟨W4, s1, s2, s3⟩ := hback (.slice (some ⟨g, 0, none⟩) ((Gi L (x, y, k) 0 (edg (x, y, k) 0)).length + 1) cap) W3 q1 q2 (q3.imp (fun q => q.symm) (fun q => by rw [q]; rfl))
          exact ⟨W4, s1, s2, Gi_step L hk 0 (by omega) ▸ s3⟩
        clear hown hback htop hg2 hz2 a4 HP0
        obtain ⟨nG, hnG⟩ : ∃ m, m = (Gi L (x, y, k) 0 (edg (x, y, k) 0)).length := ⟨_, rfl⟩
        obtain ⟨xG, hxG⟩ : ∃ m, m = (Gi L (x, y, k) 0 (edg (x, y, k) 0)).map (Value.int .i64) := ⟨_, rfl⟩
        rw [← hnG, ← hxG] at HOW
        rw [← hnG] at HG2
        rw [← hnG, ← hxG] at HBK
        clear hnG hxG
        go_region_held3 (fun w' => w'.cell? ⟨pb, 0, none⟩ = some (.slice ad L.length ccap) ∧ w'.cell? ⟨pb, 1, none⟩ = some (.map (some ra)) ∧ w'.cell? ⟨wr.heap.size, 0, none⟩ = some (.int .i64 (ue0 x y k)) ∧ w'.cell? ⟨wr.heap.size, 1, none⟩ = some (.int .i64 (ue1 x y k)) ∧ w'.cell? ⟨wr.heap.size, 2, none⟩ = some (.int .i64 (ue2 x y k)) ∧ w'.cell? ⟨wr.heap.size, 3, none⟩ = some (.int .i64 (ue3 x y k)))
          ((first | (refine ⟨?_, ?_, ?_, ?_, ?_, ?_⟩ <;> (first | (with_reducible assumption) | (with_reducible refine dr_old ?_; with_reducible assumption) | (with_reducible refine dr_old ?_; with_reducible refine al_old ?_; with_reducible assumption) | (refine HNA.out _ hgrow _ _ ?_ (by with_reducible assumption); simp; done) | (refine hgw4.cell (HNA.out _ hgrow _ _ (by simp; done) (by with_reducible assumption)) (by with_reducible assumption)))))) 
          (((refine step_append_lies _ (by rfl) (.tmp 16) (.tmp 22) 22 (by rfl) base 3 i3 (.int .i64 0) 1 8 Tryz.underlying22 HI.out.1 HI.out.2.1 HI.out.2.2.1 HI.out.2.2.2 rfl (by decide) v0 nG xG (by rfl) HOW.out ⟨W0.heap.size, 0, none⟩ 1 1 [.int .i64 (L.length : Int)] (by rfl) rfl (cell_one _ hnw) (one_cell _) (by decide) (by have := HG2.out.2; unfold maxLen; omega) (by have := HG2.out.2; omega) HG2.out.1 W2.heap.size rfl ?_; intro g cap W3 hown3 hgrow hat hlt; obtain ⟨W4, hst, hgw4, hPP4⟩ := HBK.out g cap W3 hgrow hown3 hat; have HP4 : Hid (PP w0 W4 base pb ra rk (.slice ad L.length ccap) L (Gi L (x, y, k) (0 + 1))) := hPP4; have HT4 : Hid (TB W4 w.heap.size x y k) := (HT2.out.grown hgrow (HT2.out.not_row HOW.out)).grown hgw4 hneT; clear hPP4 hown3 hat)))
        go_wp2
        go_roundg (3 - (0 + 1))
        case measure => omega
        case rel => exact ⟨0 + 1, by omega, rfl, by go_num, HP4.out, HT4.out⟩
      · have HP : Hid (PP w0 wr base pb ra rk (.slice ad L.length ccap) L (Gi L (x, y, k) 1)) := hP
        have HQ : Hid (TB wr w.heap.size x y k) := hQ
        have hk := HK.out
        clear hP hQ
        go_wp2
        refine wp_named (fun W0 hW0 => ?_)
        have hB0 : Below wr.heap.size wr W0 := by rw [hW0]; exact bl_alloc (bl_refl _)
        have HB0 : Hid (Below wr.heap.size wr W0) := hB0
        have HP0 : Hid (PP w0 W0 base pb ra rk (.slice ad L.length ccap) L (Gi L (x, y, k) 1)) := HP.out.kept hB0
        have c0 : W0.cell? ⟨pb, 0, none⟩ = some (.slice ad L.length ccap) := HP0.out.1.1
        have c1 : W0.cell? ⟨pb, 1, none⟩ = some (.map (some ra)) := HP0.out.1.2.1
        have c2 : W0.cell? ⟨wr.heap.size, 0, none⟩ = some (.int .i64 (ue4 x y k)) := by rw [hW0]; simp [go_sem]
        have c3 : W0.cell? ⟨wr.heap.size, 1, none⟩ = some (.int .i64 (ue5 x y k)) := by rw [hW0]; simp [go_sem]
        have c4 : W0.cell? ⟨wr.heap.size, 2, none⟩ = some (.int .i64 (ue6 x y k)) := by rw [hW0]; simp [go_sem]
        have c5 : W0.cell? ⟨wr.heap.size, 3, none⟩ = some (.int .i64 (ue7 x y k)) := by rw [hW0]; simp [go_sem]
        have z1 : wr.heap.size + 1 = W0.heap.size := by rw [hW0]; simp
        clear hW0 hB0
        obtain ⟨v0, st, W2, hrun, hg2, hz2, hown, htop, hback⟩ := HP.out.entry (w := (W0.alloc (.cells #[.int .i64 (L.length : Int)] 3)).drew) (bl_drew (bl_alloc HB0.out)) (edg (x, y, k) 1) (L.length : Int)
        have hrun' : (Instr.mapEntry 36 (.map (some ra)) (.agg #[.int .i64 (ue4 x y k), .int .i64 (ue5 x y k), .int .i64 (ue6 x y k), .int .i64 (ue7 x y k)])).run Tryz.prog (W0.alloc (.cells #[.int .i64 (L.length : Int)] 3)).drew = .ok (.tuple #[v0, .int .i64 st]) W2 := hrun
        clear hrun
        have a4 := HP.out.2.2.2.2.1
        have hne0 : some pb ≠ some ra := fun e => by
          obtain ⟨ls, c, q, _⟩ := HP.out.2.2.1
          exact HP.out.1.apart q (by simpa using e)
        have hne1 : some wr.heap.size ≠ some ra := fun e => by
          simp at e
          omega
        have m0 : W2.cell? ⟨pb, 0, none⟩ = some (.slice ad L.length ccap) := hg2.cell (w := (W0.alloc (.cells #[.int .i64 (L.length : Int)] 3)).drew) (al_old c0) (by exact hne0)
        have m1 : W2.cell? ⟨pb, 1, none⟩ = some (.map (some ra)) := hg2.cell (w := (W0.alloc (.cells #[.int .i64 (L.length : Int)] 3)).drew) (al_old c1) (by exact hne0)
        have m2 : W2.cell? ⟨wr.heap.size, 0, none⟩ = some (.int .i64 (ue4 x y k)) := hg2.cell (w := (W0.alloc (.cells #[.int .i64 (L.length : Int)] 3)).drew) (al_old c2) (by exact hne1)
        have m3 : W2.cell? ⟨wr.heap.size, 1, none⟩ = some (.int .i64 (ue5 x y k)) := hg2.cell (w := (W0.alloc (.cells #[.int .i64 (L.length : Int)] 3)).drew) (al_old c3) (by exact hne1)
        have m4 : W2.cell? ⟨wr.heap.size, 2, none⟩ = some (.int .i64 (ue6 x y k)) := hg2.cell (w := (W0.alloc (.cells #[.int .i64 (L.length : Int)] 3)).drew) (al_old c4) (by exact hne1)
        have m5 : W2.cell? ⟨wr.heap.size, 3, none⟩ = some (.int .i64 (ue7 x y k)) := hg2.cell (w := (W0.alloc (.cells #[.int .i64 (L.length : Int)] 3)).drew) (al_old c5) (by exact hne1)
        have hnw : W2.cell? ⟨W0.heap.size, 0, none⟩ = some (.int .i64 (L.length : Int)) := hg2.cell (w := (W0.alloc (.cells #[.int .i64 (L.length : Int)] 3)).drew) (by simp [go_sem]) (fun e => by simp at e; omega)
        have hW2 : W2.heap.size = W0.heap.size + 1 := by simpa using hz2
        have HG2 : Hid (base ≤ W2.heap.size ∧ (Gi L (x, y, k) 1 (edg (x, y, k) 1)).length + 1 ≤ 1000) := ⟨by omega, Nat.succ_le_succ (Nat.le_trans (Gi_len L (x, y, k) 1 _) (by omega))⟩
        have HNA : Hid (∀ (W3 : World), W2.grownBy W3 v0.ownBlock → ∀ a v, (a.block = pb ∨ a.block = wr.heap.size) → W2.cell? a = some v → W3.cell? a = some v) := fun W3 hg a v ha hc => hg.cell hc (fun e => by
          have := htop _ e.symm
          rcases ha with ha | ha <;> omega)
        have hneT : some w.heap.size ≠ some ra := by
          obtain ⟨ls, c, q, _⟩ := HP.out.2.2.1
          exact HQ.out.ne_map q
        have HT2 : Hid (TB W2 w.heap.size x y k) := TB.grown (w := (W0.alloc (.cells #[.int .i64 (L.length : Int)] 3)).drew) (HQ.out.grown (bl_grown (bl_drew (bl_alloc HB0.out))) (by simp)) hg2 hneT
        have HOW : Hid (W2.ownsRow base 3 1 v0 (Gi L (x, y, k) 1 (edg (x, y, k) 1)).length ((Gi L (x, y, k) 1 (edg (x, y, k) 1)).map (Value.int .i64))) := hown
        have HBK : Hid (∀ g cap W3, W2.grownBy W3 v0.ownBlock → W3.ownsRow base 3 1 (.slice (some ⟨g, 0, none⟩) ((Gi L (x, y, k) 1 (edg (x, y, k) 1)).length + 1) cap) ((Gi L (x, y, k) 1 (edg (x, y, k) 1)).length + 1) ((Gi L (x, y, k) 1 (edg (x, y, k) 1)).map (Value.int .i64) ++ [.int .i64 (L.length : Int)]) → (v0.ownBlock = some g ∨ g = W2.heap.size) →
          ∃ W4, (Instr.entryStore 36 (.map (some ra)) (.int .i64 st) (.slice (some ⟨g, 0, none⟩) ((Gi L (x, y, k) 1 (edg (x, y, k) 1)).length + 1) cap)).run Tryz.prog W3 = .ok () W4 ∧ W3.grownBy W4 (some ra) ∧ PP w0 W4 base pb ra rk (.slice ad L.length ccap) L (Gi L (x, y, k) (1 + 1))) := fun g cap W3 q1 q2 q3 => by
          obtain ⟨W4, s1, s2, s3⟩ := hback (.slice (some ⟨g, 0, none⟩) ((Gi L (x, y, k) 1 (edg (x, y, k) 1)).length + 1) cap) W3 q1 q2 (q3.imp (fun q => q.symm) (fun q => by rw [q]; rfl))
          exact ⟨W4, s1, s2, Gi_step L hk 1 (by omega) ▸ s3⟩
        clear hown hback htop hg2 hz2 a4 HP0
        obtain ⟨nG, hnG⟩ : ∃ m, m = (Gi L (x, y, k) 1 (edg (x, y, k) 1)).length := ⟨_, rfl⟩
        obtain ⟨xG, hxG⟩ : ∃ m, m = (Gi L (x, y, k) 1 (edg (x, y, k) 1)).map (Value.int .i64) := ⟨_, rfl⟩
        rw [← hnG, ← hxG] at HOW
        rw [← hnG] at HG2
        rw [← hnG, ← hxG] at HBK
        clear hnG hxG
        go_region_held3 (fun w' => w'.cell? ⟨pb, 0, none⟩ = some (.slice ad L.length ccap) ∧ w'.cell? ⟨pb, 1, none⟩ = some (.map (some ra)) ∧ w'.cell? ⟨wr.heap.size, 0, none⟩ = some (.int .i64 (ue4 x y k)) ∧ w'.cell? ⟨wr.heap.size, 1, none⟩ = some (.int .i64 (ue5 x y k)) ∧ w'.cell? ⟨wr.heap.size, 2, none⟩ = some (.int .i64 (ue6 x y k)) ∧ w'.cell? ⟨wr.heap.size, 3, none⟩ = some (.int .i64 (ue7 x y k)))
          ((first | (refine ⟨?_, ?_, ?_, ?_, ?_, ?_⟩ <;> (first | (with_reducible assumption) | (with_reducible refine dr_old ?_; with_reducible assumption) | (with_reducible refine dr_old ?_; with_reducible refine al_old ?_; with_reducible assumption) | (refine HNA.out _ hgrow _ _ ?_ (by with_reducible assumption); simp; done) | (refine hgw4.cell (HNA.out _ hgrow _ _ (by simp; done) (by with_reducible assumption)) (by with_reducible assumption)))))) 
          (((refine step_append_lies _ (by rfl) (.tmp 16) (.tmp 22) 22 (by rfl) base 3 i3 (.int .i64 0) 1 8 Tryz.underlying22 HI.out.1 HI.out.2.1 HI.out.2.2.1 HI.out.2.2.2 rfl (by decide) v0 nG xG (by rfl) HOW.out ⟨W0.heap.size, 0, none⟩ 1 1 [.int .i64 (L.length : Int)] (by rfl) rfl (cell_one _ hnw) (one_cell _) (by decide) (by have := HG2.out.2; unfold maxLen; omega) (by have := HG2.out.2; omega) HG2.out.1 W2.heap.size rfl ?_; intro g cap W3 hown3 hgrow hat hlt; obtain ⟨W4, hst, hgw4, hPP4⟩ := HBK.out g cap W3 hgrow hown3 hat; have HP4 : Hid (PP w0 W4 base pb ra rk (.slice ad L.length ccap) L (Gi L (x, y, k) (1 + 1))) := hPP4; have HT4 : Hid (TB W4 w.heap.size x y k) := (HT2.out.grown hgrow (HT2.out.not_row HOW.out)).grown hgw4 hneT; clear hPP4 hown3 hat)))
        go_wp2
        go_roundg (3 - (1 + 1))
        case measure => omega
        case rel => exact ⟨1 + 1, by omega, rfl, by go_num, HP4.out, HT4.out⟩
      · have HP : Hid (PP w0 wr base pb ra rk (.slice ad L.length ccap) L (Gi L (x, y, k) 2)) := hP
        have HQ : Hid (TB wr w.heap.size x y k) := hQ
        have hk := HK.out
        clear hP hQ
        go_wp2
        refine wp_named (fun W0 hW0 => ?_)
        have hB0 : Below wr.heap.size wr W0 := by rw [hW0]; exact bl_alloc (bl_refl _)
        have HB0 : Hid (Below wr.heap.size wr W0) := hB0
        have HP0 : Hid (PP w0 W0 base pb ra rk (.slice ad L.length ccap) L (Gi L (x, y, k) 2)) := HP.out.kept hB0
        have c0 : W0.cell? ⟨pb, 0, none⟩ = some (.slice ad L.length ccap) := HP0.out.1.1
        have c1 : W0.cell? ⟨pb, 1, none⟩ = some (.map (some ra)) := HP0.out.1.2.1
        have c2 : W0.cell? ⟨wr.heap.size, 0, none⟩ = some (.int .i64 (ue8 x y k)) := by rw [hW0]; simp [go_sem]
        have c3 : W0.cell? ⟨wr.heap.size, 1, none⟩ = some (.int .i64 (ue9 x y k)) := by rw [hW0]; simp [go_sem]
        have c4 : W0.cell? ⟨wr.heap.size, 2, none⟩ = some (.int .i64 (ue10 x y k)) := by rw [hW0]; simp [go_sem]
        have c5 : W0.cell? ⟨wr.heap.size, 3, none⟩ = some (.int .i64 (ue11 x y k)) := by rw [hW0]; simp [go_sem]
        have z1 : wr.heap.size + 1 = W0.heap.size := by rw [hW0]; simp
        clear hW0 hB0
        obtain ⟨v0, st, W2, hrun, hg2, hz2, hown, htop, hback⟩ := HP.out.entry (w := (W0.alloc (.cells #[.int .i64 (L.length : Int)] 3)).drew) (bl_drew (bl_alloc HB0.out)) (edg (x, y, k) 2) (L.length : Int)
        have hrun' : (Instr.mapEntry 36 (.map (some ra)) (.agg #[.int .i64 (ue8 x y k), .int .i64 (ue9 x y k), .int .i64 (ue10 x y k), .int .i64 (ue11 x y k)])).run Tryz.prog (W0.alloc (.cells #[.int .i64 (L.length : Int)] 3)).drew = .ok (.tuple #[v0, .int .i64 st]) W2 := hrun
        clear hrun
        have a4 := HP.out.2.2.2.2.1
        have hne0 : some pb ≠ some ra := fun e => by
          obtain ⟨ls, c, q, _⟩ := HP.out.2.2.1
          exact HP.out.1.apart q (by simpa using e)
        have hne1 : some wr.heap.size ≠ some ra := fun e => by
          simp at e
          omega
        have m0 : W2.cell? ⟨pb, 0, none⟩ = some (.slice ad L.length ccap) := hg2.cell (w := (W0.alloc (.cells #[.int .i64 (L.length : Int)] 3)).drew) (al_old c0) (by exact hne0)
        have m1 : W2.cell? ⟨pb, 1, none⟩ = some (.map (some ra)) := hg2.cell (w := (W0.alloc (.cells #[.int .i64 (L.length : Int)] 3)).drew) (al_old c1) (by exact hne0)
        have m2 : W2.cell? ⟨wr.heap.size, 0, none⟩ = some (.int .i64 (ue8 x y k)) := hg2.cell (w := (W0.alloc (.cells #[.int .i64 (L.length : Int)] 3)).drew) (al_old c2) (by exact hne1)
        have m3 : W2.cell? ⟨wr.heap.size, 1, none⟩ = some (.int .i64 (ue9 x y k)) := hg2.cell (w := (W0.alloc (.cells #[.int .i64 (L.length : Int)] 3)).drew) (al_old c3) (by exact hne1)
        have m4 : W2.cell? ⟨wr.heap.size, 2, none⟩ = some (.int .i64 (ue10 x y k)) := hg2.cell (w := (W0.alloc (.cells #[.int .i64 (L.length : Int)] 3)).drew) (al_old c4) (by exact hne1)
        have m5 : W2.cell? ⟨wr.heap.size, 3, none⟩ = some (.int .i64 (ue11 x y k)) := hg2.cell (w := (W0.alloc (.cells #[.int .i64 (L.length : Int)] 3)).drew) (al_old c5) (by exact hne1)
        have hnw : W2.cell? ⟨W0.heap.size, 0, none⟩ = some (.int .i64 (L.length : Int)) := hg2.cell (w := (W0.alloc (.cells #[.int .i64 (L.length : Int)] 3)).drew) (by simp [go_sem]) (fun e => by simp at e; omega)
        have hW2 : W2.heap.size = W0.heap.size + 1 := by simpa using hz2
        have HG2 : Hid (base ≤ W2.heap.size ∧ (Gi L (x, y, k) 2 (edg (x, y, k) 2)).length + 1 ≤ 1000) := ⟨by omega, Nat.succ_le_succ (Nat.le_trans (Gi_len L (x, y, k) 2 _) (by omega))⟩
        have HNA : Hid (∀ (W3 : World), W2.grownBy W3 v0.ownBlock → ∀ a v, (a.block = pb ∨ a.block = wr.heap.size) → W2.cell? a = some v → W3.cell? a = some v) := fun W3 hg a v ha hc => hg.cell hc (fun e => by
          have := htop _ e.symm
          rcases ha with ha | ha <;> omega)
        have hneT : some w.heap.size ≠ some ra := by
          obtain ⟨ls, c, q, _⟩ := HP.out.2.2.1
          exact HQ.out.ne_map q
        have HT2 : Hid (TB W2 w.heap.size x y k) := TB.grown (w := (W0.alloc (.cells #[.int .i64 (L.length : Int)] 3)).drew) (HQ.out.grown (bl_grown (bl_drew (bl_alloc HB0.out))) (by simp)) hg2 hneT
        have HOW : Hid (W2.ownsRow base 3 1 v0 (Gi L (x, y, k) 2 (edg (x, y, k) 2)).length ((Gi L (x, y, k) 2 (edg (x, y, k) 2)).map (Value.int .i64))) := hown
        have HBK : Hid (∀ g cap W3, W2.grownBy W3 v0.ownBlock → W3.ownsRow base 3 1 (.slice (some ⟨g, 0, none⟩) ((Gi L (x, y, k) 2 (edg (x, y, k) 2)).length + 1) cap) ((Gi L (x, y, k) 2 (edg (x, y, k) 2)).length + 1) ((Gi L (x, y, k) 2 (edg (x, y, k) 2)).map (Value.int .i64) ++ [.int .i64 (L.length : Int)]) → (v0.ownBlock = some g ∨ g = W2.heap.size) →
          ∃ W4, (Instr.entryStore 36 (.map (some ra)) (.int .i64 st) (.slice (some ⟨g, 0, none⟩) ((Gi L (x, y, k) 2 (edg (x, y, k) 2)).length + 1) cap)).run Tryz.prog W3 = .ok () W4 ∧ W3.grownBy W4 (some ra) ∧ PP w0 W4 base pb ra rk (.slice ad L.length ccap) L (Gi L (x, y, k) (2 + 1))) := fun g cap W3 q1 q2 q3 => by
          obtain ⟨W4, s1, s2, s3⟩ := hback (.slice (some ⟨g, 0, none⟩) ((Gi L (x, y, k) 2 (edg (x, y, k) 2)).length + 1) cap) W3 q1 q2 (q3.imp (fun q => q.symm) (fun q => by rw [q]; rfl))
          exact ⟨W4, s1, s2, Gi_step L hk 2 (by omega) ▸ s3⟩
        clear hown hback htop hg2 hz2 a4 HP0
        obtain ⟨nG, hnG⟩ : ∃ m, m = (Gi L (x, y, k) 2 (edg (x, y, k) 2)).length := ⟨_, rfl⟩
        obtain ⟨xG, hxG⟩ : ∃ m, m = (Gi L (x, y, k) 2 (edg (x, y, k) 2)).map (Value.int .i64) := ⟨_, rfl⟩
        rw [← hnG, ← hxG] at HOW
        rw [← hnG] at HG2
        rw [← hnG, ← hxG] at HBK
        clear hnG hxG
        go_region_held3 (fun w' => w'.cell? ⟨pb, 0, none⟩ = some (.slice ad L.length ccap) ∧ w'.cell? ⟨pb, 1, none⟩ = some (.map (some ra)) ∧ w'.cell? ⟨wr.heap.size, 0, none⟩ = some (.int .i64 (ue8 x y k)) ∧ w'.cell? ⟨wr.heap.size, 1, none⟩ = some (.int .i64 (ue9 x y k)) ∧ w'.cell? ⟨wr.heap.size, 2, none⟩ = some (.int .i64 (ue10 x y k)) ∧ w'.cell? ⟨wr.heap.size, 3, none⟩ = some (.int .i64 (ue11 x y k)))
          ((first | (refine ⟨?_, ?_, ?_, ?_, ?_, ?_⟩ <;> (first | (with_reducible assumption) | (with_reducible refine dr_old ?_; with_reducible assumption) | (with_reducible refine dr_old ?_; with_reducible refine al_old ?_; with_reducible assumption) | (refine HNA.out _ hgrow _ _ ?_ (by with_reducible assumption); simp; done) | (refine hgw4.cell (HNA.out _ hgrow _ _ (by simp; done) (by with_reducible assumption)) (by with_reducible assumption)))))) 
          (((refine step_append_lies _ (by rfl) (.tmp 16) (.tmp 22) 22 (by rfl) base 3 i3 (.int .i64 0) 1 8 Tryz.underlying22 HI.out.1 HI.out.2.1 HI.out.2.2.1 HI.out.2.2.2 rfl (by decide) v0 nG xG (by rfl) HOW.out ⟨W0.heap.size, 0, none⟩ 1 1 [.int .i64 (L.length : Int)] (by rfl) rfl (cell_one _ hnw) (one_cell _) (by decide) (by have := HG2.out.2; unfold maxLen; omega) (by have := HG2.out.2; omega) HG2.out.1 W2.heap.size rfl ?_; intro g cap W3 hown3 hgrow hat hlt; obtain ⟨W4, hst, hgw4, hPP4⟩ := HBK.out g cap W3 hgrow hown3 hat; have HP4 : Hid (PP w0 W4 base pb ra rk (.slice ad L.length ccap) L (Gi L (x, y, k) (2 + 1))) := hPP4; have HT4 : Hid (TB W4 w.heap.size x y k) := (HT2.out.grown hgrow (HT2.out.not_row HOW.out)).grown hgw4 hneT; clear hPP4 hown3 hat)))
        go_wp2
        go_roundg (3 - (2 + 1))
        case measure => omega
        case rel => exact ⟨2 + 1, by omega, rfl, by go_num, HP4.out, HT4.out⟩
    · obtain rfl : i = 3 := by omega
      rw [Gi_three] at hP
      have HP : Hid (PP w0 wr base pb ra rk (.slice ad L.length ccap) L (gix (L ++ [(x, y, k)]))) := hP
      have p0 := hP.1.1
      have fz := hP.1.2.2.2
      have zp := hP.1.lt
      have zb : Hid (base ≤ wr.heap.size) := hP.2.2.2.2.1.2.2.2.2.2.2.2
      have hrow : Hid (some pb ≠ (Value.slice ad L.length ccap).ownBlock) := fun e => by
        have := (own_lt hP.2.1 pb e.symm).1
        have := hP.2.2.2.2.1.2.1
        omega
      obtain ⟨t0, t1, t2⟩ := hQ.tr
      have zt := hQ.lt
      clear hP hQ x0 x1 x2
      go_wp2
      go_region_law ((refine step_append_lies _ (by rfl) (.tmp 31) (.tmp 33) 35 (by rfl) base 87 i23 (.agg #[.int .i64 0, .int .i64 0, .int .i64 0]) 3 24 Tryz.underlying35 HI23.out.1 HI23.out.2.1 HI23.out.2.2.1 HI23.out.2.2.2 rfl (by decide) (.slice ad L.length ccap) L.length (flatV L) (by rfl) (own_below HP.out.2.1 (by with_reducible (first | exact bl_drew (bl_alloc (bl_refl _)) | exact bl_alloc (bl_drew (bl_refl _))))) ⟨wr.heap.size, 0, none⟩ 1 1 [.int .i64 x, .int .i64 y, .int .i64 k] (by rfl) rfl (cell_three_new wr x y k) (three_cell x y k) (by decide) (by unfold maxLen; omega) (by omega) (Nat.le_trans zb.out (by simp)) (wr.heap.size + 1) (by simp) ?_; intro g cap W3 hown3 hgrow hat hlt; have q0 : W3.cell? ⟨pb, 0, none⟩ = some (.slice ad L.length ccap) := hgrow.cell (by first | exact dr_old (al_old p0) | exact al_old (dr_old p0)) hrow.out; have f0 : W3.frozen? ⟨pb, 0, none⟩ = false := (World.frozen?_of_block (a := ⟨pb, 0, none⟩) (hgrow.block pb (by simp; omega) hrow.out)).trans (by simp [go_sem, fz, zp]); have HPN : Hid (PP w0 (W3.setCell ⟨pb, 0, none⟩ (.slice (some ⟨g, 0, none⟩) (L.length + 1) cap)) base pb ra rk (.slice (some ⟨g, 0, none⟩) (L.length + 1) cap) (L ++ [(x, y, k)]) (gix (L ++ [(x, y, k)]))) := HP.out.pushed (by with_reducible (first | exact bl_drew (bl_alloc (bl_refl _)) | exact bl_alloc (bl_drew (bl_refl _)))) hgrow hown3 (hat.imp id (fun e => e.trans (by simp))); clear hown3 hgrow hat))
      all_goals
        go_wp2
        go_end0
        exact ⟨rfl, _, _, HPN.out⟩
end Go.Proofs.YtehmoacggikfmaaGreatDoor
