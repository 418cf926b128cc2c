/- A part of the proof of sheetTells_holds. -/
import Derived.Test.YtehmoacggikfmaaDoorQlal
import Derived.Test.YtehmoacggikfmaaDoorQlau
import Derived.Test.YtehmoacggikfmaaDoorQlax
namespace Go.Proofs.YtehmoacggikfmaaDoor
open Go.RowKit
attribute [local go_sem ↓] Go.wp_at_zero Go.wp_at_succ

theorem bl_undrew {v u : World} (h : Below v.drew.heap.size v.drew u) : Below v.heap.size v u := bl_via (bl_drew (bl_refl v)) h
/-- Triangles in a row of memory, as a slice has them. -/
def TRow (w : World) (a : Option Addr) (l : List (Int × Int × Int)) : Prop :=
  ∀ i (h : i < l.length), ∃ g, a = some ⟨g, 0, none⟩ ∧ w.cell? ⟨g, i * 3, none⟩ = some (.int .i64 l[i].1) ∧ w.cell? ⟨g, i * 3 + 1, none⟩ = some (.int .i64 l[i].2.1) ∧ w.cell? ⟨g, i * 3 + 2, none⟩ = some (.int .i64 l[i].2.2)
theorem TRow.kept {w wx : World} {a : Option Addr} {l : List (Int × Int × Int)} (h : TRow w a l) (hb : Below w.heap.size w wx) : TRow wx a l := fun i hi => by
  obtain ⟨g, e, h0, h1, h2⟩ := h i hi
  exact ⟨g, e, cl_kept hb h0, cl_kept hb h1, cl_kept hb h2⟩
theorem flatV_at : ∀ (l : List (Int × Int × Int)) (i : Nat) (h : i < l.length), (flatV l)[i * 3]? = some (.int .i64 l[i].1) ∧ (flatV l)[i * 3 + 1]? = some (.int .i64 l[i].2.1) ∧ (flatV l)[i * 3 + 2]? = some (.int .i64 l[i].2.2)
  | t :: l, 0, _ => by simp [flatV]
  | t :: l, i + 1, h => by
    have ih := flatV_at l i (by simpa using h)
    have e : flatV (t :: l) = [Value.int .i64 t.1, .int .i64 t.2.1, .int .i64 t.2.2] ++ flatV l := by simp [flatV]
    rw [e, show (i + 1) * 3 = 3 + i * 3 by omega]
    simp only [List.getElem_cons_succ]
    refine ⟨?_, ?_, ?_⟩
    · rw [List.getElem?_append_right (by simp)]
      simpa using ih.1
    · rw [List.getElem?_append_right (by simp; omega)]
      rw [show 3 + i * 3 + 1 - [Value.int .i64 t.1, Value.int .i64 t.2.1, Value.int .i64 t.2.2].length = i * 3 + 1 by simp; omega]
      exact ih.2.1
    · rw [List.getElem?_append_right (by simp; omega)]
      rw [show 3 + i * 3 + 2 - [Value.int .i64 t.1, Value.int .i64 t.2.1, Value.int .i64 t.2.2].length = i * 3 + 2 by simp; omega]
      exact ih.2.2
theorem own_tris {w : World} {base : Nat} {v : Value} {l : List (Int × Int × Int)} (h : w.ownsRow base 52 3 v l.length (flatV l)) : ∃ a cap, v = .slice a l.length cap ∧ TRow w a l := by
  rcases h.2 with ⟨rfl, h0⟩ | ⟨g, cap, cur, rfl, _⟩
  · exact ⟨none, 0, by rw [h0], fun i hi => by omega⟩
  · refine ⟨some ⟨g, 0, none⟩, cap, rfl, fun i hi => ⟨g, rfl, ?_⟩⟩
    have f := flatV_at l i hi
    exact ⟨(h.cellAt _ (by omega)).trans f.1, (h.cellAt _ (by omega)).trans f.2.1, (h.cellAt _ (by omega)).trans f.2.2⟩

theorem ty_bd {zs : List Int} {W H : Nat} (hW : W ≤ 8) (hH : H ≤ 8) : ∀ t ∈ ty zs W H, (0 ≤ t.1 ∧ t.1 ≤ 8) ∧ (0 ≤ t.2.1 ∧ t.2.1 ≤ 8) ∧ (0 ≤ t.2.2 ∧ t.2.2 ≤ 3) := by
  intro t ht
  simp only [ty, tx, tk, List.mem_flatMap, List.mem_map, List.mem_filter, List.mem_range] at ht
  obtain ⟨y, hy, x, hx, k, ⟨hk, _⟩, rfl⟩ := ht
  dsimp only
  omega

/-- How many of some triangles have an edge. -/
def cnt (l : List (Int × Int × Int)) (p q r s : Int) : Nat := l.countP fun t => hasB t.1 t.2.1 t.2.2 p q r s
theorem cnt_next {l : List (Int × Int × Int)} {p q r s : Int} {i : Nat} (h : i < l.length) : cnt (l.take (i + 1)) p q r s = cnt (l.take i) p q r s + if hasB l[i].1 l[i].2.1 l[i].2.2 p q r s = true then 1 else 0 := by
  unfold cnt
  rw [List.take_succ_eq_append_getElem h, List.countP_append]
  simp [List.countP_cons]
theorem cnt_le (l : List (Int × Int × Int)) (p q r s : Int) (i : Nat) : cnt (l.take i) p q r s ≤ l.length := by
  unfold cnt
  exact Nat.le_trans List.countP_le_length (by simp; omega)

set_option maxRecDepth 100000 in
set_option maxHeartbeats 3200000 in
theorem innerEdge_any (W H b off cap : Nat) (zs : List Int) (c : Value) (p q r s : Int) (w : World) (hr : Row w (some ⟨b, off, none⟩) zs) (hW : 1 ≤ W ∧ W ≤ 8) (hH : 1 ≤ H ∧ H ≤ 8) (hl : zs.length = W * H) (hm : maskB zs = true) :
    Calls Tryd.prog 16 #[.agg #[.int .i64 (W : Int), .int .i64 (H : Int), .slice (some ⟨b, off, none⟩) zs.length cap, c], .agg #[.int .i64 p, .int .i64 q, .int .i64 r, .int .i64 s]] w fun e w' => e = .returned (.bool (decide (cnt (ty zs W H) p q r s = 2))) ∧ Below w.heap.size w w' := by
  have C38 : Hid (∀ W' : World, Below w.heap.size w W' → Calls Tryd.prog 10 #[.agg #[.int .i64 (W : Int), .int .i64 (H : Int), .slice (some ⟨b, off, none⟩) zs.length cap, c]] W' fun e w' => ∃ v, e = .returned v ∧ w'.ownsRow (W'.heap.size + 1) 52 3 v (ty zs W H).length (flatV (ty zs W H)) ∧ Below W'.heap.size W' w') := fun W' hW' => trisOf_any W H b off cap zs c W' (hr.kept hW') hW hH hl hm
  have HBD : Hid (∀ t ∈ ty zs W H, (0 ≤ t.1 ∧ t.1 ≤ 8) ∧ (0 ≤ t.2.1 ∧ t.2.1 ≤ 8) ∧ (0 ≤ t.2.2 ∧ t.2.2 ≤ 3)) := ty_bd hW.2 hH.2
  have hlen : (ty zs W H).length ≤ 256 := by have := ty_len zs W H hW.2; omega
  clear hr hl hm hW hH
  obtain ⟨L, hL⟩ : ∃ L, L = ty zs W H := ⟨_, rfl⟩
  rw [← hL] at C38 HBD hlen ⊢
  clear hL
  go_enter Tryd.func16, Tryd.ntmps16
  go_wp2_with (go_at_call 10; refine (C38.out _ (by with_reducible exact bl_alloc (bl_alloc (bl_refl _)))).mono ?_; rintro e w1 ⟨v, rfl, ho, hb⟩; have hQ : Qd w1 (w.heap.size + 1) p q r s := Qd.kept (by simp [Qd, go_sem]) hb; have hB : Below w.heap.size w w1 := bl_via (bl_alloc (bl_alloc (bl_refl _))) hb; obtain ⟨a, ca, rfl, hT⟩ := own_tris ho; have HW : Hid (Qd w1 (w.heap.size + 1) p q r s ∧ TRow w1 a L ∧ Below w.heap.size w w1) := ⟨hQ, hT, hB⟩; clear hQ hB hT ho hb)
  go_loopg [6, 7] L.length (fun g s6 s7 wx => ∃ i : Nat, i ≤ L.length ∧ g = L.length - i ∧ s6 = .int .i64 ((cnt (L.take i) p q r s : Nat) : Int) ∧ s7 = .int .i64 (i : Int) ∧ Qd wx (w.heap.size + 1) p q r s ∧ TRow wx a L ∧ Below w.heap.size w wx)
  case atStart => exact ⟨0, by omega, rfl, by simp [cnt], rfl, HW.out⟩
  case round =>
    clear HW
    obtain ⟨i, hi, rfl, rfl, rfl, hQ, hT, hB⟩ := hrel
    have HR : Hid (Qd wr (w.heap.size + 1) p q r s ∧ TRow wr a L ∧ Below w.heap.size w wr) := ⟨hQ, hT, hB⟩
    clear hQ hT hB
    obtain ⟨n, hn⟩ : ∃ n, n = cnt (L.take i) p q r s := ⟨_, rfl⟩
    have hn2 : n ≤ 256 := by have := cnt_le L p q r s i; omega
    have HN : Hid (n = cnt (L.take i) p q r s) := hn
    rw [← hn]
    clear hn
    by_cases h1 : i < L.length
    · have i1 : (i : Int) < (L.length : Int) := by omega
      have i0 : (0 : Int) ≤ (i : Int) := by omega
      obtain ⟨q0, q1, q2, q3⟩ := HR.out.1
      obtain ⟨g, rfl, t0, t1, t2⟩ := HR.out.2.1 i h1
      have hbd := HBD.out _ (List.getElem_mem h1)
      obtain ⟨t, ht⟩ : ∃ t, t = L[i] := ⟨_, rfl⟩
      obtain ⟨x, y, k⟩ := t
      rw [← ht] at t0 t1 t2 hbd
      dsimp only at t0 t1 t2 hbd
      have HCN : Hid (cnt (L.take (i + 1)) p q r s = n + if hasB x y k p q r s = true then 1 else 0) := by
        show cnt (L.take (i + 1)) p q r s = n + if hasB x y k p q r s = true then 1 else 0
        rw [cnt_next h1, ← ht, ← HN.out]
      have C53 : Hid (∀ W' : World, Calls Tryd.prog 32 #[.agg #[.int .i64 x, .int .i64 y, .int .i64 k], .agg #[.int .i64 p, .int .i64 q, .int .i64 r, .int .i64 s]] W' fun e w' => e = .returned (.bool (hasB x y k p q r s)) ∧ Below W'.heap.size W' w') := fun W' => hasEdge_any x y k p q r s W' (by omega) (by omega) (by omega) (by omega) (by omega) (by omega)
      clear ht hbd
      have zq : w.heap.size + 1 < wr.heap.size := World.block_lt_of_cell? _ _ q0
      have zg : g < wr.heap.size := World.block_lt_of_cell? _ _ t0
      go_wp2
      go_cut [21] (fun s21 wx => s21 = .bool (hasB x y k p q r s) ∧ Below wr.heap.size wr wx)
      case first =>
        go_region_held3 (fun w' => w'.cell? ⟨g, i * 3, none⟩ = some (.int .i64 x) ∧ w'.cell? ⟨g, i * 3 + 1, none⟩ = some (.int .i64 y) ∧ w'.cell? ⟨g, i * 3 + 2, none⟩ = some (.int .i64 k) ∧ w'.cell? ⟨w.heap.size + 1, 0, none⟩ = some (.int .i64 p) ∧ w'.cell? ⟨w.heap.size + 1, 1, none⟩ = some (.int .i64 q) ∧ w'.cell? ⟨w.heap.size + 1, 2, none⟩ = some (.int .i64 r) ∧ w'.cell? ⟨w.heap.size + 1, 3, none⟩ = some (.int .i64 s))
          ((refine ⟨?_, ?_, ?_, ?_, ?_, ?_, ?_⟩ <;> (repeat' (first | (with_reducible assumption) | (dsimp only; omega) | (simp [go_sem]; done) | (with_reducible refine al_old ?_) | (with_reducible refine dr_old ?_)))))
          ((go_at_call 32; refine (C53.out _).mono ?_; rintro e w8 ⟨rfl, hb⟩; have t0' : w8.cell? ⟨g, i * 3, none⟩ = some (.int .i64 x) := cl_kept hb (by with_reducible (repeat (first | assumption | refine dr_old ?_))); have t1' : w8.cell? ⟨g, i * 3 + 1, none⟩ = some (.int .i64 y) := cl_kept hb (by with_reducible (repeat (first | assumption | refine dr_old ?_))); have t2' : w8.cell? ⟨g, i * 3 + 2, none⟩ = some (.int .i64 k) := cl_kept hb (by with_reducible (repeat (first | assumption | refine dr_old ?_))); have q0' : w8.cell? ⟨w.heap.size + 1, 0, none⟩ = some (.int .i64 p) := cl_kept hb (by with_reducible (repeat (first | assumption | refine dr_old ?_))); have q1' : w8.cell? ⟨w.heap.size + 1, 1, none⟩ = some (.int .i64 q) := cl_kept hb (by with_reducible (repeat (first | assumption | refine dr_old ?_))); have q2' : w8.cell? ⟨w.heap.size + 1, 2, none⟩ = some (.int .i64 r) := cl_kept hb (by with_reducible (repeat (first | assumption | refine dr_old ?_))); have q3' : w8.cell? ⟨w.heap.size + 1, 3, none⟩ = some (.int .i64 s) := cl_kept hb (by with_reducible (repeat (first | assumption | refine dr_old ?_))); have hq : Below wr.heap.size wr w8 := (by with_reducible (first | exact hb | exact bl_undrew hb | exact bl_undrew (bl_undrew hb))); have HQ : Hid (Below wr.heap.size wr w8) := hq; clear hb hq))
        all_goals
          go_wp2
          go_meet
          case rel =>
            refine ⟨rfl, ?_⟩
            with_reducible repeat' (first | exact HQ.out | refine bl_drew ?_)
      case rest =>
        obtain ⟨rfl, hBc⟩ := hcut
        have HC : Hid (Qd wc (w.heap.size + 1) p q r s ∧ TRow wc (some ⟨g, 0, none⟩) L ∧ Below w.heap.size w wc) := ⟨HR.out.1.kept hBc, HR.out.2.1.kept hBc, bl_via HR.out.2.2 hBc⟩
        clear hBc q0 q1 q2 q3 t0 t1 t2 zq zg HR
        cases hh : hasB x y k p q r s
        · have HM : Hid (cnt (L.take (i + 1)) p q r s = n) := by
            show cnt (L.take (i + 1)) p q r s = n
            rw [HCN.out, hh]
            simp
          go_wp2
          go_roundg (L.length - (i + 1))
          case measure => omega
          case rel => exact ⟨i + 1, by omega, rfl, by rw [HM.out], by go_num, HC.out⟩
        · have HM : Hid (cnt (L.take (i + 1)) p q r s = n + 1) := by
            show cnt (L.take (i + 1)) p q r s = n + 1
            rw [HCN.out, hh]
            simp
          go_wp2
          go_roundg (L.length - (i + 1))
          case measure => omega
          case rel => exact ⟨i + 1, by omega, rfl, by rw [HM.out]; go_num, by go_num, HC.out⟩
    · have i1 : ¬ (i : Int) < (L.length : Int) := by omega
      have HM : Hid (n = cnt L p q r s) := by
        show n = cnt L p q r s
        rw [HN.out, List.take_of_length_le (by omega)]
      go_wp2
      go_ret
      refine ⟨ret_bool ?_, HR.out.2.2⟩
      rw [← HM.out]
      rw [Bool.eq_iff_iff]
      simp
      omega

/-- Has a triangle an edge; the edges of a triangle; what lies across one of them. -/
def hasT (t : Int × Int × Int) (e : Int × Int × Int × Int) : Bool := hasB t.1 t.2.1 t.2.2 e.1 e.2.1 e.2.2.1 e.2.2.2
def edg (t : Int × Int × Int) (i : Nat) : Int × Int × Int × Int :=
  if i = 0 then (ue0 t.1 t.2.1 t.2.2, ue1 t.1 t.2.1 t.2.2, ue2 t.1 t.2.1 t.2.2, ue3 t.1 t.2.1 t.2.2)
  else if i = 1 then (ue4 t.1 t.2.1 t.2.2, ue5 t.1 t.2.1 t.2.2, ue6 t.1 t.2.1 t.2.2, ue7 t.1 t.2.1 t.2.2)
  else (ue8 t.1 t.2.1 t.2.2, ue9 t.1 t.2.1 t.2.2, ue10 t.1 t.2.1 t.2.2, ue11 t.1 t.2.1 t.2.2)
def acr (t : Int × Int × Int) (e : Int × Int × Int × Int) : Int × Int × Int :=
  (acX t.1 t.2.1 t.2.2 e.1 e.2.1 e.2.2.1 e.2.2.2, acY t.1 t.2.1 t.2.2 e.1 e.2.1 e.2.2.1 e.2.2.2, acK t.1 t.2.1 t.2.2 e.1 e.2.1 e.2.2.1 e.2.2.2)
/-- A triangle whose kind may be. -/
def Kd (t : Int × Int × Int) : Prop := 0 ≤ t.2.2 ∧ t.2.2 ≤ 3

theorem edg_own (t : Int × Int × Int) (i : Nat) : hasT t (edg t i) = true := by
  unfold edg
  split
  · simp [hasT, hasB, e0, sameB]
  · split
    · simp [hasT, hasB, e1, sameB]
    · simp [hasT, hasB, e2, sameB]
theorem hasT_edg {t : Int × Int × Int} {e : Int × Int × Int × Int} (h : hasT t e = true) : ∃ i, i < 3 ∧ edg t i = e := by
  unfold hasT at h
  rw [hasB_or] at h
  obtain ⟨p, q, r, s⟩ := e
  rcases h with h | h | h
  · exact ⟨0, by omega, by simpa [edg, e0, sameB] using h⟩
  · exact ⟨1, by omega, by simpa [edg, e1, sameB] using h⟩
  · exact ⟨2, by omega, by simpa [edg, e2, sameB] using h⟩

/-- Two triangles with an edge in common. -/
def Adj (t u : Int × Int × Int) : Prop := u ≠ t ∧ ∃ e, hasT t e = true ∧ hasT u e = true
theorem Adj.symm {t u : Int × Int × Int} (h : Adj t u) : Adj u t := ⟨fun e => h.1 e.symm, h.2.imp fun _ he => ⟨he.2, he.1⟩⟩

theorem acr_is {t u : Int × Int × Int} {e : Int × Int × Int × Int} (ht : Kd t) (hu : Kd u) (h1 : hasT t e = true) (h2 : hasT u e = true) (hne : u ≠ t) : u = acr t e := by
  obtain ⟨x, y, k⟩ := t
  obtain ⟨X, Y, K⟩ := u
  obtain ⟨p, q, r, s⟩ := e
  have := across_is x y k p q r s (X - x) (Y - y) K ht.1 ht.2 hu.1 hu.2 h1 ⟨by rw [show x + (X - x) = X by omega, show y + (Y - y) = Y by omega]; exact h2, fun hh => hne (by obtain ⟨a, b, c⟩ := hh; simp; omega)⟩
  simp only [acr, Prod.mk.injEq]
  omega
theorem acr_adj {t : Int × Int × Int} {e : Int × Int × Int × Int} (ht : Kd t) (h1 : hasT t e = true) : hasT (acr t e) e = true ∧ acr t e ≠ t ∧ Kd (acr t e) := by
  obtain ⟨x, y, k⟩ := t
  obtain ⟨p, q, r, s⟩ := e
  obtain ⟨dx, dy, l, _, _, hl, ho⟩ := across_has x y k p q r s ht.1 ht.2 h1
  have h := across_is x y k p q r s dx dy l ht.1 ht.2 hl.1 hl.2 h1 ho
  have e : acr (x, y, k) (p, q, r, s) = (x + dx, y + dy, l) := by simp only [acr, Prod.mk.injEq]; omega
  rw [e]
  exact ⟨ho.1, fun hh => ho.2 (by simpa using hh), hl⟩
theorem adj_iff {t u : Int × Int × Int} (ht : Kd t) (hu : Kd u) : Adj t u ↔ ∃ i, i < 3 ∧ u = acr t (edg t i) := by
  constructor
  · rintro ⟨hne, e, h1, h2⟩
    obtain ⟨i, hi, rfl⟩ := hasT_edg h1
    exact ⟨i, hi, acr_is ht hu h1 h2 hne⟩
  · rintro ⟨i, _, rfl⟩
    have h := acr_adj ht (edg_own t i)
    exact ⟨h.2.1, _, edg_own t i, h.1⟩

/-- One comes from a triangle to another across edges, through triangles of a list. -/
def Reach (l : List (Int × Int × Int)) (t u : Int × Int × Int) : Prop := t ∈ l ∧ ∀ p : Int × Int × Int → Prop, p t → (∀ a b, p a → b ∈ l → Adj a b → p b) → p u
theorem Reach.here {l : List (Int × Int × Int)} {t : Int × Int × Int} (h : t ∈ l) : Reach l t t := ⟨h, fun _ k _ => k⟩
theorem Reach.step {l : List (Int × Int × Int)} {t u v : Int × Int × Int} (h : Reach l t u) (hv : v ∈ l) (ha : Adj u v) : Reach l t v := ⟨h.1, fun p k s => s _ _ (h.2 p k s) hv ha⟩
theorem Reach.ind {l : List (Int × Int × Int)} {t : Int × Int × Int} {motive : ∀ u, Reach l t u → Prop} (here : ∀ h : t ∈ l, motive t (Reach.here h))
    (step : ∀ {u v} (h : Reach l t u) (hv : v ∈ l) (ha : Adj u v), motive u h → motive v (Reach.step h hv ha)) {u : Int × Int × Int} (h : Reach l t u) : motive u h := by
  obtain ⟨_, m⟩ := h.2 (fun x => ∃ k : Reach l t x, motive x k) ⟨Reach.here h.1, here h.1⟩ (fun _ _ ⟨_, m⟩ hb hab => ⟨_, step _ hb hab m⟩)
  exact m
theorem Reach.mem {l : List (Int × Int × Int)} {t u : Int × Int × Int} (h : Reach l t u) : t ∈ l ∧ u ∈ l := by
  induction h using Reach.ind with
  | here h => exact ⟨h, h⟩
  | step _ hv _ ih => exact ⟨ih.1, hv⟩
theorem Reach.trans {l : List (Int × Int × Int)} {t u v : Int × Int × Int} (h : Reach l t u) (k : Reach l u v) : Reach l t v := by
  induction k using Reach.ind with
  | here _ => exact h
  | step _ hv ha ih => exact ih.step hv ha
theorem Reach.symm {l : List (Int × Int × Int)} {t u : Int × Int × Int} (h : Reach l t u) : Reach l u t := by
  induction h using Reach.ind with
  | here h => exact .here h
  | step h hv ha ih => exact ((Reach.here hv).step h.mem.2 ha.symm).trans ih

theorem nodup_inj {l : List (Int × Int × Int)} (hn : l.Nodup) {i j : Nat} (hi : i < l.length) (hj : j < l.length) (e : l[i] = l[j]) : i = j := by
  have hp := List.pairwise_iff_getElem.1 hn
  rcases Nat.lt_trichotomy i j with h | h | h
  · exact absurd e (hp i j hi hj h)
  · exact h
  · exact absurd e.symm (hp j i hj hi h)

/-- All triangles of a list are joined to its first. -/
def Joined (l : List (Int × Int × Int)) : Prop := ∃ h : 0 < l.length, ∀ i (hi : i < l.length), Reach l l[0] l[i]

/-- The least that each is joined to, found: all are 0 just where all are joined. -/
theorem who_joined {l : List (Int × Int × Int)} (hn : l.Nodup) (h0 : 0 < l.length) (who : Nat → Nat)
    (h1 : ∀ i (hi : i < l.length), who i ≤ i ∧ ∃ hw : who i < l.length, Reach l l[i] l[who i])
    (h2 : ∀ i j (hi : i < l.length) (hj : j < l.length), Adj l[i] l[j] → who i ≤ who j) :
    (∀ i, i < l.length → who i = 0) ↔ Joined l := by
  constructor
  · intro h
    refine ⟨h0, fun i hi => ?_⟩
    obtain ⟨_, _, hr⟩ := h1 i hi
    simp only [h i hi] at hr
    exact hr.symm
  · rintro ⟨_, h⟩ i hi
    have key : ∀ t, Reach l l[0] t → ∀ j (hj : j < l.length), l[j] = t → who j = 0 := by
      intro t ht
      generalize hz : l[0] = z at ht
      induction ht using Reach.ind with
      | here hm =>
        intro j hj e
        have : j = 0 := nodup_inj hn hj h0 (e.trans hz.symm)
        have := (h1 j hj).1
        omega
      | @step u v hr hv ha ih =>
        intro j hj e
        obtain ⟨i', hi', e'⟩ := List.getElem_of_mem hr.mem.2
        have w0 := ih i' hi' e'
        have := h2 j i' hj hi' (by rw [e, e']; exact ha.symm)
        omega
    exact key _ (h i hi) i hi rfl

/-- What is reached from the first, closed under what is across: all just where all are joined. -/
theorem reached_joined {l : List (Int × Int × Int)} (h0 : 0 < l.length) (R : Nat → Prop) (hz : R 0)
    (h1 : ∀ i (hi : i < l.length), R i → Reach l l[0] l[i])
    (h2 : ∀ i j (hi : i < l.length) (hj : j < l.length), R i → Adj l[i] l[j] → R j) (hn : l.Nodup) :
    (∀ i, i < l.length → R i) ↔ Joined l := by
  constructor
  · exact fun h => ⟨h0, fun i hi => h1 i hi (h i hi)⟩
  · rintro ⟨_, h⟩ i hi
    have key : ∀ t, Reach l l[0] t → ∀ j (hj : j < l.length), l[j] = t → R j := by
      intro t ht
      generalize hz' : l[0] = z at ht
      induction ht using Reach.ind with
      | here hm =>
        intro j hj e
        have : j = 0 := nodup_inj hn hj h0 (e.trans hz'.symm)
        exact this ▸ hz
      | @step u v hr hv ha ih =>
        intro j hj e
        obtain ⟨i', hi', e'⟩ := List.getElem_of_mem hr.mem.2
        exact h2 i' j hi' hj (ih i' hi' e') (by rw [e, e']; exact ha)
    exact key _ (h i hi) i hi rfl

theorem tk_nodup (zs : List Int) (W x y : Nat) : ∀ n, (tk zs W x y n).Nodup
  | 0 => by simp [tk]
  | n + 1 => by
    cases h : bitAt zs W x y n
    · rw [tk_no h]; exact tk_nodup zs W x y n
    · rw [tk_yes h, List.nodup_append]
      refine ⟨tk_nodup zs W x y n, by simp, ?_⟩
      intro a ha b hb
      simp [tk] at ha hb
      obtain ⟨k, ⟨hk, _⟩, rfl⟩ := ha
      subst hb
      simp
      omega
theorem tx_nodup (zs : List Int) (W y : Nat) : ∀ n, (tx zs W y n).Nodup
  | 0 => by simp [tx]
  | n + 1 => by
    rw [tx_succ, List.nodup_append]
    refine ⟨tx_nodup zs W y n, tk_nodup _ _ _ _ _, ?_⟩
    intro a ha b hb
    simp only [tx, tk, List.mem_flatMap, List.mem_map, List.mem_filter, List.mem_range] at ha hb
    obtain ⟨x, hx, k, _, rfl⟩ := ha
    obtain ⟨k', _, rfl⟩ := hb
    simp
    omega
theorem ty_nodup (zs : List Int) (W : Nat) : ∀ n, (ty zs W n).Nodup
  | 0 => by simp [ty]
  | n + 1 => by
    rw [ty_succ, List.nodup_append]
    refine ⟨ty_nodup zs W n, tx_nodup _ _ _ _, ?_⟩
    intro a ha b hb
    simp only [ty, tx, tk, List.mem_flatMap, List.mem_map, List.mem_filter, List.mem_range] at ha hb
    obtain ⟨y, hy, x, hx, k, _, rfl⟩ := ha
    obtain ⟨x', _, k', _, rfl⟩ := hb
    simp
    omega

end Go.Proofs.YtehmoacggikfmaaDoor
