/- Is an edge on two triangles that are there? The reference's way. -/
import Derived.Test.YtmjneoaciopioaaDoorQlah
import Derived.Test.YtmjneoaciopioaaDoorQlan
import Derived.Test.YtmjneoaciopioaaDoorQlat
namespace Go.Proofs.YtmjneoaciopioaaDoor
open Go.RowKit
attribute [local go_sem ↓] Go.wp_at_zero Go.wp_at_succ

theorem bl_undrew {v u : World} (h : Below v.drew.heap.size v.drew u) : Below v.heap.size v u := bl_via (bl_drew (bl_refl v)) h
/-- Triangles in a row of memory, as a slice has them. -/
def TRow (w : World) (a : Option Addr) (l : List (Int × Int × Int)) : Prop :=
  ∀ i (h : i < l.length), ∃ g, a = some ⟨g, 0, none⟩ ∧ w.cell? ⟨g, i * 3, none⟩ = some (.int .i64 l[i].1) ∧ w.cell? ⟨g, i * 3 + 1, none⟩ = some (.int .i64 l[i].2.1) ∧ w.cell? ⟨g, i * 3 + 2, none⟩ = some (.int .i64 l[i].2.2)
theorem TRow.kept {w wx : World} {a : Option Addr} {l : List (Int × Int × Int)} (h : TRow w a l) (hb : Below w.heap.size w wx) : TRow wx a l := fun i hi => by
  obtain ⟨g, e, h0, h1, h2⟩ := h i hi
  exact ⟨g, e, cl_kept hb h0, cl_kept hb h1, cl_kept hb h2⟩
theorem flatV_at : ∀ (l : List (Int × Int × Int)) (i : Nat) (h : i < l.length), (flatV l)[i * 3]? = some (.int .i64 l[i].1) ∧ (flatV l)[i * 3 + 1]? = some (.int .i64 l[i].2.1) ∧ (flatV l)[i * 3 + 2]? = some (.int .i64 l[i].2.2)
  | t :: l, 0, _ => by simp [flatV]
  | t :: l, i + 1, h => by
    have ih := flatV_at l i (by simpa using h)
    have e : flatV (t :: l) = [Value.int .i64 t.1, .int .i64 t.2.1, .int .i64 t.2.2] ++ flatV l := by simp [flatV]
    rw [e, show (i + 1) * 3 = 3 + i * 3 by omega]
    simp only [List.getElem_cons_succ]
    refine ⟨?_, ?_, ?_⟩
    · rw [List.getElem?_append_right (by simp)]
      simpa using ih.1
    · rw [List.getElem?_append_right (by simp; omega)]
      rw [show 3 + i * 3 + 1 - [Value.int .i64 t.1, Value.int .i64 t.2.1, Value.int .i64 t.2.2].length = i * 3 + 1 by simp; omega]
      exact ih.2.1
    · rw [List.getElem?_append_right (by simp; omega)]
      rw [show 3 + i * 3 + 2 - [Value.int .i64 t.1, Value.int .i64 t.2.1, Value.int .i64 t.2.2].length = i * 3 + 2 by simp; omega]
      exact ih.2.2
theorem own_tris {w : World} {base : Nat} {v : Value} {l : List (Int × Int × Int)} (h : w.ownsRow base 80 3 v l.length (flatV l)) : ∃ a cap, v = .slice a l.length cap ∧ TRow w a l := by
  rcases h.2 with ⟨rfl, h0⟩ | ⟨g, cap, cur, rfl, _⟩
  · exact ⟨none, 0, by rw [h0], fun i hi => by omega⟩
  · refine ⟨some ⟨g, 0, none⟩, cap, rfl, fun i hi => ⟨g, rfl, ?_⟩⟩
    have f := flatV_at l i hi
    exact ⟨(h.cellAt _ (by omega)).trans f.1, (h.cellAt _ (by omega)).trans f.2.1, (h.cellAt _ (by omega)).trans f.2.2⟩

theorem ty_bd {zs : List Int} {W H : Nat} (hW : W ≤ 8) (hH : H ≤ 8) : ∀ t ∈ ty zs W H, (0 ≤ t.1 ∧ t.1 ≤ 8) ∧ (0 ≤ t.2.1 ∧ t.2.1 ≤ 8) ∧ (0 ≤ t.2.2 ∧ t.2.2 ≤ 3) := by
  intro t ht
  simp only [ty, tx, tk, List.mem_flatMap, List.mem_map, List.mem_filter, List.mem_range] at ht
  obtain ⟨y, hy, x, hx, k, ⟨hk, _⟩, rfl⟩ := ht
  dsimp only
  omega

/-- How many of some triangles have an edge. -/
def cnt (l : List (Int × Int × Int)) (p q r s : Int) : Nat := l.countP fun t => hasB t.1 t.2.1 t.2.2 p q r s
theorem cnt_next {l : List (Int × Int × Int)} {p q r s : Int} {i : Nat} (h : i < l.length) : cnt (l.take (i + 1)) p q r s = cnt (l.take i) p q r s + if hasB l[i].1 l[i].2.1 l[i].2.2 p q r s = true then 1 else 0 := by
  unfold cnt
  rw [List.take_succ_eq_append_getElem h, List.countP_append]
  simp [List.countP_cons]
theorem cnt_le (l : List (Int × Int × Int)) (p q r s : Int) (i : Nat) : cnt (l.take i) p q r s ≤ l.length := by
  unfold cnt
  exact Nat.le_trans List.countP_le_length (by simp; omega)

set_option maxRecDepth 100000 in
set_option maxHeartbeats 3200000 in
theorem innerEdge_any (W H b off cap : Nat) (zs : List Int) (c : Value) (p q r s : Int) (w : World) (hr : Row w (some ⟨b, off, none⟩) zs) (hW : 1 ≤ W ∧ W ≤ 8) (hH : 1 ≤ H ∧ H ≤ 8) (hl : zs.length = W * H) (hm : maskB zs = true) :
    Calls Tryd.prog 28 #[.agg #[.int .i64 (W : Int), .int .i64 (H : Int), .slice (some ⟨b, off, none⟩) zs.length cap, c], .agg #[.int .i64 p, .int .i64 q, .int .i64 r, .int .i64 s]] w fun e w' => e = .returned (.bool (decide (cnt (ty zs W H) p q r s = 2))) ∧ Below w.heap.size w w' := by
  have C38 : Hid (∀ W' : World, Below w.heap.size w W' → Calls Tryd.prog 30 #[.agg #[.int .i64 (W : Int), .int .i64 (H : Int), .slice (some ⟨b, off, none⟩) zs.length cap, c]] W' fun e w' => ∃ v, e = .returned v ∧ w'.ownsRow (W'.heap.size + 1) 80 3 v (ty zs W H).length (flatV (ty zs W H)) ∧ Below W'.heap.size W' w') := fun W' hW' => trisOf_any W H b off cap zs c W' (hr.kept hW') hW hH hl hm
  have HBD : Hid (∀ t ∈ ty zs W H, (0 ≤ t.1 ∧ t.1 ≤ 8) ∧ (0 ≤ t.2.1 ∧ t.2.1 ≤ 8) ∧ (0 ≤ t.2.2 ∧ t.2.2 ≤ 3)) := ty_bd hW.2 hH.2
  have hlen : (ty zs W H).length ≤ 256 := by have := ty_len zs W H hW.2; omega
  clear hr hl hm hW hH
  obtain ⟨L, hL⟩ : ∃ L, L = ty zs W H := ⟨_, rfl⟩
  rw [← hL] at C38 HBD hlen ⊢
  clear hL
  go_enter Tryd.func28, Tryd.ntmps28
  go_wp2_with (go_at_call 30; refine (C38.out _ (by with_reducible exact bl_alloc (bl_alloc (bl_refl _)))).mono ?_; rintro e w1 ⟨v, rfl, ho, hb⟩; have hQ : Qd w1 (w.heap.size + 1) p q r s := Qd.kept (by simp [Qd, go_sem]) hb; have hB : Below w.heap.size w w1 := bl_via (bl_alloc (bl_alloc (bl_refl _))) hb; obtain ⟨a, ca, rfl, hT⟩ := own_tris ho; have HW : Hid (Qd w1 (w.heap.size + 1) p q r s ∧ TRow w1 a L ∧ Below w.heap.size w w1) := ⟨hQ, hT, hB⟩; clear hQ hB hT ho hb)
  go_loopg [6, 7] L.length (fun g s6 s7 wx => ∃ i : Nat, i ≤ L.length ∧ g = L.length - i ∧ s6 = .int .i64 ((cnt (L.take i) p q r s : Nat) : Int) ∧ s7 = .int .i64 (i : Int) ∧ Qd wx (w.heap.size + 1) p q r s ∧ TRow wx a L ∧ Below w.heap.size w wx)
  case atStart => exact ⟨0, by omega, rfl, by simp [cnt], rfl, HW.out⟩
  case round =>
    clear HW
    obtain ⟨i, hi, rfl, rfl, rfl, hQ, hT, hB⟩ := hrel
    have HR : Hid (Qd wr (w.heap.size + 1) p q r s ∧ TRow wr a L ∧ Below w.heap.size w wr) := ⟨hQ, hT, hB⟩
    clear hQ hT hB
    obtain ⟨n, hn⟩ : ∃ n, n = cnt (L.take i) p q r s := ⟨_, rfl⟩
    have hn2 : n ≤ 256 := by have := cnt_le L p q r s i; omega
    have HN : Hid (n = cnt (L.take i) p q r s) := hn
    rw [← hn]
    clear hn
    by_cases h1 : i < L.length
    · have i1 : (i : Int) < (L.length : Int) := by omega
      have i0 : (0 : Int) ≤ (i : Int) := by omega
      obtain ⟨q0, q1, q2, q3⟩ := HR.out.1
      obtain ⟨g, rfl, t0, t1, t2⟩ := HR.out.2.1 i h1
      have hbd := HBD.out _ (List.getElem_mem h1)
      obtain ⟨t, ht⟩ : ∃ t, t = L[i] := ⟨_, rfl⟩
      obtain ⟨x, y, k⟩ := t
      rw [← ht] at t0 t1 t2 hbd
      dsimp only at t0 t1 t2 hbd
      have HCN : Hid (cnt (L.take (i + 1)) p q r s = n + if hasB x y k p q r s = true then 1 else 0) := by
        show cnt (L.take (i + 1)) p q r s = n + if hasB x y k p q r s = true then 1 else 0
        rw [cnt_next h1, ← ht, ← HN.out]
      have C53 : Hid (∀ W' : World, Calls Tryd.prog 61 #[.agg #[.int .i64 x, .int .i64 y, .int .i64 k], .agg #[.int .i64 p, .int .i64 q, .int .i64 r, .int .i64 s]] W' fun e w' => e = .returned (.bool (hasB x y k p q r s)) ∧ Below W'.heap.size W' w') := fun W' => hasEdge_any x y k p q r s W' (by omega) (by omega) (by omega) (by omega) (by omega) (by omega)
      clear ht hbd
      have zq : w.heap.size + 1 < wr.heap.size := World.block_lt_of_cell? _ _ q0
      have zg : g < wr.heap.size := World.block_lt_of_cell? _ _ t0
      go_wp2
      go_cut [21] (fun s21 wx => s21 = .bool (hasB x y k p q r s) ∧ Below wr.heap.size wr wx)
      case first =>
        go_region_held3 (fun w' => w'.cell? ⟨g, i * 3, none⟩ = some (.int .i64 x) ∧ w'.cell? ⟨g, i * 3 + 1, none⟩ = some (.int .i64 y) ∧ w'.cell? ⟨g, i * 3 + 2, none⟩ = some (.int .i64 k) ∧ w'.cell? ⟨w.heap.size + 1, 0, none⟩ = some (.int .i64 p) ∧ w'.cell? ⟨w.heap.size + 1, 1, none⟩ = some (.int .i64 q) ∧ w'.cell? ⟨w.heap.size + 1, 2, none⟩ = some (.int .i64 r) ∧ w'.cell? ⟨w.heap.size + 1, 3, none⟩ = some (.int .i64 s))
          ((refine ⟨?_, ?_, ?_, ?_, ?_, ?_, ?_⟩ <;> (repeat' (first | (with_reducible assumption) | (dsimp only; omega) | (simp [go_sem]; done) | (with_reducible refine al_old ?_) | (with_reducible refine dr_old ?_)))))
          ((go_at_call 61; refine (C53.out _).mono ?_; rintro e w8 ⟨rfl, hb⟩; have t0' : w8.cell? ⟨g, i * 3, none⟩ = some (.int .i64 x) := cl_kept hb (by with_reducible (repeat (first | assumption | refine dr_old ?_))); have t1' : w8.cell? ⟨g, i * 3 + 1, none⟩ = some (.int .i64 y) := cl_kept hb (by with_reducible (repeat (first | assumption | refine dr_old ?_))); have t2' : w8.cell? ⟨g, i * 3 + 2, none⟩ = some (.int .i64 k) := cl_kept hb (by with_reducible (repeat (first | assumption | refine dr_old ?_))); have q0' : w8.cell? ⟨w.heap.size + 1, 0, none⟩ = some (.int .i64 p) := cl_kept hb (by with_reducible (repeat (first | assumption | refine dr_old ?_))); have q1' : w8.cell? ⟨w.heap.size + 1, 1, none⟩ = some (.int .i64 q) := cl_kept hb (by with_reducible (repeat (first | assumption | refine dr_old ?_))); have q2' : w8.cell? ⟨w.heap.size + 1, 2, none⟩ = some (.int .i64 r) := cl_kept hb (by with_reducible (repeat (first | assumption | refine dr_old ?_))); have q3' : w8.cell? ⟨w.heap.size + 1, 3, none⟩ = some (.int .i64 s) := cl_kept hb (by with_reducible (repeat (first | assumption | refine dr_old ?_))); have hq : Below wr.heap.size wr w8 := (by with_reducible (first | exact hb | exact bl_undrew hb | exact bl_undrew (bl_undrew hb))); have HQ : Hid (Below wr.heap.size wr w8) := hq; clear hb hq))
        all_goals
          go_wp2
          go_meet
          case rel =>
            refine ⟨rfl, ?_⟩
            with_reducible repeat' (first | exact HQ.out | refine bl_drew ?_)
      case rest =>
        obtain ⟨rfl, hBc⟩ := hcut
        have HC : Hid (Qd wc (w.heap.size + 1) p q r s ∧ TRow wc (some ⟨g, 0, none⟩) L ∧ Below w.heap.size w wc) := ⟨HR.out.1.kept hBc, HR.out.2.1.kept hBc, bl_via HR.out.2.2 hBc⟩
        clear hBc q0 q1 q2 q3 t0 t1 t2 zq zg HR
        cases hh : hasB x y k p q r s
        · have HM : Hid (cnt (L.take (i + 1)) p q r s = n) := by
            show cnt (L.take (i + 1)) p q r s = n
            rw [HCN.out, hh]
            simp
          go_wp2
          go_roundg (L.length - (i + 1))
          case measure => omega
          case rel => exact ⟨i + 1, by omega, rfl, by rw [HM.out], by go_num, HC.out⟩
        · have HM : Hid (cnt (L.take (i + 1)) p q r s = n + 1) := by
            show cnt (L.take (i + 1)) p q r s = n + 1
            rw [HCN.out, hh]
            simp
          go_wp2
          go_roundg (L.length - (i + 1))
          case measure => omega
          case rel => exact ⟨i + 1, by omega, rfl, by rw [HM.out]; go_num, by go_num, HC.out⟩
    · have i1 : ¬ (i : Int) < (L.length : Int) := by omega
      have HM : Hid (n = cnt L p q r s) := by
        show n = cnt L p q r s
        rw [HN.out, List.take_of_length_le (by omega)]
      go_wp2
      go_ret
      refine ⟨ret_bool ?_, HR.out.2.2⟩
      rw [← HM.out]
      rw [Bool.eq_iff_iff]
      simp
      omega
end Go.Proofs.YtmjneoaciopioaaDoor
