/- those, All, sameRows. -/
import Derived.Test.YtdflindoemffaaaPile
namespace Go.Proofs.Ytdflindoemffaaa
open Go.RowKit

theorem bl_grown_none {w v : World} (h : w.grownBy v none) : Below w.heap.size w v := (bl_refl w).grown h (Nat.le_refl _) (fun k hk => by cases hk)
theorem pow_bd {n f : Nat} (h8 : n ≤ 8) (hf : f ≤ 8) : n ^ f ≤ 20000000 :=
  Nat.le_trans (Nat.pow_le_pow_left h8 f) (Nat.le_trans (Nat.pow_le_pow_right (by omega) hf) (by decide))
set_option maxRecDepth 100000 in
set_option maxHeartbeats 1600000 in
theorem those_any (n : Nat) (w : World) (h1 : 1 ≤ n) (h8 : n ≤ 8) :
    Calls Try.prog 29 #[.int .i64 (n : Int), .func (.func 23) #[] #[]] w fun e w' => ∃ z v es, e = .returned v ∧ OutS w' z v es ∧ lsO es = ords gdB n n [] ∧ Below w.heap.size w w' := by
  have CP : Hid (∀ W : World, St w W w.heap.size (w.heap.size + 1) (w.heap.size + 2) n (w.heap.size + 3) (.func (.func 23) #[] #[]) [] [] → Calls Try.prog 35 #[.slice (some ⟨w.heap.size + 2, 0, none⟩) 0 n, .int .i64 (n : Int), .func (.func 36) #[] #[.pointer (some ⟨w.heap.size, 0, none⟩), .pointer (some ⟨w.heap.size + 1, 0, none⟩)]] W fun e w' => e = .returned (.tuple #[]) ∧ ∃ es', St w w' w.heap.size (w.heap.size + 1) (w.heap.size + 2) n (w.heap.size + 3) (.func (.func 23) #[] #[]) es' [] ∧ lsO es' = ords gdB n n []) := fun W hS => by
    have := pile_any w w.heap.size (w.heap.size + 1) (w.heap.size + 2) n (w.heap.size + 3) h1 h8 n [] [] W (by simp) (pp_nil n) hS (by rw [List.length_nil, Nat.zero_add]; exact pow_bd h8 h8)
    simpa [lsO] using this
  obtain ⟨i3, hI⟩ := info_parts inf3
  have HI : Hid (Try.prog.info? 3 = some i3 ∧ i3.zero = some (.int .i64 0) ∧ i3.size = 1 ∧ i3.bytes = 8) := hI
  clear hI
  go_enter Try.func29, Try.ntmps29
  go_wp2_with (at_make; refine wpList_make_own _ rfl _ _ 22 rfl w.heap.size 3 i3 (.int .i64 0) 1 Try.underlying22 HI.out.1 HI.out.2.1 HI.out.2.2.1 _ _ _ n rfl rfl rfl (by rw [HI.out.2.2.2]; omega) (by unfold maxLen; omega) (by simp; omega) ?mk)
  case mk =>
    intro w1 hown hg1
    have HS : Hid (St w w1 w.heap.size (w.heap.size + 1) (w.heap.size + 2) n (w.heap.size + 3) (.func (.func 23) #[] #[]) [] []) := by
      have hb := bl_grown_none hg1
      have hlt := (hown.lt _ rfl).2
      simp at hlt
      refine ⟨bl_via (bl_alloc (bl_alloc (bl_refl w))) hb, ⟨by omega, by omega, by omega, by omega, by omega, by omega, by omega, by omega, by omega⟩, cl_kept hb (by simp [go_sem]), ?_, _, fr_grown (v := .slice none 0 0) (by simp [go_sem]) ?_ hg1 (by simp), OutS.nil _ _⟩
      · simpa [rowI] using hown
      · have := frozen_new (w.alloc (.cells #[.func (.func 23) #[] #[]] 30)) #[.slice none 0 0] 32 0
        rw [show (w.alloc (.cells #[.func (.func 23) #[] #[]] 30)).heap.size = w.heap.size + 1 by simp] at this
        exact this
    clear hown hg1
    go_wp2_with (go_at_call 35; refine (CP.out _ HS.out).mono ?_; rintro e w2 ⟨rfl, es', hS', hls⟩; have HE : Hid (St w w2 w.heap.size (w.heap.size + 1) (w.heap.size + 2) n (w.heap.size + 3) (.func (.func 23) #[] #[]) es' [] ∧ lsO es' = ords gdB n n []) := ⟨hS', hls⟩; obtain ⟨fv, hfv, hO⟩ := hS'.2.2.2.2; have p0 := hfv.1; have HO : Hid (OutS w2 (w.heap.size + 3) fv es') := hO; have zf : w.heap.size + 1 < w2.heap.size := World.block_lt_of_cell? _ _ p0; clear hS' hls hfv hO)
    go_ret
    exact ⟨_, fv, es', rfl, HO.out, HE.out.2, HE.out.1.1⟩
set_option maxRecDepth 100000 in
theorem all_no (n : Int) (w : World) (h : cntB n = false) : Calls Try.prog 15 #[.int .i64 n] w fun e w' => e = .returned (.tuple #[.slice none 0 0, .int .i64 2]) ∧ Below w.heap.size w w' := by
  have C := counted_any n w
  rw [h] at C
  have CN : Hid (Calls Try.prog 28 #[.int .i64 n] w fun e w' => e = .returned (.bool false) ∧ Below w.heap.size w w') := C
  clear C h
  go_enter Try.func15, Try.ntmps15
  go_wp2_with (go_at_call 28; refine CN.out.mono ?_; rintro e w1 ⟨rfl, hb⟩)
  go_ret2
  exact ⟨rfl, hb⟩
set_option maxRecDepth 100000 in
theorem all_ok (n : Nat) (w : World) (h1 : 1 ≤ n) (h8 : n ≤ 8) : Calls Try.prog 15 #[.int .i64 (n : Int)] w fun e w' => ∃ z v es, e = .returned (.tuple #[v, .int .i64 0]) ∧ OutS w' z v es ∧ lsO es = ords gdB n n [] ∧ Below w.heap.size w w' := by
  have C := counted_any (n : Int) w
  rw [show cntB (n : Int) = true by simp [cntB]; omega] at C
  have CN : Hid (Calls Try.prog 28 #[.int .i64 (n : Int)] w fun e w' => e = .returned (.bool true) ∧ Below w.heap.size w w') := C
  have CT : Hid (∀ W : World, Calls Try.prog 29 #[.int .i64 (n : Int), .func (.func 23) #[] #[]] W fun e w' => ∃ z v es, e = .returned v ∧ OutS w' z v es ∧ lsO es = ords gdB n n [] ∧ Below W.heap.size W w') := fun W => those_any n W h1 h8
  clear C
  go_enter Try.func15, Try.ntmps15
  go_wp2_with (first | (go_at_call 28; refine CN.out.mono ?_; rintro e w1 ⟨rfl, hb⟩) | (go_at_call 29; refine (CT.out _).mono ?_; rintro e w2 ⟨z, v, es, rfl, hO, hls, hb2⟩; have H2 : Hid (OutS w2 z v es ∧ lsO es = ords gdB n n [] ∧ Below w.heap.size w w2) := ⟨hO, hls, bl_via hb hb2⟩; clear hO hls hb2))
  go_ret2
  exact ⟨z, v, es, rfl, H2.out⟩
set_option maxRecDepth 100000 in
set_option maxHeartbeats 800000 in
theorem sameRows_any (x y : Value) (z z' : Nat) (es es' : List (Nat × Nat × List Int)) (w : World) (hx : OutS w z x es) (hy : OutS w z' y es') (he : lsO es = lsO es') (hl : es.length ≤ 20000000) (h8 : ∀ l ∈ lsO es, l.length ≤ 8) :
    Calls Try.prog 16 #[x, y] w fun e w' => e = .returned (.bool true) ∧ Below w.heap.size w w' := by
  have hel : es.length = es'.length := by
    have := congrArg List.length he
    simpa [lsO] using this
  obtain ⟨a, c, rfl, hR⟩ := es_cells hx
  obtain ⟨b, d, rfl, hS⟩ := es_cells hy
  rw [← hel]
  have HRD : Hid (∀ i, ∀ hi : i < es.length, ∃ g h gi ci hi' ci' m, a = some ⟨g, 0, none⟩ ∧ b = some ⟨h, 0, none⟩ ∧ w.cell? ⟨g, i, none⟩ = some (.slice (some ⟨gi, 0, none⟩) m ci) ∧ w.cell? ⟨h, i, none⟩ = some (.slice (some ⟨hi', 0, none⟩) m ci') ∧ ∀ W : World, Below w.heap.size w W → Calls Try.prog 13 #[.slice (some ⟨gi, 0, none⟩) m ci, .slice (some ⟨hi', 0, none⟩) m ci'] W fun e w' => e = .returned (.bool true) ∧ Below W.heap.size W w') := fun i hi => by
    have hi2 : i < es'.length := by omega
    obtain ⟨g, e1, c1, r1⟩ := hR i hi
    obtain ⟨h, e2, c2, r2⟩ := hS i hi2
    have hee : es[i].2.2 = es'[i].2.2 := by
      have h1 : (lsO es)[i]? = some es[i].2.2 := by simp [lsO, hi]
      have h2 : (lsO es')[i]? = some es'[i].2.2 := by simp [lsO, hi2]
      rw [he, h2] at h1
      exact (Option.some.inj h1).symm
    refine ⟨g, h, es[i].1, es[i].2.1, es'[i].1, es'[i].2.1, es[i].2.2.length, e1, e2, c1, ?_, fun W hW => ?_⟩
    · rw [c2, sv, hee]
    · have hlen : es[i].2.2.length ≤ 8 := h8 _ (by simp only [lsO, List.mem_map]; exact ⟨es[i], List.getElem_mem hi, rfl⟩)
      rw [← hee] at r2
      have := same_any _ _ _ _ W (rw_sg (c := es[i].2.1) (r1.kept hW)) (rw_sg (c := es'[i].2.1) (r2.kept hW)) (by omega) (by omega)
      rwa [show (es[i].2.2 == es[i].2.2) = true by simp] at this
  obtain ⟨n, hn⟩ : ∃ n, n = es.length := ⟨_, rfl⟩
  rw [← hn] at HRD hl ⊢
  have q : ((n : Int) != (n : Int)) = false := by simp
  clear hR hS hx hy he h8 hel hn
  go_enter Try.func16, Try.ntmps16
  go_wp2
  go_loopg [5] n (fun gk s5 wx => ∃ i : Nat, i ≤ n ∧ gk = n - i ∧ s5 = .int .i64 (i : Int) ∧ Below w.heap.size w wx)
  case atStart => exact ⟨0, by omega, rfl, rfl, bl_refl _⟩
  case round =>
    obtain ⟨i, hi, rfl, rfl, hB⟩ := hrel
    have HB : Hid (Below w.heap.size w wr) := hB
    clear hB
    by_cases h1 : i < n
    · have i1 : (i : Int) < (n : Int) := by omega
      have i0 : (0 : Int) ≤ (i : Int) := by omega
      obtain ⟨g, h, gi, ci, hi', ci', m, rfl, rfl, c0, c1, C1⟩ := HRD.out i h1
      replace c0 := cl_kept HB.out c0
      replace c1 := cl_kept HB.out c1
      have zg : g < wr.heap.size := World.block_lt_of_cell? _ _ c0
      have zh : h < wr.heap.size := World.block_lt_of_cell? _ _ c1
      have CH : Hid (∀ W : World, Below w.heap.size w W → Calls Try.prog 13 #[.slice (some ⟨gi, 0, none⟩) m ci, .slice (some ⟨hi', 0, none⟩) m ci'] W fun e w' => e = .returned (.bool true) ∧ Below W.heap.size W w') := C1
      clear C1
      have kc := Kin.cells wr
      have kn : Nonempty (Kin wr) := ⟨⟨wr, bl_refl _⟩⟩
      go_wp2
      refine wp_region_kin (by kernel_rfl) (by kernel_rfl) ?_
      repeat (go_big_quiet_step ((go_at_call 13; with_reducible exact kin_of (CH.out _ (bl_via HB.out (Kin.h _))))))
      refine wpQuiet_nil ?_
      intro wq hw'
      obtain ⟨nq, hw''⟩ := hw'
      have hq : Below wr.heap.size wr wq := hw'' ▸ nq.h
      clear hw'' nq kc kn
      go_wp2
      go_roundg (n - (i + 1))
      case measure => omega
      case rel => exact ⟨i + 1, by omega, rfl, by go_num, bl_via HB.out hq⟩
    · have i1 : ¬ (i : Int) < (n : Int) := by omega
      obtain rfl : i = n := by omega
      go_wp2
      go_ret
      exact ⟨rfl, HB.out⟩
end Go.Proofs.Ytdflindoemffaaa
