/- The law: a text is read as the reference reads it. -/
import Derived.Test.YtehmoacggikfmaaGreatDoorQlbu
import Derived.Test.YtehmoacggikfmaaGreatDoorQlbv
import Derived.Test.YtehmoacggikfmaaGreatDoorQlby
import Derived.Test.YtehmoacggikfmaaGreatDoorQlbz
namespace Go.Proofs.YtehmoacggikfmaaGreatDoor
open Go.RowKit

theorem creaseLine_any : C19 := fun W H b kc A cap cc zs ca cs ws w hz hW hH hl hm hs hj hco hcl => by
  by_cases h5 : ws.length = 5
  · match ws, h5, hs with
    | [x0, x1, x2, x3, x4], _, hs => exact cl_five W H b 0 kc A cap cc zs ca cs x0 x1 x2 x3 x4 w hz hW hH hl hm hs hj hco hcl
  · exact cl_len W H b 0 kc A cap cc zs ca cs ws w hj h5
theorem flt_uni {s : ByteArray} {c d : Int} {n k : Nat} (h1 : FltOf s c n) (h2 : FltOf s d k) : c = d ∧ n = k := by
  rcases h1 with ⟨a1, rfl, rfl⟩ | ⟨a1, ⟨st, e1, hc⟩ | ⟨W, H, m, cs, e1, hJ, rfl, rfl⟩⟩
  · rcases h2 with ⟨b1, rfl, rfl⟩ | ⟨b1, _⟩
    · exact ⟨rfl, rfl⟩
    · omega
  · rcases h2 with ⟨b1, _, _⟩ | ⟨b1, ⟨st', e2, hd⟩ | ⟨W', H', m', cs', e2, hJ', rfl, rfl⟩⟩
    · omega
    · rw [e1] at e2
      simp only [Prod.mk.injEq] at e2
      exact ⟨e2.1, e2.2.1⟩
    · rw [e1] at e2
      simp only [Prod.mk.injEq] at e2
      exact absurd e2.1 hc
  · rcases h2 with ⟨b1, _, _⟩ | ⟨b1, ⟨st', e2, hd⟩ | ⟨W', H', m', cs', e2, hJ', rfl, rfl⟩⟩
    · omega
    · rw [e1] at e2
      simp only [Prod.mk.injEq] at e2
      exact absurd e2.1.symm hd
    · exact ⟨rfl, rfl⟩
theorem flt_sht {s : ByteArray} {c : Int} {n W H : Nat} {m : List Int} {cs : List C5} (h1 : FltOf s c n) (h2 : ShtOf s W H m cs) : False := by
  obtain ⟨b1, e2, hJ, _⟩ := h2
  rcases h1 with ⟨a1, _⟩ | ⟨a1, ⟨st, e1, hc⟩ | ⟨W', H', m', cs', e1, hJ', _, _⟩⟩
  · omega
  · rw [e1] at e2
    simp only [Prod.mk.injEq] at e2
    exact hc e2.1
  · rw [e1] at e2
    simp only [Prod.mk.injEq, RS.mk.injEq] at e2
    obtain ⟨_, _, rfl, rfl, _, rfl, rfl⟩ := e2
    exact hJ' hJ
theorem sht_uni {s : ByteArray} {W H W' H' : Nat} {m m' : List Int} {cs cs' : List C5} (h1 : ShtOf s W H m cs) (h2 : ShtOf s W' H' m' cs') : W = W' ∧ H = H' ∧ m = m' ∧ cs = cs' := by
  obtain ⟨_, e1, _⟩ := h1
  obtain ⟨_, e2, _⟩ := h2
  rw [e1] at e2
  simp only [Prod.mk.injEq, RS.mk.injEq, true_and] at e2
  exact ⟨e2.1, e2.2.1, e2.2.2.2.1, e2.2.2.2.2⟩
theorem j_row {w : World} {ca : Option Addr} {cs : List C5} (h : JRow w ca cs) : Row w ca (ksOf cs) := fun i hi => by
  rw [ksOf_len] at hi
  have hq : i / 5 < cs.length := by omega
  obtain ⟨g, e, h0, h1, h2, h3, h4⟩ := h (i / 5) hq
  obtain ⟨k0, k1, k2, k3, k4⟩ := ks_at cs (i / 5) hq
  refine ⟨g, 0, e, ?_⟩
  have hg : ∀ j, i = i / 5 * 5 + j → (ksOf cs)[i]'(by rw [ksOf_len]; omega) = ck (ksOf cs) (i / 5) j := fun j hj => by
    unfold ck
    rw [← hj, List.getD_eq_getElem?_getD, List.getElem?_eq_getElem (by rw [ksOf_len]; omega)]
    rfl
  rw [Nat.zero_add]
  have hm : i % 5 < 5 := Nat.mod_lt _ (by decide)
  have hd := Nat.div_add_mod i 5
  obtain ⟨r, hr⟩ : ∃ r, r = i % 5 := ⟨_, rfl⟩
  have hir : i = i / 5 * 5 + r := by omega
  rw [hg r hir]
  have : r = 0 ∨ r = 1 ∨ r = 2 ∨ r = 3 ∨ r = 4 := by omega
  rcases this with e5 | e5 | e5 | e5 | e5 <;> rw [e5] at hir ⊢
  · rw [k0]; rw [Nat.add_zero] at hir; rw [← hir] at h0; exact h0
  · rw [k1]; rw [← hir] at h1; exact h1
  · rw [k2]; rw [← hir] at h2; exact h2
  · rw [k3]; rw [← hir] at h3; exact h3
  · rw [k4]; rw [← hir] at h4; exact h4
theorem eql28 (c n : Int) (w : World) : (binOp .eql 28 (.agg #[.int .i64 c, .int .i64 n]) (.agg #[.int .i64 c, .int .i64 n])).run Tryz.prog w = .ok (.bool true) w := by
  simp [go_sem]
theorem read_all (s : ByteArray) (w : World) (hx : MX w) (hst : Steps w) : Calls Tryz.prog 4 #[.string s] w fun e w' => RdTo w w' s e := by
  by_cases hs : s.size ≤ 8000
  · exact read_any s w hs hx hst
  · exact read_big s w (by omega)
theorem readSheet_all (s : ByteArray) (w : World) : Calls Tryz.prog 5 #[.string s] w fun e w' => RsTo w w' s e := by
  by_cases hs : s.size ≤ 8000
  · exact readSheet_any creaseLine_any s w hs
  · exact readSheet_big s w (by omega)
theorem row_nix (w : World) (a : Option Addr) : Row w a [] := fun i hi => by simp at hi
set_option maxRecDepth 100000 in
set_option maxHeartbeats 6400000 in
theorem sheetReads_any (s : ByteArray) (w : World) (hx : MX w) (hst : Steps w) : Calls Tryz.prog 3 #[.string s] w fun e w' => e = .returned (.bool true) ∧ Below w.heap.size w w' := by
  have CR := read_all s w hx hst
  clear hx hst
  go_enter Tryz.func3, Tryz.ntmps3
  go_wp2_with (fail)
  refine CR.mono ?_
  rintro e w1 (⟨c, n, rfl, hf, hb⟩ | ⟨W, H, m, cs, mb, v, base, rfl, hs, hrow, hown, hb⟩)
  · as_aux_lemma =>
      have C5a : Hid (∀ V : World, Calls Tryz.prog 5 #[.string s] V fun e w' => e = .returned (.tuple #[.agg #[.int .i64 0, .int .i64 0, .slice none 0 0, .slice none 0 0], .agg #[.int .i64 c, .int .i64 (n : Int)]]) ∧ Below V.heap.size V w') := fun V => (readSheet_all s V).mono (by
        rintro e w' (⟨d, k, rfl, hf2, hb2⟩ | ⟨W, H, m, cs, mb, ca, cc, rfl, hs, hrow, hj, hb⟩)
        · obtain ⟨rfl, rfl⟩ := flt_uni hf hf2
          exact ⟨rfl, hb2⟩
        · exact absurd (flt_sht hf hs) (fun h => h))
      have C6a : Hid (∀ V : World, Calls Tryz.prog 6 #[.agg #[.int .i64 0, .int .i64 0, .slice none 0 0, .slice none 0 0], .agg #[.int .i64 0, .int .i64 0, .slice none 0 0, .slice none 0 0]] V fun e w' => e = .returned (.bool true) ∧ Below V.heap.size V w') := fun V => sameSheet_yes 0 0 none none none none 0 0 0 0 0 [] [] V (row_nix _ _) (row_nix _ _) (row_nix _ _) (row_nix _ _) rfl (by decide) (by decide)
      have EQ := eql28 c (n : Int)
      have HB1 : Hid (Below w.heap.size w w1) := hb
      clear hf hb CR
      obtain ⟨w2, hw2⟩ : ∃ V, V = (w1.alloc (.cells #[.int .i64 0, .int .i64 0, .slice none 0 0, .slice none 0 0] 25)).alloc (.cells #[.int .i64 c, .int .i64 (n : Int)] 28) := ⟨_, rfl⟩
      have HB2 : Hid (Below w1.heap.size w1 w2) := by
        show Below w1.heap.size w1 w2
        rw [hw2]
        exact bl_alloc (bl_alloc (bl_refl _))
      have P2 : Hid (w2.cell? ⟨w1.heap.size, 0, none⟩ = some (.int .i64 0) ∧ w2.cell? ⟨w1.heap.size, 1, none⟩ = some (.int .i64 0) ∧ w2.cell? ⟨w1.heap.size, 2, none⟩ = some (.slice none 0 0) ∧ w2.cell? ⟨w1.heap.size, 3, none⟩ = some (.slice none 0 0) ∧ w2.cell? ⟨w1.heap.size + 1, 0, none⟩ = some (.int .i64 c) ∧ w2.cell? ⟨w1.heap.size + 1, 1, none⟩ = some (.int .i64 (n : Int))) := by
        rw [hw2]
        refine ⟨?_, ?_, ?_, ?_, ?_, ?_⟩ <;> simp [go_sem]
      go_wp2_with (fail)
      rw [← hw2]
      clear hw2
      refine (C5a.out _).mono ?_
      rintro e w3 ⟨rfl, hb3⟩
      have p0 : w3.cell? ⟨w1.heap.size, 0, none⟩ = some (.int .i64 0) := cl_kept hb3 P2.out.1
      have p1 : w3.cell? ⟨w1.heap.size, 1, none⟩ = some (.int .i64 0) := cl_kept hb3 P2.out.2.1
      have p2 : w3.cell? ⟨w1.heap.size, 2, none⟩ = some (.slice none 0 0) := cl_kept hb3 P2.out.2.2.1
      have p3 : w3.cell? ⟨w1.heap.size, 3, none⟩ = some (.slice none 0 0) := cl_kept hb3 P2.out.2.2.2.1
      have q0 : w3.cell? ⟨w1.heap.size + 1, 0, none⟩ = some (.int .i64 c) := cl_kept hb3 P2.out.2.2.2.2.1
      have q1 : w3.cell? ⟨w1.heap.size + 1, 1, none⟩ = some (.int .i64 (n : Int)) := cl_kept hb3 P2.out.2.2.2.2.2
      have z3 : w1.heap.size + 1 < w3.heap.size := World.block_lt_of_cell? _ _ q0
      have z4 : w1.heap.size < w3.heap.size := by omega
      have HB3 : Hid (Below w.heap.size w w3) := bl_via (bl_via HB1.out HB2.out) hb3
      clear hb3
      go_wp2_with (first
        | (go_at_call 6; (with_reducible refine (C6a.out _).mono ?_); rintro e w5 ⟨rfl, hb5⟩; have HB5 : Hid (Below w.heap.size w w5) := bl_via (bl_alloc (bl_alloc HB3.out)) hb5; clear hb5)
        | fail)
      go_ret
      exact ⟨rfl, HB5.out⟩
  · as_aux_lemma =>
      obtain ⟨a1, d1, rfl, hj1, -⟩ := own_crs hown
      obtain ⟨N, hN⟩ : ∃ N, N = W * H := ⟨_, rfl⟩
      have hmN : m.length = N := hs.2.2.2.1.trans hN.symm
      have hN64 : N ≤ 64 := by rw [hN]; exact Nat.le_trans (Nat.mul_le_mul hs.2.2.2.2.2.1.2 hs.2.2.2.2.2.2.1.2) (by decide)
      have hcl := hs.2.2.2.2.2.2.2
      rw [← hN]
      have C5a : Hid (∀ V : World, Calls Tryz.prog 5 #[.string s] V fun e w' => ∃ mb' ca cc, e = .returned (.tuple #[.agg #[.int .i64 (W : Int), .int .i64 (H : Int), .slice (some ⟨mb', 0, none⟩) N N, .slice ca cs.length cc], .agg #[.int .i64 0, .int .i64 0]]) ∧ Row w' (some ⟨mb', 0, none⟩) m ∧ JRow w' ca cs ∧ Below V.heap.size V w') := fun V => (readSheet_all s V).mono (by
        rintro e w' (⟨d, k, rfl, hf2, hb2⟩ | ⟨W', H', m', cs', mb', ca, cc, rfl, hs2, hrow2, hj2, hb2⟩)
        · exact absurd (flt_sht hf2 hs) (fun h => h)
        · obtain ⟨rfl, rfl, rfl, rfl⟩ := sht_uni hs hs2
          exact ⟨mb', ca, cc, by rw [hN], hrow2, hj2, hb2⟩)
      have C6a : Hid (∀ (V : World) (b1 b2 : Nat) (c1 c2 : Option Addr) (k1 k2 : Nat), Row V (some ⟨b1, 0, none⟩) m → Row V (some ⟨b2, 0, none⟩) m → JRow V c1 cs → JRow V c2 cs → Calls Tryz.prog 6 #[.agg #[.int .i64 (W : Int), .int .i64 (H : Int), .slice (some ⟨b1, 0, none⟩) N N, .slice c1 cs.length k1], .agg #[.int .i64 (W : Int), .int .i64 (H : Int), .slice (some ⟨b2, 0, none⟩) N N, .slice c2 cs.length k2]] V fun e w' => e = .returned (.bool true) ∧ Below V.heap.size V w') := fun V b1 b2 c1 c2 k1 k2 r1 r2 j1 j2 => by
        have h := sameSheet_yes (W : Int) (H : Int) (some ⟨b1, 0, none⟩) (some ⟨b2, 0, none⟩) c1 c2 N N k1 k2 cs.length m (ksOf cs) V r1 r2 (j_row j1) (j_row j2) (ksOf_len cs) (by omega) (by omega)
        rw [hmN] at h
        exact h
      have EQ := eql28 0 0
      have HB1 : Hid (Below w.heap.size w w1 ∧ Row w1 (some ⟨mb, 0, none⟩) m ∧ JRow w1 a1 cs) := ⟨hb, hrow, hj1⟩
      clear hs hb hrow hj1 hown CR hmN hN hN64 hcl
      obtain ⟨w2, hw2⟩ : ∃ V, V = (w1.alloc (.cells #[.int .i64 (W : Int), .int .i64 (H : Int), .slice (some ⟨mb, 0, none⟩) N N, .slice a1 cs.length d1] 25)).alloc (.cells #[.int .i64 0, .int .i64 0] 28) := ⟨_, rfl⟩
      have HB2 : Hid (Below w1.heap.size w1 w2) := by
        show Below w1.heap.size w1 w2
        rw [hw2]
        exact bl_alloc (bl_alloc (bl_refl _))
      have P2 : Hid (w2.cell? ⟨w1.heap.size, 0, none⟩ = some (.int .i64 (W : Int)) ∧ w2.cell? ⟨w1.heap.size, 1, none⟩ = some (.int .i64 (H : Int)) ∧ w2.cell? ⟨w1.heap.size, 2, none⟩ = some (.slice (some ⟨mb, 0, none⟩) N N) ∧ w2.cell? ⟨w1.heap.size, 3, none⟩ = some (.slice a1 cs.length d1) ∧ w2.cell? ⟨w1.heap.size + 1, 0, none⟩ = some (.int .i64 0) ∧ w2.cell? ⟨w1.heap.size + 1, 1, none⟩ = some (.int .i64 0)) := by
        rw [hw2]
        refine ⟨?_, ?_, ?_, ?_, ?_, ?_⟩ <;> simp [go_sem]
      go_wp2_with (fail)
      rw [← hw2]
      clear hw2
      refine (C5a.out _).mono ?_
      rintro e w3 ⟨mb', ca, cc, rfl, hr3, hj3, hb3⟩
      have p0 : w3.cell? ⟨w1.heap.size, 0, none⟩ = some (.int .i64 (W : Int)) := cl_kept hb3 P2.out.1
      have p1 : w3.cell? ⟨w1.heap.size, 1, none⟩ = some (.int .i64 (H : Int)) := cl_kept hb3 P2.out.2.1
      have p2 : w3.cell? ⟨w1.heap.size, 2, none⟩ = some (.slice (some ⟨mb, 0, none⟩) N N) := cl_kept hb3 P2.out.2.2.1
      have p3 : w3.cell? ⟨w1.heap.size, 3, none⟩ = some (.slice a1 cs.length d1) := cl_kept hb3 P2.out.2.2.2.1
      have q0 : w3.cell? ⟨w1.heap.size + 1, 0, none⟩ = some (.int .i64 0) := cl_kept hb3 P2.out.2.2.2.2.1
      have q1 : w3.cell? ⟨w1.heap.size + 1, 1, none⟩ = some (.int .i64 0) := cl_kept hb3 P2.out.2.2.2.2.2
      have z3 : w1.heap.size + 1 < w3.heap.size := World.block_lt_of_cell? _ _ q0
      have z4 : w1.heap.size < w3.heap.size := by omega
      have HB3 : Hid (Below w.heap.size w w3 ∧ Row w3 (some ⟨mb, 0, none⟩) m ∧ JRow w3 a1 cs ∧ Row w3 (some ⟨mb', 0, none⟩) m ∧ JRow w3 ca cs) := ⟨bl_via (bl_via HB1.out.1 HB2.out) hb3, (HB1.out.2.1.kept HB2.out).kept hb3, (HB1.out.2.2.kept HB2.out).kept hb3, hr3, hj3⟩
      clear hb3 hr3 hj3
      go_wp2_with (first
        | (go_at_call 6; (with_reducible refine (C6a.out _ _ _ _ _ _ _ (HB3.out.2.1.kept (bl_alloc (bl_alloc (bl_refl _)))) (HB3.out.2.2.2.1.kept (bl_alloc (bl_alloc (bl_refl _)))) (HB3.out.2.2.1.kept (bl_alloc (bl_alloc (bl_refl _)))) (HB3.out.2.2.2.2.kept (bl_alloc (bl_alloc (bl_refl _))))).mono ?_); rintro e w5 ⟨rfl, hb5⟩; have HB5 : Hid (Below w.heap.size w w5) := bl_via (bl_alloc (bl_alloc HB3.out.1)) hb5; clear hb5)
        | fail)
      go_ret
      exact ⟨rfl, HB5.out⟩
end Go.Proofs.YtehmoacggikfmaaGreatDoor
