/- The reference's order: heights given one after the other, in every way. -/
import Derived.Test.YtoedcefbmbfnhacGord
import Derived.Test.YtoedcefbmbfnhacOrdm
namespace Go.Proofs.Ytoedcefbmbfnhac
open Go.RowKit

theorem kN_nat (n : Nat) (G : List Int) : ∃ b : Nat, kN n G n = (b : Int) ∧ b < 2 ^ n := by
  have h := kN_bd n G n
  refine ⟨(kN n G n).toNat, by omega, ?_⟩
  have : ((2 ^ n : Nat) : Int) = (2 : Int) ^ n := by simp
  omega
/-- What comes of it. -/
def Came (wB w' : World) (gh go n m k : Nat) (X H : List Int) (O : Nat → Bool) : Prop := ∃ H' O', OS wB w' gh go n m H' O' ∧ (∀ i, i < k → gt H' i = gt H i) ∧ ∀ b : Nat, b < m → (O' b = true ↔ O b = true ∨ Ext X n k H (b : Int))
set_option maxRecDepth 100000 in
set_option maxHeartbeats 800000 in
theorem order_any (wB : World) (gx cx gh ch go co n m : Nat) (X : List Int) (hX : Rw wB gx X) (hl : X.length = n + 1) (hn2 : 2 ≤ n) (hn8 : n ≤ 8) (hm : m = 2 ^ n) (bh : wB.heap.size ≤ gh) (bo : wB.heap.size ≤ go) (hne : gh ≠ go) : ∀ (f k : Nat) (H : List Int) (O : Nat → Bool) (w : World), k + f = n → OS wB w gh go n m H O →
    Calls Try.prog 19 #[.slice (some ⟨gx, 0, none⟩) X.length cx, .slice (some ⟨gh, 0, none⟩) n ch, .int .i64 (k : Int), .slice (some ⟨go, 0, none⟩) m co] w fun e w' => e = .returned (.tuple #[]) ∧ Came wB w' gh go n m k X H O
  | 0, k, H, O, w, hk, hS => by
    have hkn : k = n := by omega
    subst hkn
    have HS : Hid (OS wB w gh go k m H O) := hS
    have CG : Hid (Calls Try.prog 28 #[.slice (some ⟨gx, 0, none⟩) X.length cx, .slice (some ⟨gh, 0, none⟩) k ch] w fun e w' => e = .returned (.bool (goodR X k H)) ∧ Below w.heap.size w w') := by
      have hH := hS.2.1.1
      have := goodOrder_any gx cx gh ch X H w (hX.kept hS.1) hS.2.1.rw (by omega) (by omega) (by omega)
      rw [hH] at this
      exact this
    obtain ⟨b, hb1, hb2⟩ := kN_nat k H
    have CK : Hid (∀ W : World, Below w.heap.size w W → Calls Try.prog 29 #[.slice (some ⟨gh, 0, none⟩) k ch] W fun e w' => e = .returned (.int .i64 (b : Int)) ∧ Below W.heap.size W w') := fun W hW => by
      have hH := hS.2.1.1
      have := kindsOf_any gh ch H W (hS.2.1.rw.kept hW) (by omega) (by omega)
      rw [hH, hb1] at this
      exact this
    have bm : (b : Int) < (m : Int) := by rw [hm]; omega
    have b0 : (0 : Int) ≤ (b : Int) := by omega
    have HE : Hid (∀ c : Nat, Ext X k k H (c : Int) ↔ goodR X k H = true ∧ b = c) := fun c => by
      rw [ext_full hS.2.1.1, hb1]
      constructor
      · rintro ⟨h1, h2⟩
        exact ⟨h1, by omega⟩
      · rintro ⟨h1, h2⟩
        exact ⟨h1, by omega⟩
    obtain ⟨gb, hgb⟩ : ∃ x, x = goodR X k H := ⟨_, rfl⟩
    rw [← hgb] at CG HE
    have BO : Hid (wB.heap.size ≤ go ∧ gh ≠ go ∧ b < m) := ⟨bo, hne, by omega⟩
    clear hgb hb1 hb2 hS hX hl hm hk bh bo hne
    have q : ((k : Int) == (k : Int)) = true := by simp
    cases gb
    · go_enter Try.func19, Try.ntmps19
      go_wp2_with (go_at_call 28; refine CG.out.mono ?_; rintro e w1 ⟨rfl, hb⟩)
      refine bodyPost_ret (v := .tuple #[]) (by simp [results, Try.results19]) rfl ⟨rfl, H, O, HS.out.kept hb, fun _ _ => rfl, fun c _ => ?_⟩
      rw [HE.out c]
      simp
    · go_enter Try.func19, Try.ntmps19
      go_wp2_with (first | (go_at_call 28; refine CG.out.mono ?_; rintro e w1 ⟨rfl, hb⟩) | (go_at_call 29; refine (CK.out _ hb).mono ?_; rintro e w2 ⟨rfl, hb2⟩; have HS2 : Hid (OS wB w2 gh go k m H O) := HS.out.kept (bl_via hb hb2); have c0 := (HS2.out.2.2 b BO.out.2.2).1; have f0 := (HS2.out.2.2 b BO.out.2.2).2; have z0 : go < w2.heap.size := World.block_lt_of_cell? _ _ c0))
      refine bodyPost_ret (v := .tuple #[]) (by simp [results, Try.results19]) rfl ⟨rfl, H, _, HS2.out.told BO.out.1 BO.out.2.1 b true, fun _ _ => rfl, fun c _ => ?_⟩
      rw [HE.out c]
      by_cases e : c = b
      · simp [e]
      · simp [e, Ne.symm e]
  | f + 1, k, H, O, w, hk, hS => by
    have hkn : k < n := by omega
    have HS : Hid (OS wB w gh go n m H O) := hS
    have CO : Hid (∀ (W : World) (H' : List Int) (O' : Nat → Bool), OS wB W gh go n m H' O' → Calls Try.prog 19 #[.slice (some ⟨gx, 0, none⟩) X.length cx, .slice (some ⟨gh, 0, none⟩) n ch, .int .i64 ((k : Int) + 1), .slice (some ⟨go, 0, none⟩) m co] W fun e w' => e = .returned (.tuple #[]) ∧ Came wB w' gh go n m (k + 1) X H' O') := fun W H' O' h => by
      have := order_any wB gx cx gh ch go co n m X hX hl hn2 hn8 hm bh bo hne f (k + 1) H' O' W (by omega) h
      rw [show ((k + 1 : Nat) : Int) = (k : Int) + 1 by omega] at this
      exact this
    have HE : Hid (∀ b : Int, Ext X n k H b ↔ ∃ h : Nat, h < n ∧ (∀ i, i < k → gt H i ≠ (h : Int)) ∧ Ext X n (k + 1) (H.set k (h : Int)) b) := fun b => ext_step hS.2.1.1 hkn
    have BO : Hid (wB.heap.size ≤ gh ∧ wB.heap.size ≤ go ∧ gh ≠ go ∧ H.length = n) := ⟨bh, bo, hne, hS.2.1.1⟩
    have q : ((k : Int) == (n : Int)) = false := by
      rw [beq_eq_false_iff_ne]
      omega
    clear hS hX hl hm hk bh bo hne
    go_enter Try.func19, Try.ntmps19
    go_wp2
    go_loopg [9] n (fun gk s9 wx => ∃ (h : Nat) (H' : List Int) (O' : Nat → Bool), h ≤ n ∧ gk = n - h ∧ s9 = .int .i64 (h : Int) ∧ OS wB wx gh go n m H' O' ∧ (∀ i, i < k → gt H' i = gt H i) ∧ ∀ b : Nat, b < m → (O' b = true ↔ O b = true ∨ ∃ h' : Nat, h' < h ∧ (∀ i, i < k → gt H i ≠ (h' : Int)) ∧ Ext X n (k + 1) (H.set k (h' : Int)) (b : Int)))
    case atStart =>
      refine ⟨0, H, O, by omega, rfl, rfl, HS.out, fun _ _ => rfl, fun b _ => ?_⟩
      constructor
      · exact fun h => Or.inl h
      · rintro (h | ⟨h', hh, _⟩)
        · exact h
        · omega
    case round =>
      clear HS
      obtain ⟨h, H', O', hh, rfl, rfl, hS, hA, hO⟩ := hrel
      have HS : Hid (OS wB wr gh go n m H' O') := hS
      have HA : Hid ((∀ i, i < k → gt H' i = gt H i) ∧ ∀ b : Nat, b < m → (O' b = true ↔ O b = true ∨ ∃ h' : Nat, h' < h ∧ (∀ i, i < k → gt H i ≠ (h' : Int)) ∧ Ext X n (k + 1) (H.set k (h' : Int)) (b : Int))) := ⟨hA, hO⟩
      clear hS hA hO
      by_cases h1 : h < n
      · have i1 : (h : Int) < (n : Int) := by omega
        go_wp2
        go_loopg [10, 11] k (fun gk s10 s11 wx => ∃ i : Nat, i ≤ k ∧ gk = k - i ∧ s11 = .int .i64 (i : Int) ∧ s10 = .bool (fre H' h i) ∧ OS wB wx gh go n m H' O')
        case atStart => exact ⟨0, by omega, rfl, rfl, rfl, HS.out⟩
        case round =>
          clear HS
          obtain ⟨i, hi, rfl, rfl, rfl, hS⟩ := hrel
          have HS : Hid (OS wB wr gh go n m H' O') := hS
          clear hS
          by_cases h2 : i < k
          · have j1 : (i : Int) < (k : Int) := by omega
            have j0 : (0 : Int) ≤ (i : Int) := by omega
            have j2 : (i : Int) < (n : Int) := by omega
            have c0 := (HS.out.2.1.2 i (by omega)).1
            have z0 : gh < wr.heap.size := World.block_lt_of_cell? _ _ c0
            obtain ⟨vi, hvi⟩ : ∃ v, v = gt H' i := ⟨_, rfl⟩
            rw [← hvi] at c0
            obtain ⟨fb, hfb⟩ : ∃ b, b = fre H' h i := ⟨_, rfl⟩
            have HF : Hid (fre H' h (i + 1) = (fb && (vi != (h : Int)))) := by
              have : fre H' h (i + 1) = (fb && (vi != (h : Int))) := by
                rw [fre_succ, hfb, hvi, Bool.eq_iff_iff]
                simp
              exact this
            rw [← hfb]
            clear hvi hfb
            cases fb
            · go_wp2
              go_roundg (k - (i + 1))
              case measure => omega
              case rel => exact ⟨i + 1, by omega, rfl, by go_num, by rw [HF.out]; rfl, HS.out⟩
            · go_wp2
              go_roundg (k - (i + 1))
              case measure => omega
              case rel => exact ⟨i + 1, by omega, rfl, by go_num, by rw [HF.out]; rfl, HS.out⟩
          · have j1 : ¬ (i : Int) < (k : Int) := by omega
            obtain rfl : i = k := by omega
            have j2 : (i : Int) < (n : Int) := by omega
            have j0 : (0 : Int) ≤ (i : Int) := by omega
            obtain ⟨fb, hfb⟩ : ∃ b, b = fre H' h i := ⟨_, rfl⟩
            have HF : Hid (fb = fre H' h i) := hfb
            rw [← hfb]
            clear hfb
            cases fb
            · go_wp2
              go_roundg (n - (h + 1))
              case measure => omega
              case rel =>
                refine ⟨h + 1, H', O', by omega, rfl, by go_num, HS.out, HA.out.1, fun b hb => ?_⟩
                rw [HA.out.2 b hb]
                constructor
                · rintro (h' | ⟨h', a1, a2⟩)
                  · exact Or.inl h'
                  · exact Or.inr ⟨h', by omega, a2⟩
                · rintro (h' | ⟨h', a1, a2, a3⟩)
                  · exact Or.inl h'
                  · by_cases e : h' = h
                    · subst e
                      have : fre H' h' i = true := fre_iff.2 (fun i' hi' => by rw [HA.out.1 i' hi']; exact a2 i' hi')
                      rw [← HF.out] at this
                      cases this
                    · exact Or.inr ⟨h', by omega, a2, a3⟩
            · have c0 := (HS.out.2.1.2 i hkn).1
              have f0 := (HS.out.2.1.2 i hkn).2
              have z0 : gh < wr.heap.size := World.block_lt_of_cell? _ _ c0
              obtain ⟨W2, hW2⟩ : ∃ W, W = wr.setCell ⟨gh, i, none⟩ (.int .i64 (h : Int)) := ⟨_, rfl⟩
              have HS2 : Hid (OS wB (wr.setCell ⟨gh, i, none⟩ (.int .i64 (h : Int))) gh go n m (H'.set i (h : Int)) O') := HS.out.height BO.out.1 BO.out.2.2.1 (h : Int) hkn
              clear hW2
              go_wp2_with (go_at_call 19; refine (CO.out _ _ _ HS2.out).mono ?_; rintro e w3 ⟨rfl, hC⟩; have HC : Hid (Came wB w3 gh go n m (i + 1) X (H'.set i (h : Int)) O') := hC; clear hC)
              go_roundg (n - (h + 1))
              case measure => omega
              case rel =>
                obtain ⟨H3, O3, s3, a3, o3⟩ := HC.out
                have hl1 : H'.length = n := HS.out.2.1.1
                have hset : ∀ i', i' < i + 1 → gt (H'.set i (h : Int)) i' = gt (H.set i (h : Int)) i' := fun i' hi' => by
                  rw [gt_set (by omega), gt_set (by rw [BO.out.2.2.2]; omega)]
                  split
                  · rfl
                  · exact HA.out.1 i' (by omega)
                refine ⟨h + 1, H3, O3, by omega, rfl, by go_num, s3, fun i' hi' => ?_, fun b hb => ?_⟩
                · rw [a3 i' (by omega), gt_set (by omega), if_neg (by omega)]
                  exact HA.out.1 i' hi'
                · rw [o3 b hb, HA.out.2 b hb]
                  constructor
                  · rintro ((h' | ⟨h', a1, a2⟩) | h')
                    · exact Or.inl h'
                    · exact Or.inr ⟨h', by omega, a2⟩
                    · exact Or.inr ⟨h, by omega, fun i' hi' => by rw [← HA.out.1 i' hi']; exact fre_iff.1 HF.out.symm i' hi', h'.congr hset⟩
                  · rintro (h' | ⟨h', a1, a2, a4⟩)
                    · exact Or.inl (Or.inl h')
                    · by_cases e : h' = h
                      · subst e
                        exact Or.inr (a4.congr (fun i' hi' => (hset i' hi').symm))
                      · exact Or.inl (Or.inr ⟨h', by omega, a2, a4⟩)
      · have i1 : ¬ (h : Int) < (n : Int) := by omega
        obtain rfl : h = n := by omega
        go_wp2
        go_end0
        refine ⟨rfl, H', O', HS.out, HA.out.1, fun b hb => ?_⟩
        rw [HA.out.2 b hb, HE.out (b : Int)]
end Go.Proofs.Ytoedcefbmbfnhac
