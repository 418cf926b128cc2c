/- The law StampsList. -/
import Derived.Test.YtdflindoemffaaaRefo
namespace Go.Proofs.Ytdflindoemffaaa
open Go.RowKit

theorem ords_lens (P : List Int → Bool) (n : Nat) : ∀ f b, b.length + f = n → ∀ l ∈ ords P n f b, l.length = n
  | 0, b, hb, l, hl => by
    unfold ords at hl
    split at hl
    · simp at hl
      rw [hl]
      omega
    · simp at hl
  | f + 1, b, hb, l, hl => by
    unfold ords at hl
    rw [List.mem_flatMap] at hl
    obtain ⟨t, _, ht⟩ := hl
    split at ht
    · simp at ht
    · exact ords_lens P n f _ (by simp; omega) l ht
set_option maxRecDepth 100000 in
theorem list_no (n : Int) (w : World) (h : cntB n = false) : Calls Try.prog 4 #[.int .i64 n] w fun e w' => e = .returned (.bool true) ∧ Below w.heap.size w w' := by
  have CA : Hid (Calls Try.prog 15 #[.int .i64 n] w fun e w' => e = .returned (.tuple #[.slice none 0 0, .int .i64 2]) ∧ Below w.heap.size w w') := all_no n w h
  by_cases q1 : n < 1
  · clear h
    go_enter Try.func4, Try.ntmps4
    go_wp2_with (go_at_call 15; refine CA.out.mono ?_; rintro e w1 ⟨rfl, hb⟩)
    go_ret
    exact ⟨rfl, hb⟩
  · have q2 : (8 : Int) < n := by
      simp [cntB] at h
      omega
    clear h
    go_enter Try.func4, Try.ntmps4
    go_wp2_with (go_at_call 15; refine CA.out.mono ?_; rintro e w1 ⟨rfl, hb⟩)
    go_ret
    exact ⟨rfl, hb⟩
set_option maxRecDepth 100000 in
set_option maxHeartbeats 800000 in
theorem list_ok (n : Nat) (w : World) (h1 : 1 ≤ n) (h8 : n ≤ 8) : Calls Try.prog 4 #[.int .i64 (n : Int)] w fun e w' => e = .returned (.bool true) ∧ Below w.heap.size w w' := by
  have CA : Hid (Calls Try.prog 15 #[.int .i64 (n : Int)] w fun e w' => ∃ z v es, e = .returned (.tuple #[v, .int .i64 0]) ∧ OutS w' z v es ∧ lsO es = ords gdB n n [] ∧ Below w.heap.size w w') := all_ok n w h1 h8
  have CO : Hid (∀ W : World, Calls Try.prog 17 #[.slice none 0 0, .int .i64 (n : Int)] W fun e w' => ∃ u es, e = .returned u ∧ OutS w' W.heap.size u es ∧ lsO es = ords gdB n n [] ∧ Below W.heap.size W w') := fun W => orders_any n h1 h8 n [] _ W (by simp) (pp_nil n) (nil_sg W)
  have CS : Hid (∀ (W : World) (x y : Value) (z z' : Nat) (es es' : List (Nat × Nat × List Int)), OutS W z x es → OutS W z' y es' → lsO es = ords gdB n n [] → lsO es' = ords gdB n n [] → Calls Try.prog 16 #[x, y] W fun e w' => e = .returned (.bool true) ∧ Below W.heap.size W w') := fun W x y z z' es es' hx hy e1 e2 => by
    refine sameRows_any x y z z' es es' W hx hy (e1.trans e2.symm) ?_ (fun l hl => ?_)
    · have h5 := ords_len gdB n n []
      have h6 := pow_bd h8 h8
      rw [← e1] at h5
      simp [lsO] at h5
      omega
    · rw [e1] at hl
      have := ords_lens gdB n n [] (by simp) l hl
      omega
  have q1 : ¬ (n : Int) < 1 := by omega
  have q2 : ¬ (8 : Int) < (n : Int) := by omega
  go_enter Try.func4, Try.ntmps4
  go_wp2_with (first | (go_at_call 15; refine CA.out.mono ?_; rintro e w1 ⟨z, v, es, rfl, hO, hls, hb⟩; have H1 : Hid (OutS w1 z v es ∧ lsO es = ords gdB n n [] ∧ Below w.heap.size w w1) := ⟨hO, hls, hb⟩; clear hO hls hb) | (go_at_call 17; refine (CO.out _).mono ?_; rintro e w2 ⟨u, es2, rfl, hO, hls, hb⟩; have H2 : Hid (OutS w2 w1.heap.size u es2 ∧ lsO es2 = ords gdB n n [] ∧ Below w1.heap.size w1 w2) := ⟨hO, hls, hb⟩; clear hO hls hb) | (go_at_call 16; refine (CS.out _ _ _ _ _ _ _ (H1.out.1.kept H2.out.2.2) H2.out.1 H1.out.2.1 H2.out.2.1).mono ?_; rintro e w3 ⟨rfl, hb3⟩))
  go_ret
  exact ⟨rfl, bl_via H1.out.2.2 (bl_via H2.out.2.2 hb3)⟩
theorem list_any (n : Int) (w : World) : Calls Try.prog 4 #[.int .i64 n] w fun e w' => e = .returned (.bool true) ∧ Below w.heap.size w w' := by
  cases h : cntB n
  · exact list_no n w h
  · have hb : 1 ≤ n ∧ n ≤ 8 := by
      simp [cntB] at h
      omega
    have := list_ok n.toNat w (by omega) (by omega)
    rwa [show ((n.toNat : Nat) : Int) = n by omega] at this
end Go.Proofs.Ytdflindoemffaaa
