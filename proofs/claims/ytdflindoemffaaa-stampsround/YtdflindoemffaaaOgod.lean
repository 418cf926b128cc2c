/- The reference's OrderGood. -/
import Derived.Test.YtdflindoemffaaaGoes
namespace Go.Proofs.Ytdflindoemffaaa
open Go.RowKit

theorem heights_call {v : Value} {l : List Int} {w : World} (hv : Sg w v l) (hp : Prm l) (h8 : l.length ≤ 8) (s : Int) (W : World) (h1 : 1 ≤ s) (h2 : s ≤ (l.length : Int)) (hW : Below w.heap.size w W) :
    Calls Try.prog 26 #[v, .int .i64 s] W fun e w' => e = .returned (.int .i64 (hg l s)) ∧ Below W.heap.size W w' := by
  have := hp s.toNat (by omega) (by omega)
  rw [show ((s.toNat : Nat) : Int) = s by omega] at this
  exact heightOf_any v l s W (hv.kept hW) (by omega) this
/-- Tie i + 1 against the later ones up to k. -/
def Row (l : List Int) (i k : Nat) : Prop := ∀ j, i + 1 < j → j < k → (j - i) % 2 = 0 → crB l i j = false
set_option maxRecDepth 100000 in
set_option maxHeartbeats 1600000 in
theorem orderGood_any (v : Value) (l : List Int) (w : World) (hv : Sg w v l) (hp : Prm l) (h8 : l.length ≤ 8) :
    Calls Try.prog 12 #[v] w fun e w' => e = .returned (.bool (gdB l)) ∧ Below w.heap.size w w' := by
  have CH : Hid (∀ (s : Int) (W : World), 1 ≤ s → s ≤ (l.length : Int) → Below w.heap.size w W → Calls Try.prog 26 #[v, .int .i64 s] W fun e w' => e = .returned (.int .i64 (hg l s)) ∧ Below W.heap.size W w') := heights_call hv hp h8
  have CB : Hid (∀ (h a b : Int) (W : World), Calls Try.prog 27 #[.int .i64 h, .int .i64 a, .int .i64 b] W fun e w' => e = .returned (.bool (bet h a b)) ∧ Below W.heap.size W w') := betw_any
  obtain ⟨gb, hgb⟩ : ∃ b, b = gdB l := ⟨_, rfl⟩
  have HY : Hid ((∀ i, i < l.length → Row l i (l.length - 1)) → gb = true) := fun a => by
    rw [hgb, gd_iff]
    intro i k h2 h3 h4
    exact a i (by omega) k h2 (by omega) h4
  have HN : Hid (∀ i k, i + 1 < k → k + 1 < l.length → (k - i) % 2 = 0 → crB l i k = true → gb = false) := fun i k a b c d => by
    rw [hgb, Bool.eq_false_iff]
    intro hg
    have := (gd_iff l).1 hg i k a b c
    rw [d] at this
    cases this
  rw [← hgb]
  obtain ⟨a, c, rfl, _⟩ := hv
  clear hp hgb
  go_enter Try.func12, Try.ntmps12
  go_wp2
  go_loopg [4] (l.length + 1) (fun gk s4 wx => ∃ (i : Nat) (s : Int), i ≤ l.length ∧ gk = l.length + 1 - i ∧ s4 = .int .i64 s ∧ s = (i : Int) + 1 ∧ Below w.heap.size w wx ∧ ∀ j, j < i → Row l j (l.length - 1))
  case atStart => exact ⟨0, 1, by omega, rfl, rfl, by omega, bl_refl _, fun j h => by omega⟩
  case round =>
    obtain ⟨i, s, hi, rfl, rfl, hs, hB, hR⟩ := hrel
    have HB : Hid (Below w.heap.size w wr) := hB
    have HR1 : Hid (∀ j, j < i → Row l j (l.length - 1)) := hR
    have HS : Hid (s = (i : Int) + 1) := hs
    have s1 : 1 ≤ s := by omega
    clear hB hR
    by_cases h2 : s < (l.length : Int)
    · have i2 : i + 1 < l.length := by omega
      clear hs
      go_wp2_with (go_at_call 26; refine (CH.out _ _ (by omega) (by omega) HB.out).mono ?_; rintro e w1 ⟨rfl, hb⟩; replace HB : Hid (Below w.heap.size w w1) := bl_via HB.out hb; clear hb)
      have HA : Hid (hg l s = hk l i ∧ hg l (s + 1) = hk l (i + 1)) := by
        refine ⟨by rw [HS.out]; rfl, ?_⟩
        rw [HS.out, hk, show (((i + 1 : Nat) : Int) + 1) = (i : Int) + 1 + 1 by omega]
      obtain ⟨va, hva⟩ : ∃ x, x = hg l s := ⟨_, rfl⟩
      obtain ⟨vb, hvb⟩ : ∃ x, x = hg l (s + 1) := ⟨_, rfl⟩
      rw [← hva, ← hvb]
      rw [← hva, ← hvb] at HA
      clear hva hvb
      go_loopg [7] (l.length + 1 - i) (fun gk s7 wx => ∃ (k : Nat) (t : Int), i + 2 ≤ k ∧ k ≤ l.length + 2 ∧ (k - i) % 2 = 0 ∧ gk = l.length + 3 - k ∧ s7 = .int .i64 t ∧ t = (k : Int) + 1 ∧ Below w.heap.size w wx ∧ Row l i k)
      case atStart => exact ⟨i + 2, s + 2, by omega, by omega, by omega, by omega, rfl, by have := HS.out; omega, HB.out, fun j a b => by omega⟩
      case round =>
        clear HB
        obtain ⟨k, t, hk1, hk2, hk3, rfl, rfl, ht, hB, hR⟩ := hrel
        have HB : Hid (Below w.heap.size w wr) := hB
        have HR2 : Hid (Row l i k) := hR
        have HT : Hid (t = (k : Int) + 1) := ht
        have t1 : 1 ≤ t := by omega
        clear hB hR
        by_cases h3 : t < (l.length : Int)
        · have k2 : k + 1 < l.length := by omega
          clear ht
          have HC : Hid (hg l t = hk l k ∧ hg l (t + 1) = hk l (k + 1)) := by
            refine ⟨by rw [HT.out]; rfl, ?_⟩
            rw [HT.out, hk, show (((k + 1 : Nat) : Int) + 1) = (k : Int) + 1 + 1 by omega]
          obtain ⟨xb, hxb⟩ : ∃ x, x = bet (hg l t) va vb := ⟨_, rfl⟩
          obtain ⟨yb, hyb⟩ : ∃ x, x = bet (hg l (t + 1)) va vb := ⟨_, rfl⟩
          have CX : Hid (∀ W : World, Calls Try.prog 27 #[.int .i64 (hg l t), .int .i64 va, .int .i64 vb] W fun e w' => e = .returned (.bool xb) ∧ Below W.heap.size W w') := fun W => by rw [hxb]; exact CB.out _ _ _ W
          have CY : Hid (∀ W : World, Calls Try.prog 27 #[.int .i64 (hg l (t + 1)), .int .i64 va, .int .i64 vb] W fun e w' => e = .returned (.bool yb) ∧ Below W.heap.size W w') := fun W => by rw [hyb]; exact CB.out _ _ _ W
          have HCR : Hid (crB l i k = (xb != yb)) := by
            have : crB l i k = (xb != yb) := by rw [crB, hxb, hyb, HA.out.1, HA.out.2, HC.out.1, HC.out.2]
            exact this
          clear hxb hyb
          cases q : (xb == yb)
          · have HE : Hid (gb = false) := HN.out i k (by omega) k2 hk3 (by rw [HCR.out, bne, q]; rfl)
            go_wp2_with (first | (go_at_call 26; refine (CH.out _ _ (by omega) (by omega) HB.out).mono ?_; rintro e w1 ⟨rfl, hb⟩; replace HB : Hid (Below w.heap.size w w1) := bl_via HB.out hb; clear hb) | (go_at_call 27; (first | (with_reducible refine (CX.out _).mono ?_) | (with_reducible refine (CY.out _).mono ?_)); rintro e w1 ⟨rfl, hb⟩; replace HB : Hid (Below w.heap.size w w1) := bl_via HB.out hb; clear hb))
            go_ret
            exact ⟨ret_bool HE.out.symm, HB.out⟩
          · go_wp2_with (first | (go_at_call 26; refine (CH.out _ _ (by omega) (by omega) HB.out).mono ?_; rintro e w1 ⟨rfl, hb⟩; replace HB : Hid (Below w.heap.size w w1) := bl_via HB.out hb; clear hb) | (go_at_call 27; (first | (with_reducible refine (CX.out _).mono ?_) | (with_reducible refine (CY.out _).mono ?_)); rintro e w1 ⟨rfl, hb⟩; replace HB : Hid (Below w.heap.size w w1) := bl_via HB.out hb; clear hb))
            go_roundg (l.length + 3 - (k + 2))
            case measure => omega
            case rel =>
              refine ⟨k + 2, t + 2, by omega, by omega, by omega, rfl, by go_num, by have := HT.out; omega, HB.out, fun j a b c => ?_⟩
              by_cases hjk : j < k
              · exact HR2.out j a hjk c
              · have : j = k := by omega
                rw [this, HCR.out, bne, q]
                rfl
        · go_wp2
          go_roundg (l.length + 1 - (i + 1))
          case measure => omega
          case rel =>
            refine ⟨i + 1, s + 1, by omega, rfl, by go_num, by have := HS.out; omega, HB.out, fun j hj => ?_⟩
            by_cases hji : j < i
            · exact HR1.out j hji
            · have : j = i := by omega
              rw [this]
              exact fun j' a b c => HR2.out j' a (by omega) c
    · have HE : Hid (gb = true) := HY.out fun j hj => by
        by_cases hji : j < i
        · exact HR1.out j hji
        · exact fun j' a b c => by omega
      go_wp2
      go_ret
      exact ⟨ret_bool HE.out.symm, HB.out⟩
end Go.Proofs.Ytdflindoemffaaa
