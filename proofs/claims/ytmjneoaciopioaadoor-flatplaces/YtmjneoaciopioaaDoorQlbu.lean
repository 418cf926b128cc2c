/- A sheet that came in may be, or it may not: what Lay and the reference say to it. -/
import Derived.Test.YtmjneoaciopioaaDoorQlbq
import Derived.Test.YtmjneoaciopioaaDoorQlbb
import Derived.Test.YtmjneoaciopioaaDoorQlbc
import Derived.Test.YtmjneoaciopioaaDoorQlbt
namespace Go.Proofs.YtmjneoaciopioaaDoor
open Go.RowKit Go.ChangeMaps

theorem lessE_iff (a b c d p q r s : Int) : lessE a b c d p q r s = true ↔ (a < p ∨ (a = p ∧ b < q) ∨ (a = p ∧ b = q ∧ (c < r ∨ (c = r ∧ d < s)))) := by
  simp only [lessE, lessB, Bool.or_eq_true, Bool.and_eq_true, decide_eq_true_eq]
  omega
theorem cr_less {L : List (Int × Int × Int)} {ks : List Int} {n : Nat} (h : ∀ i, i < n → CrOk L ks i) : ∀ d i, i + d + 1 < n → lessE (ck ks i 0) (ck ks i 1) (ck ks i 2) (ck ks i 3) (ck ks (i + d + 1) 0) (ck ks (i + d + 1) 1) (ck ks (i + d + 1) 2) (ck ks (i + d + 1) 3) = true
  | 0, i, hi => (h (i + 0 + 1) hi).1 (by omega)
  | d + 1, i, hi => by
    have h1 := cr_less h d i (by omega)
    have h2 := (h (i + (d + 1) + 1) hi).1 (by omega)
    have e : i + (d + 1) + 1 - 1 = i + d + 1 := by omega
    rw [e] at h2
    rw [lessE_iff] at h1 h2 ⊢
    omega
theorem cr_one {L : List (Int × Int × Int)} {ks : List Int} {n : Nat} (h : ∀ i, i < n → CrOk L ks i) : CrOne ks n := fun i j hij hj e => by
  have h1 := cr_less h (j - i - 1) i (by omega)
  rw [show i + (j - i - 1) + 1 = j by omega] at h1
  rw [lessE_iff] at h1
  simp only [Prod.mk.injEq] at e
  omega

/-- Lay's answer to a sheet that may not be; the reference's. -/
def LayNo (w : World) (W H : Int) (zs ks : List Int) (n : Nat) : Prop := ∀ (W' : World) (a' c' : Option Addr) (ca' cc' : Nat), Below w.heap.size w W' → Row W' a' zs → Row W' c' ks → Calls Tryd.prog 21 #[.agg #[.int .i64 W, .int .i64 H, .slice a' zs.length ca', .slice c' n cc']] W' fun e w' => e = .returned (.tuple #[.agg #[.slice none 0 0, .map none, .map none], .bool false]) ∧ Below W'.heap.size W' w'
def MayIs (w : World) (W H : Int) (a c : Option Addr) (ca cc : Nat) (zs : List Int) (n : Nat) (bb : Bool) : Prop := ∀ W' : World, Below w.heap.size w W' → Calls Tryd.prog 10 #[.agg #[.int .i64 W, .int .i64 H, .slice a zs.length ca, .slice c n cc]] W' fun e w' => e = .returned (.bool bb) ∧ Below W'.heap.size W' w'

theorem sheet_either (W H : Int) (a c : Option Addr) (ca cc n : Nat) (zs ks : List Int) (w : World) (hz : Row w a zs) (hk : Row w c ks) (hn : ks.length = n * 5) (h2 : n ≤ 3518437208883) (hs : Steps w) :
    (LayNo w W H zs ks n ∧ MayIs w W H a c ca cc zs n false) ∨
    (∃ (Wn Hn b off : Nat), W = (Wn : Int) ∧ H = (Hn : Int) ∧ a = some ⟨b, off, none⟩ ∧ (1 ≤ Wn ∧ Wn ≤ 8) ∧ (1 ≤ Hn ∧ Hn ≤ 8) ∧ zs.length = Wn * Hn ∧ maskB zs = true ∧ Joined (ty zs Wn Hn) ∧ (∀ i, i < n → CrOk (ty zs Wn Hn) ks i) ∧ MayIs w W H a c ca cc zs n true) := by
  cases hc : cellsB W H zs
  · exact Or.inl ⟨fun W' a' c' ca' cc' hb q1 q2 => lay_bad W H a' ca' zs _ W' q1 hc, fun W' hb => sheetMay_bad W H a ca zs _ W' (hz.kept hb) hc⟩
  · simp only [cellsB, Bool.and_eq_true, decide_eq_true_eq, sideB] at hc
    obtain ⟨⟨⟨q1, q2⟩, q3⟩, q4⟩ := hc
    obtain ⟨Wn, rfl⟩ : ∃ m : Nat, W = (m : Int) := ⟨W.toNat, by omega⟩
    obtain ⟨Hn, rfl⟩ : ∃ m : Nat, H = (m : Int) := ⟨H.toNat, by omega⟩
    have hl : zs.length = Wn * Hn := by
      rw [← Int.natCast_mul] at q3
      omega
    have h0 : 0 < zs.length := by
      rw [hl]
      exact Nat.mul_pos (by omega) (by omega)
    have hW : 1 ≤ Wn ∧ Wn ≤ 8 := by omega
    have hH : 1 ≤ Hn ∧ Hn ≤ 8 := by omega
    obtain ⟨b, off, rfl, _⟩ := hz 0 h0
    have hM : ∀ W' : World, Below w.heap.size w W' → Calls Tryd.prog 10 #[.agg #[.int .i64 (Wn : Int), .int .i64 (Hn : Int), .slice (some ⟨b, off, none⟩) zs.length ca, .slice c n cc]] W' fun e w' => ∃ bb : Bool, e = .returned (.bool bb) ∧ (bb = true ↔ ((∀ i, i < n → CrOk (ty zs Wn Hn) ks i) ∧ Joined (ty zs Wn Hn))) ∧ Below W'.heap.size W' w' := fun W' hW' => sheetMay_any Wn Hn b off ca n cc c zs ks W' (hz.kept hW') hW hH hl q4 (hk.kept hW') hn h2
    by_cases hok : (∀ i, i < n → CrOk (ty zs Wn Hn) ks i) ∧ Joined (ty zs Wn Hn)
    · refine Or.inr ⟨Wn, Hn, b, off, rfl, rfl, rfl, hW, hH, hl, q4, hok.2, hok.1, fun W' hb => (hM W' hb).mono ?_⟩
      rintro e w' ⟨bb, rfl, hbb, hb'⟩
      rw [hbb.2 hok]
      exact ⟨rfl, hb'⟩
    · refine Or.inl ⟨fun W' a' c' ca' cc' hb r1 r2 => ?_, fun W' hb => (hM W' hb).mono ?_⟩
      · obtain ⟨ba, oa, rfl, _⟩ := r1 0 h0
        by_cases hJ : Joined (ty zs Wn Hn)
        · exact lay_nocrease Wn Hn ba oa ca' n cc' c' zs ks W' r1 hW hH hl q4 r2 hn h2 (hs.kept hb) hJ (fun h => hok ⟨h, hJ⟩)
        · exact lay_nojoin Wn Hn ba oa ca' n cc' c' zs ks W' r1 hW hH hl q4 r2 hn h2 (hs.kept hb) hJ
      · rintro e w' ⟨bb, rfl, hbb, hb'⟩
        obtain rfl : bb = false := by
          cases bb with
          | false => rfl
          | true => exact absurd (hbb.1 rfl) hok
        exact ⟨rfl, hb'⟩
end Go.Proofs.YtmjneoaciopioaaDoor
