/- Halves: the code and the reference answer alike, whatever comes in. -/
import Derived.Test.YtohnppjbmpaomaaHlvn
import Derived.Test.YtohnppjbmpaomaaHlok
import Derived.Test.YtohnppjbmpaomaaHlos
import Derived.Test.YtohnppjbmpaomaaHlvb
import Derived.Test.YtohnppjbmpaomaaHlvc
import Derived.Test.YtohnppjbmpaomaaHlvd
import Derived.Test.YtohnppjbmpaomaaHlve
import Derived.Test.YtohnppjbmpaomaaHlvf
import Derived.Test.YtohnppjbmpaomaaHlvg
namespace Go.Proofs.Ytohnppjbmpaomaa
open Go.RowKit

def CErr (f : FuncId) (l m : Value) (k : Int) : Prop := ∀ W, Calls Try.prog f #[l, m] W fun z w' => z = .returned (.tuple #[.slice none 0 0, .int .i64 k]) ∧ Below W.heap.size W w'
def COne (f : FuncId) (l m : Value) (G1 G2 G3 : Int) : Prop := ∀ W, Calls Try.prog f #[l, m] W fun z w' => ∃ g cap : Nat, z = .returned (.tuple #[.slice (some ⟨g, 0, none⟩) 1 cap, .int .i64 0]) ∧ (w'.cell? ⟨g, 0, none⟩ = some (.int .i64 G1) ∧ w'.cell? ⟨g, 1, none⟩ = some (.int .i64 G2) ∧ w'.cell? ⟨g, 2, none⟩ = some (.int .i64 G3)) ∧ Below W.heap.size W w'
def CTwo (f : FuncId) (l m : Value) (G1 G2 G3 H1 H2 H3 : Int) : Prop := ∀ W, Calls Try.prog f #[l, m] W fun z w' => ∃ g cap : Nat, z = .returned (.tuple #[.slice (some ⟨g, 0, none⟩) 2 cap, .int .i64 0]) ∧ (w'.cell? ⟨g, 0, none⟩ = some (.int .i64 G1) ∧ w'.cell? ⟨g, 1, none⟩ = some (.int .i64 G2) ∧ w'.cell? ⟨g, 2, none⟩ = some (.int .i64 G3) ∧ w'.cell? ⟨g, 3, none⟩ = some (.int .i64 H1) ∧ w'.cell? ⟨g, 4, none⟩ = some (.int .i64 H2) ∧ w'.cell? ⟨g, 5, none⟩ = some (.int .i64 H3)) ∧ Below W.heap.size W w'
/-- Both answer alike. -/
def Alike (l m : Value) : Prop := (∃ k, k ≠ 0 ∧ CErr 14 l m k ∧ CErr 16 l m k) ∨ (∃ G1 G2 G3, COne 14 l m G1 G2 G3 ∧ COne 16 l m G1 G2 G3) ∨ ∃ G1 G2 G3 H1 H2 H3, CTwo 14 l m G1 G2 G3 H1 H2 H3 ∧ CTwo 16 l m G1 G2 G3 H1 H2 H3
theorem bd_sm {x : Int} (h : bd 1000 x) : sm x := by unfold bd at h; unfold sm; omega
theorem st_inj {A B C D E F : Int} (h : st A B C = st D E F) : A = D ∧ B = E ∧ C = F := by
  unfold st at h
  simp at h
  exact h
theorem root_small {n : Int} {ρ : Nat} (h : n = (ρ : Int) * (ρ : Int)) (hn : n ≤ 4000000000000) : ρ ≤ 2000000 := by
  rcases Nat.lt_or_ge 2000000 ρ with k | k
  · have := sq_le_sq (show 2000001 ≤ ρ by omega)
    omega
  · exact k
theorem part_ne {u a A b B : Int} (ha : a = u * A) (hb : b = u * B) (h : ¬ (a = 0 ∧ b = 0)) : ¬ (A = 0 ∧ B = 0) := fun ⟨h1, h2⟩ => h ⟨by rw [ha, h1, Int.mul_zero], by rw [hb, h2, Int.mul_zero]⟩
set_option maxHeartbeats 1600000 in
theorem halves_any (a b c d e f : Int) (hk : wrg [⟨a, b, c⟩, ⟨d, e, f⟩] [] = 0) : Alike (st a b c) (st d e f) := by
  obtain ⟨⟨ba, bb, bc⟩, ⟨bd', be, bf⟩, _, hl, hm⟩ := wrg_ok2 hk
  obtain ⟨u, A, B, C, hu, ha, hb, hc, e1, n1, n2, n3⟩ := form_parts (c := c) hl
  obtain ⟨v, D, E, F, hv, hd, he, hf, e2, n4, n5, n6⟩ := form_parts (c := f) hm
  have bA := bd_abs ba n1
  have bB := bd_abs bb n2
  have bC := bd_abs bc n3
  have bD := bd_abs bd' n4
  have bE := bd_abs be n5
  have bF := bd_abs bf n6
  have hL := part_ne ha hb hl
  have hM := part_ne hd he hm
  have CL : ∀ W : World, Calls Try.prog 28 #[.int .i64 a, .int .i64 b, .int .i64 c] W fun z w' => z = .returned (.agg #[.int .i64 A, .int .i64 B, .int .i64 C]) ∧ Below W.heap.size W w' := fun W => by
    have := inForm28 a b c W hl (bd_sm ba) (bd_sm bb) (bd_sm bc)
    rwa [e1] at this
  have CM : ∀ W : World, Calls Try.prog 28 #[.int .i64 d, .int .i64 e, .int .i64 f] W fun z w' => z = .returned (.agg #[.int .i64 D, .int .i64 E, .int .i64 F]) ∧ Below W.heap.size W w' := fun W => by
    have := inForm28 d e f W hm (bd_sm bd') (bd_sm be) (bd_sm bf)
    rwa [e2] at this
  have pk := sq_pos hm
  have pn := sq_pos hl
  have bpr : (a * a + b * b) * (d * d + e * e) ≤ 4000000000000 := by
    have := bd_mul (bd_add (bd_mul ba ba) (bd_mul bb bb)) (bd_add (bd_mul bd' bd') (bd_mul be be))
    unfold bd at this
    omega
  have ppr : 0 ≤ (a * a + b * b) * (d * d + e * e) := Int.mul_nonneg (by omega) (by omega)
  by_cases hp : A * E - B * D = 0
  · have hp' : a * e - b * d = 0 := by subst ha hb hd he; grind
    obtain ⟨q1, q2, q3, q4⟩ := par_facts hl hm hp'
    obtain ⟨ρ, hρ⟩ : ∃ ρ : Nat, ρ = (a * d + b * e).natAbs := ⟨_, rfl⟩
    have hsq : (a * a + b * b) * (d * d + e * e) = (ρ : Int) * (ρ : Int) := by rw [hρ, nat_sq]; exact q3
    have hρ2 := root_small hsq bpr
    by_cases hs : A = D ∧ B = E ∧ C = F
    · have hz : (d * d + e * e) * c = (a * d + b * e) * f := by
        obtain ⟨rfl, rfl, rfl⟩ := hs
        subst ha hb hc hd he hf
        grind
      refine Or.inl ⟨6, by decide, ?_, fun W => halvesOf16_twice a b c d e f A B C D E F W (same3_yes hs) CL CM⟩
      intro W
      rcases Int.lt_or_lt_of_ne q4 with k | k
      · exact halves14_zero_x a b c d e f _ _ (-(a * d + b * e)) _ _ _ _ _ _ _ _ _ _ _ _ _ _ _ _ _ W hk rfl rfl rfl rfl rfl rfl rfl rfl rfl rfl rfl rfl rfl rfl rfl rfl rfl rfl rfl ρ (by omega) hρ2 hsq (same3_yes ⟨by rw [Int.neg_mul, q1]; omega, by rw [Int.neg_mul, q2]; omega, by rw [Int.neg_mul, hz]; omega⟩)
      · have w0 : ¬ ((d * d + e * e) * a + (a * d + b * e) * d = 0 ∧ (d * d + e * e) * b + (a * d + b * e) * e = 0) := fun ⟨h1, h2⟩ => hl ⟨by
            have : (d * d + e * e) * a = 0 := by omega
            rcases Int.mul_eq_zero.1 this with x | x
            · omega
            · exact x, by
            have : (d * d + e * e) * b = 0 := by omega
            rcases Int.mul_eq_zero.1 this with x | x
            · omega
            · exact x⟩
        exact halves14_some_zero a b c d e f _ _ (a * d + b * e) _ _ _ _ _ _ _ _ _ _ _ _ _ _ _ _ _ _ _ _ W hk rfl rfl rfl rfl rfl rfl rfl rfl rfl rfl rfl rfl rfl rfl rfl rfl rfl rfl rfl ρ (by omega) hρ2 hsq (same3_no fun h => w0 ⟨h.1, h.2.1⟩) (wl_no w0) rfl (same3_yes ⟨by rw [Int.neg_mul, q1]; omega, by rw [Int.neg_mul, q2]; omega, by rw [Int.neg_mul, hz]; omega⟩)
    · have hz : (d * d + e * e) * c ≠ (a * d + b * e) * f := fun h => hs (by
        have := frm_like (t := d * d + e * e) (s := a * d + b * e) (by omega) q4 hl hm q1 q2 h
        rw [e1, e2] at this
        exact st_inj this)
      obtain ⟨U, V, hUV⟩ : ∃ U V, (U = A ∧ V = D ∧ A ≠ 0) ∨ (U = B ∧ V = E ∧ A = 0) := by
        by_cases h : A = 0
        · exact ⟨B, E, Or.inr ⟨rfl, rfl, h⟩⟩
        · exact ⟨A, D, Or.inl ⟨rfl, rfl, h⟩⟩
      obtain ⟨hG, hw⟩ := par_fold hu hv ha hb hc hd he hf hL hM hp hUV
      obtain ⟨G1, G2, G3, hGG⟩ : ∃ G1 G2 G3, frm (2 * A * V) (2 * B * V) (C * V + F * U) = .agg #[.int .i64 G1, .int .i64 G2, .int .i64 G3] := ⟨_, _, _, rfl⟩
      refine Or.inr (Or.inl ⟨G1, G2, G3, ?_, ?_⟩)
      · intro W
        rcases Int.lt_or_lt_of_ne q4 with k | k
        · have z0 : (d * d + e * e) * a + -(a * d + b * e) * d = 0 := by rw [Int.neg_mul, q1]; omega
          have z1 : (d * d + e * e) * b + -(a * d + b * e) * e = 0 := by rw [Int.neg_mul, q2]; omega
          have z2 : ¬ (d * d + e * e) * c + -(a * d + b * e) * f = 0 := by rw [Int.neg_mul]; omega
          have nn0 : - -(a * d + b * e) = a * d + b * e := Int.neg_neg _
          have w1 : ¬ ((d * d + e * e) * a + - -(a * d + b * e) * d = 0 ∧ (d * d + e * e) * b + - -(a * d + b * e) * e = 0) := by
            rw [nn0]
            exact fun ⟨h1, h2⟩ => hl ⟨by
              have : (d * d + e * e) * a = 0 := by omega
              rcases Int.mul_eq_zero.1 this with x | x
              · omega
              · exact x, by
              have : (d * d + e * e) * b = 0 := by omega
              rcases Int.mul_eq_zero.1 this with x | x
              · omega
              · exact x⟩
          exact halves14_none_some a b c d e f _ _ (-(a * d + b * e)) G1 G2 G3 _ _ _ _ _ _ _ _ _ _ _ _ _ _ _ _ _ W hk rfl rfl rfl rfl rfl rfl rfl rfl rfl rfl rfl rfl rfl rfl rfl rfl rfl rfl rfl ρ (by omega) hρ2 hsq (same3_no fun h => z2 h.2.2) (wl_yes ⟨z0, z1⟩) (same3_no fun h => w1 ⟨h.1, h.2.1⟩) (wl_no w1) (by rw [nn0, hG, hGG])
        · have w0 : ¬ ((d * d + e * e) * a + (a * d + b * e) * d = 0 ∧ (d * d + e * e) * b + (a * d + b * e) * e = 0) := fun ⟨h1, h2⟩ => hl ⟨by
              have : (d * d + e * e) * a = 0 := by omega
              rcases Int.mul_eq_zero.1 this with x | x
              · omega
              · exact x, by
              have : (d * d + e * e) * b = 0 := by omega
              rcases Int.mul_eq_zero.1 this with x | x
              · omega
              · exact x⟩
          have z0 : (d * d + e * e) * a + -(a * d + b * e) * d = 0 := by rw [Int.neg_mul, q1]; omega
          have z1 : (d * d + e * e) * b + -(a * d + b * e) * e = 0 := by rw [Int.neg_mul, q2]; omega
          have z2 : ¬ (d * d + e * e) * c + -(a * d + b * e) * f = 0 := by rw [Int.neg_mul]; omega
          exact halves14_some_none a b c d e f _ _ (a * d + b * e) G1 G2 G3 _ _ _ _ _ _ _ _ _ _ _ _ _ _ _ _ _ W hk rfl rfl rfl rfl rfl rfl rfl rfl rfl rfl rfl rfl rfl rfl rfl rfl rfl rfl rfl ρ (by omega) hρ2 hsq (same3_no fun h => w0 ⟨h.1, h.2.1⟩) (wl_no w0) (by rw [hG, hGG]) (same3_no fun h => z2 h.2.2) (wl_yes ⟨z0, z1⟩)
      · intro W
        rcases hUV with ⟨rfl, rfl, h0⟩ | ⟨rfl, rfl, h0⟩
        · refine (halvesOf16_onea a b c d e f U B C V E F G1 G2 G3 _ _ _ _ _ _ _ _ _ _ W bA bB bC bD bE bF rfl rfl rfl rfl rfl rfl rfl rfl rfl rfl (same3_no hs) hp h0 hw hGG CL CM).mono ?_
          rintro z w' ⟨g, h1, h2, h3⟩
          exact ⟨g, 1, h1, h2, h3⟩
        · refine (halvesOf16_oneb a b c d e f A U C D V F G1 G2 G3 _ _ _ _ _ _ _ _ _ _ W bA bB bC bD bE bF rfl rfl rfl rfl rfl rfl rfl rfl rfl rfl (same3_no hs) hp h0 hw hGG CL CM).mono ?_
          rintro z w' ⟨g, h1, h2, h3⟩
          exact ⟨g, 1, h1, h2, h3⟩
  · have hs : ¬ (A = D ∧ B = E ∧ C = F) := fun ⟨h1, h2, _⟩ => hp (by rw [h1, h2]; grind)
    have huv : u * v ≠ 0 := fun h => by
      rcases Int.mul_eq_zero.1 h with x | x
      · exact hu x
      · exact hv x
    have hp' : a * e - b * d ≠ 0 := fun h => by
      have : u * v * (A * E - B * D) = 0 := by
        subst ha hb hd he
        grind
      rcases Int.mul_eq_zero.1 this with x | x
      · exact huv x
      · exact hp x
    have eN : (a * a + b * b) * (d * d + e * e) = (u * v) * (u * v) * ((A * A + B * B) * (D * D + E * E)) := by
      subst ha hb hd he
      grind
    have pK := sq_pos hM
    have pN := sq_pos hL
    have pP : 0 ≤ (A * A + B * B) * (D * D + E * E) := Int.mul_nonneg (by omega) (by omega)
    have bPR : (A * A + B * B) * (D * D + E * E) ≤ 4000000000000 := by
      have := bd_mul (bd_add (bd_mul bA bA) (bd_mul bB bB)) (bd_add (bd_mul bD bD) (bd_mul bE bE))
      unfold bd at this
      omega
    by_cases hsq : ∃ ρ : Nat, (a * a + b * b) * (d * d + e * e) = (ρ : Int) * (ρ : Int)
    · obtain ⟨ρ, hρe⟩ := hsq
      have hρ2 := root_small hρe bpr
      obtain ⟨M, hM0⟩ : ∃ M : Nat, (M : Int) = (A * A + B * B) * (D * D + E * E) := ⟨((A * A + B * B) * (D * D + E * E)).toNat, Int.toNat_of_nonneg pP⟩
      obtain ⟨q, hq1, hq2⟩ := root_part (u := (u * v).natAbs) (n := M) (r := ρ) (by omega) (by
        have h1 : (((u * v).natAbs * (u * v).natAbs * M : Nat) : Int) = ((ρ * ρ : Nat) : Int) := by
          rw [Int.natCast_mul, Int.natCast_mul, Int.natCast_mul, nat_sq, hM0, ← eN, hρe]
        exact_mod_cast h1)
      have hQ : (A * A + B * B) * (D * D + E * E) = (q : Int) * (q : Int) := by
        rw [← hM0, hq2, Int.natCast_mul]
      have hq3 := root_small hQ bPR
      have x1 := cross_way (k := d * d + e * e) (r := (ρ : Int)) (by omega) hp'
      have x2 := cross_way (k := d * d + e * e) (r := -(ρ : Int)) (by omega) hp'
      have X1 := cross_way (k := D * D + E * E) (r := (q : Int)) (by omega) hp
      have X2 : ¬ ((D * D + E * E) * A - (q : Int) * D = 0 ∧ (D * D + E * E) * B - (q : Int) * E = 0) := fun ⟨h1, h2⟩ => cross_way (k := D * D + E * E) (r := -(q : Int)) (by omega) hp ⟨by rw [Int.neg_mul]; omega, by rw [Int.neg_mul]; omega⟩
      have ht : u * v * v ≠ 0 := fun h => by
        rcases Int.mul_eq_zero.1 h with x | x
        · exact huv x
        · exact hv x
      obtain ⟨G1, G2, G3, hG⟩ : ∃ G1 G2 G3, frm ((d * d + e * e) * a + (ρ : Int) * d) ((d * d + e * e) * b + (ρ : Int) * e) ((d * d + e * e) * c + (ρ : Int) * f) = .agg #[.int .i64 G1, .int .i64 G2, .int .i64 G3] := ⟨_, _, _, rfl⟩
      obtain ⟨H1, H2, H3, hH⟩ : ∃ H1 H2 H3, frm ((d * d + e * e) * a + -(ρ : Int) * d) ((d * d + e * e) * b + -(ρ : Int) * e) ((d * d + e * e) * c + -(ρ : Int) * f) = .agg #[.int .i64 H1, .int .i64 H2, .int .i64 H3] := ⟨_, _, _, rfl⟩
      have CODE : if lsS H1 H2 H3 G1 G2 G3 = true then CTwo 14 (st a b c) (st d e f) H1 H2 H3 G1 G2 G3 else CTwo 14 (st a b c) (st d e f) G1 G2 G3 H1 H2 H3 := by
        split
        · rename_i h
          intro W
          exact halves14_some_some_swap a b c d e f _ _ (ρ : Int) G1 G2 G3 H1 H2 H3 _ _ _ _ _ _ _ _ _ _ _ _ _ _ _ _ _ W hk rfl rfl rfl rfl rfl rfl rfl rfl rfl rfl rfl rfl rfl rfl rfl rfl rfl rfl rfl ρ rfl hρ2 hρe (same3_no fun h => x1 ⟨h.1, h.2.1⟩) (wl_no x1) hG (same3_no fun h => x2 ⟨h.1, h.2.1⟩) (wl_no x2) hH ((cmpS_neg _ _ _ _ _ _).trans h)
        · rename_i h
          intro W
          exact halves14_some_some_keep a b c d e f _ _ (ρ : Int) G1 G2 G3 H1 H2 H3 _ _ _ _ _ _ _ _ _ _ _ _ _ _ _ _ _ W hk rfl rfl rfl rfl rfl rfl rfl rfl rfl rfl rfl rfl rfl rfl rfl rfl rfl rfl rfl ρ rfl hρ2 hρe (same3_no fun h => x1 ⟨h.1, h.2.1⟩) (wl_no x1) hG (same3_no fun h => x2 ⟨h.1, h.2.1⟩) (wl_no x2) hH ((cmpS_neg _ _ _ _ _ _).trans (by simpa using h))
      have REF : ∀ P1 P2 P3 R1 R2 R3, frm ((D * D + E * E) * A + (q : Int) * D) ((D * D + E * E) * B + (q : Int) * E) ((D * D + E * E) * C + (q : Int) * F) = .agg #[.int .i64 P1, .int .i64 P2, .int .i64 P3] → frm ((D * D + E * E) * A - (q : Int) * D) ((D * D + E * E) * B - (q : Int) * E) ((D * D + E * E) * C - (q : Int) * F) = .agg #[.int .i64 R1, .int .i64 R2, .int .i64 R3] →
          if lsS R1 R2 R3 P1 P2 P3 = true then CTwo 16 (st a b c) (st d e f) R1 R2 R3 P1 P2 P3 else CTwo 16 (st a b c) (st d e f) P1 P2 P3 R1 R2 R3 := fun P1 P2 P3 R1 R2 R3 hP hR => by
        split
        · rename_i h
          intro W
          refine (halvesOf16_twos a b c d e f A B C D E F (q : Int) P1 P2 P3 R1 R2 R3 _ _ _ _ _ _ _ _ _ _ _ _ _ _ _ _ _ _ _ _ _ _ W bA bB bC bD bE bF rfl rfl rfl rfl rfl rfl rfl rfl rfl rfl rfl rfl rfl rfl rfl rfl rfl rfl rfl rfl rfl rfl q rfl hq3 hQ (same3_no hs) hp X1 X2 hP hR h CL CM).mono ?_
          rintro z w' ⟨g, h1, h2, h3⟩
          exact ⟨g, 2, h1, h2, h3⟩
        · rename_i h
          intro W
          refine (halvesOf16_twok a b c d e f A B C D E F (q : Int) P1 P2 P3 R1 R2 R3 _ _ _ _ _ _ _ _ _ _ _ _ _ _ _ _ _ _ _ _ _ _ W bA bB bC bD bE bF rfl rfl rfl rfl rfl rfl rfl rfl rfl rfl rfl rfl rfl rfl rfl rfl rfl rfl rfl rfl rfl rfl q rfl hq3 hQ (same3_no hs) hp X1 X2 hP hR (by simpa using h) CL CM).mono ?_
          rintro z w' ⟨g, h1, h2, h3⟩
          exact ⟨g, 2, h1, h2, h3⟩
      refine Or.inr (Or.inr ?_)
      rcases Int.lt_or_lt_of_ne huv with k | k
      · have er : (ρ : Int) = -(u * v) * (q : Int) := by
          rw [hq1, Int.natCast_mul]
          congr 1
          omega
        have f1 : frm ((d * d + e * e) * a + (ρ : Int) * d) ((d * d + e * e) * b + (ρ : Int) * e) ((d * d + e * e) * c + (ρ : Int) * f) = frm ((D * D + E * E) * A - (q : Int) * D) ((D * D + E * E) * B - (q : Int) * E) ((D * D + E * E) * C - (q : Int) * F) := by
          rw [← frm_scale ht X2]
          congr 1
          · rw [er]; subst ha hb hd he; grind
          · rw [er]; subst ha hb hd he; grind
          · rw [er]; subst ha hb hc hd he hf; grind
        have f2 : frm ((d * d + e * e) * a + -(ρ : Int) * d) ((d * d + e * e) * b + -(ρ : Int) * e) ((d * d + e * e) * c + -(ρ : Int) * f) = frm ((D * D + E * E) * A + (q : Int) * D) ((D * D + E * E) * B + (q : Int) * E) ((D * D + E * E) * C + (q : Int) * F) := by
          rw [← frm_scale ht X1]
          congr 1
          · rw [er]; subst ha hb hd he; grind
          · rw [er]; subst ha hb hd he; grind
          · rw [er]; subst ha hb hc hd he hf; grind
        have REF2 := REF H1 H2 H3 G1 G2 G3 (f2.symm.trans hH) (f1.symm.trans hG)
        cases hA : lsS H1 H2 H3 G1 G2 G3
        · rw [if_neg (by rw [hA]; simp)] at CODE
          cases hB : lsS G1 G2 G3 H1 H2 H3
          · rw [if_neg (by rw [hB]; simp)] at REF2
            obtain ⟨rfl, rfl, rfl⟩ := lsS_tot hA hB
            exact ⟨_, _, _, _, _, _, CODE, REF2⟩
          · rw [if_pos hB] at REF2
            exact ⟨_, _, _, _, _, _, CODE, REF2⟩
        · rw [if_pos hA] at CODE
          rw [if_neg (by rw [lsS_asym hA]; simp)] at REF2
          exact ⟨_, _, _, _, _, _, CODE, REF2⟩
      · have er : (ρ : Int) = (u * v) * (q : Int) := by
          rw [hq1, Int.natCast_mul]
          congr 1
          omega
        have f1 : frm ((d * d + e * e) * a + (ρ : Int) * d) ((d * d + e * e) * b + (ρ : Int) * e) ((d * d + e * e) * c + (ρ : Int) * f) = frm ((D * D + E * E) * A + (q : Int) * D) ((D * D + E * E) * B + (q : Int) * E) ((D * D + E * E) * C + (q : Int) * F) := by
          rw [← frm_scale ht X1]
          congr 1
          · rw [er]; subst ha hb hd he; grind
          · rw [er]; subst ha hb hd he; grind
          · rw [er]; subst ha hb hc hd he hf; grind
        have f2 : frm ((d * d + e * e) * a + -(ρ : Int) * d) ((d * d + e * e) * b + -(ρ : Int) * e) ((d * d + e * e) * c + -(ρ : Int) * f) = frm ((D * D + E * E) * A - (q : Int) * D) ((D * D + E * E) * B - (q : Int) * E) ((D * D + E * E) * C - (q : Int) * F) := by
          rw [← frm_scale ht X2]
          congr 1
          · rw [er]; subst ha hb hd he; grind
          · rw [er]; subst ha hb hd he; grind
          · rw [er]; subst ha hb hc hd he hf; grind
        have REF2 := REF G1 G2 G3 H1 H2 H3 (f1.symm.trans hG) (f2.symm.trans hH)
        cases hA : lsS H1 H2 H3 G1 G2 G3
        · rw [if_neg (by rw [hA]; simp)] at CODE REF2
          exact ⟨_, _, _, _, _, _, CODE, REF2⟩
        · rw [if_pos hA] at CODE REF2
          exact ⟨_, _, _, _, _, _, CODE, REF2⟩
    · have hno : ∀ ρ : Nat, (a * a + b * b) * (d * d + e * e) ≠ (ρ : Int) * (ρ : Int) := fun ρ h => hsq ⟨ρ, h⟩
      have hno2 : ∀ ρ : Nat, (A * A + B * B) * (D * D + E * E) ≠ (ρ : Int) * (ρ : Int) := fun ρ h => hsq ⟨(u * v).natAbs * ρ, by
        rw [eN, h, Int.natCast_mul, ← nat_sq (u * v)]
        grind⟩
      refine Or.inl ⟨4, by decide, fun W => ?_, fun W => ?_⟩
      · exact halves14_kind a b c d e f _ _ _ W hk rfl rfl rfl ppr hno
      · exact halvesOf16_kind a b c d e f A B C D E F _ _ _ _ _ _ _ _ _ _ W bA bB bC bD bE bF rfl rfl rfl rfl rfl rfl rfl rfl rfl rfl (same3_no hs) hp pP hno2 CL CM
end Go.Proofs.Ytohnppjbmpaomaa
