/- The law DragonFolds. -/
import Derived.Test.YtblagffijppgjaaRefg
namespace Go.Proofs.Ytblagffijppgjaa
open Go.RowKit

theorem fres_small (ws : List Int) : (fres ws).length ≤ 17592186044416 := by
  unfold fres
  by_cases h : fcode ws = 0
  · rw [if_pos h]
    have hp : isP ws.length = true := by
      cases e : isP ws.length with
      | true => rfl
      | false =>
        rw [fcode, if_pos e] at h
        cases h
    obtain ⟨k, hk, e⟩ := isP_ex.1 hp
    rw [bg_len e]
    omega
  · rw [if_neg h]
    simp
set_option maxRecDepth 100000 in
set_option maxHeartbeats 1000000 in
theorem folds_any (a : Option Addr) (c : Nat) (ws : List Int) (w : World) (hv : Sg w (.slice a ws.length c) ws) (hl : ws.length ≤ 17592186044416) :
    Calls Try.prog 4 #[.slice a ws.length c] w fun e w' => e = .returned (.bool true) ∧ Below w.heap.size w w' := by
  have CI : Hid (Calls Try.prog 8 #[.slice a ws.length c] w fun e w' => ∃ u, e = .returned u ∧ Sg w' u ws ∧ Below w.heap.size w w') := (ints_any _ ws w hv hl).mono fun e w' ⟨u, h1, h2, h3⟩ => ⟨u, h1, h2.sg, h3⟩
  have CF : Hid (∀ (W : World) (u : Value), Sg W u ws → Calls Try.prog 14 #[u] W fun e w' => ∃ u, e = .returned (.tuple #[u, .int .i64 (fcode ws)]) ∧ Sl w' u (fres ws) ∧ Below W.heap.size W w') := fun W u hu => folds14 u ws W hu hl
  have CR : Hid (∀ W : World, Below w.heap.size w W → Calls Try.prog 15 #[.slice a ws.length c] W fun e w' => ∃ u, e = .returned (.tuple #[u, .int .i64 (fcode ws)]) ∧ Sl w' u (fres ws) ∧ Below W.heap.size W w') := fun W hW => foldsOf15 _ ws W (hv.kept hW) hl
  have CS : Hid (∀ (W : World) (x y : Value), Sg W x (fres ws) → Sg W y (fres ws) → Calls Try.prog 12 #[x, y] W fun e w' => e = .returned (.bool true) ∧ Below W.heap.size W w') := fun W x y hx hy => by
    have := same_any x y _ _ W hx hy (fres_small ws) (fres_small ws)
    simpa using this
  obtain ⟨fc, hfc⟩ : ∃ x, x = fcode ws := ⟨_, rfl⟩
  obtain ⟨fr, hfr⟩ : ∃ x, x = fres ws := ⟨_, rfl⟩
  rw [← hfc, ← hfr] at CF CR
  rw [← hfr] at CS
  clear hfc hfr hv
  go_enter Try.func4, Try.ntmps4
  go_wp2_with (first
    | (go_at_call 8; refine CI.out.mono ?_; rintro e w1 ⟨u1, rfl, hs, hb⟩; have H1 : Hid (Sg w1 u1 ws ∧ Below w.heap.size w w1) := ⟨hs, hb⟩; clear hs hb)
    | (go_at_call 14; refine (CF.out _ _ H1.out.1).mono ?_; rintro e w2 ⟨u2, rfl, hs, hb⟩; have H2 : Hid (Sl w2 u2 fr ∧ Below w.heap.size w w2) := ⟨hs, bl_via H1.out.2 hb⟩; clear hs hb)
    | (go_at_call 15; refine (CR.out _ H2.out.2).mono ?_; rintro e w3 ⟨u3, rfl, hs, hb⟩; have H3 : Hid (Sl w3 u2 fr ∧ Sl w3 u3 fr ∧ Below w.heap.size w w3) := ⟨H2.out.1.kept hb, hs, bl_via H2.out.2 hb⟩; clear hs hb)
    | (go_at_call 12; refine (CS.out _ _ _ H3.out.1.sg H3.out.2.1.sg).mono ?_; rintro e w4 ⟨rfl, hb⟩; have H4 : Hid (Below w.heap.size w w4) := bl_via H3.out.2.2 hb; clear hb))
  go_ret
  exact ⟨rfl, H4.out⟩
end Go.Proofs.Ytblagffijppgjaa
