/- Folds. -/
import Derived.Test.YtblagffijppgjaaBegn
namespace Go.Proofs.Ytblagffijppgjaa
open Go.RowKit

/-- The folds as a word begins. -/
def bg (ws : List Int) : List Int := (bgl ws (Nat.log2 (ws.length + 1))).reverse
def fcode (ws : List Int) : Int := if isP ws.length = false then 2 else if allK ws = false then 4 else if opn (bg ws) = ws then 0 else 9
def fres (ws : List Int) : List Int := if fcode ws = 0 then bg ws else []
theorem bg_k {ws : List Int} {k : Nat} (h : 2 ^ k = ws.length + 1) : bg ws = (bgl ws k).reverse := by rw [bg, ← h, Nat.log2_two_pow]
theorem bg_allK {ws : List Int} {k : Nat} (h : 2 ^ k = ws.length + 1) (ha : allK ws = true) : allK (bg ws) = true := by
  rw [bg_k h, allK, List.all_reverse]
  refine allK_of fun i hi => ?_
  rw [bgl_len] at hi
  have h2 := pow_lt hi
  have h3 := pow_pos i
  have e : gt (bgl ws k) i = gt ws (2 ^ i - 1) := by
    rw [gt_lt (by rw [bgl_len]; exact hi)]
    simp [bgl]
  rw [e]
  exact allK_at ha (by omega)
theorem bg_len {ws : List Int} {k : Nat} (h : 2 ^ k = ws.length + 1) : (bg ws).length = k := by rw [bg_k h, List.length_reverse, bgl_len]
set_option maxRecDepth 100000 in
set_option maxHeartbeats 1000000 in
theorem folds14 (v : Value) (ws : List Int) (w : World) (hv : Sg w v ws) (hl : ws.length ≤ 17592186044416) :
    Calls Try.prog 14 #[v] w fun e w' => ∃ u, e = .returned (.tuple #[u, .int .i64 (fcode ws)]) ∧ Sl w' u (fres ws) ∧ Below w.heap.size w w' := by
  have CH : Hid (∀ W : World, Calls Try.prog 21 #[.int .i64 ((ws.length : Int) + 1)] W fun e w' => e = .returned (.bool (isP ws.length)) ∧ Below W.heap.size W w') := fun W => halved21 ws.length hl W
  have CC : Hid (∀ W : World, Below w.heap.size w W → Calls Try.prog 18 #[v] W fun e w' => e = .returned (.bool (allK ws)) ∧ Below W.heap.size W w') := fun W hW => creases18 v ws W (hv.kept hW) hl
  cases hp : isP ws.length with
  | false =>
    have hf : fcode ws = 2 := by rw [fcode, if_pos hp]
    have hr : fres ws = [] := by rw [fres, hf]; rfl
    rw [hf, hr]
    rw [hp] at CH
    obtain ⟨a, c, rfl, hR⟩ := hv
    clear hR hf hr hp CC
    go_enter Try.func14, Try.ntmps14
    go_wp2_with (go_at_call 21; refine (CH.out _).mono ?_; rintro e w1 ⟨rfl, hb⟩)
    go_ret2
    exact ⟨_, rfl, Or.inl ⟨rfl, rfl⟩, hb⟩
  | true =>
    rw [hp] at CH
    obtain ⟨k, hk, h2k⟩ := isP_ex.1 hp
    cases ha : allK ws with
    | false =>
      have hf : fcode ws = 4 := by rw [fcode, if_neg (by rw [hp]; simp), if_pos ha]
      have hr : fres ws = [] := by rw [fres, hf]; rfl
      rw [hf, hr]
      rw [ha] at CC
      obtain ⟨a, c, rfl, hR⟩ := hv
      clear hR hf hr hp ha hk h2k
      go_enter Try.func14, Try.ntmps14
      go_wp2_with (first | (go_at_call 21; refine (CH.out _).mono ?_; rintro e w1 ⟨rfl, hb⟩; have H1 : Hid (Below w.heap.size w w1) := hb; clear hb) | (go_at_call 18; refine (CC.out _ H1.out).mono ?_; rintro e w2 ⟨rfl, hb⟩; have H2 : Hid (Below w.heap.size w w2) := bl_via H1.out hb; clear hb))
      go_ret2
      exact ⟨_, rfl, Or.inl ⟨rfl, rfl⟩, H2.out⟩
    | true =>
      rw [ha] at CC
      have h1024 : ws.length ≤ 1023 := by have := pow10 hk; omega
      have CB : Hid (∀ W : World, Below w.heap.size w W → Calls Try.prog 22 #[v] W fun e w' => ∃ u, e = .returned u ∧ Sl w' u (bg ws) ∧ Below W.heap.size W w') := fun W hW => by
        have := begun22 v ws k W (hv.kept hW) hk h2k.symm
        rw [← bg_k h2k] at this
        exact this
      have CO : Hid (∀ (W : World) (u : Value), Sg W u (bg ws) → Calls Try.prog 19 #[u] W fun e w' => ∃ u, e = .returned u ∧ Sg w' u (opn (bg ws)) ∧ Below W.heap.size W w') := fun W u hu =>
        (opened19 u (bg ws) W hu (by rw [bg_len h2k]; exact hk) (bg_allK h2k ha)).mono fun e w' ⟨u, h1, h2, h3⟩ => ⟨u, h1, (own_sl (n := (opn (bg ws)).length) (e := 3) h2 rfl).sg, h3⟩
      have hol : (opn (bg ws)).length ≤ 17592186044416 := by
        have := opn_len (bg ws)
        rw [bg_len h2k] at this
        omega
      have CE : Hid (∀ (W : World) (x : Value), Below w.heap.size w W → Sg W x (opn (bg ws)) → Calls Try.prog 23 #[x, v] W fun e w' => e = .returned (.bool (opn (bg ws) == ws)) ∧ Below W.heap.size W w') := fun W x hW hx => equal_any x v _ _ W hx (hv.kept hW) hol hl
      have hfc : fcode ws = if opn (bg ws) = ws then 0 else 9 := by rw [fcode, if_neg (by rw [hp]; simp), if_neg (by rw [ha]; simp)]
      cases he : (opn (bg ws) == ws) with
      | false =>
        have hf : fcode ws = 9 := by rw [hfc, if_neg (by simpa using he)]
        have hr : fres ws = [] := by rw [fres, hf]; rfl
        rw [hf, hr]
        rw [he] at CE
        obtain ⟨a, c, rfl, hR⟩ := hv
        clear hR hf hr hp ha hk h2k hol hfc he
        go_enter Try.func14, Try.ntmps14
        go_wp2_with (first
          | (go_at_call 21; refine (CH.out _).mono ?_; rintro e w1 ⟨rfl, hb⟩; have H1 : Hid (Below w.heap.size w w1) := hb; clear hb)
          | (go_at_call 18; refine (CC.out _ H1.out).mono ?_; rintro e w2 ⟨rfl, hb⟩; have H2 : Hid (Below w.heap.size w w2) := bl_via H1.out hb; clear hb)
          | (go_at_call 22; refine (CB.out _ H2.out).mono ?_; rintro e w3 ⟨u3, rfl, hs, hb⟩; have H3 : Hid (Sl w3 u3 (bg ws) ∧ Below w.heap.size w w3) := ⟨hs, bl_via H2.out hb⟩; clear hs hb)
          | (go_at_call 19; refine (CO.out _ _ H3.out.1.sg).mono ?_; rintro e w4 ⟨u4, rfl, hs, hb⟩; have H4 : Hid (Sg w4 u4 (opn (bg ws)) ∧ Sl w4 u3 (bg ws) ∧ Below w.heap.size w w4) := ⟨hs, H3.out.1.kept hb, bl_via H3.out.2 hb⟩; clear hs hb)
          | (go_at_call 23; refine (CE.out _ _ H4.out.2.2 H4.out.1).mono ?_; rintro e w5 ⟨rfl, hb⟩; have H5 : Hid (Sl w5 u3 (bg ws) ∧ Below w.heap.size w w5) := ⟨H4.out.2.1.kept hb, bl_via H4.out.2.2 hb⟩; clear hb))
        go_ret2
        exact ⟨_, rfl, Or.inl ⟨rfl, rfl⟩, H5.out.2⟩
      | true =>
        have hf : fcode ws = 0 := by rw [hfc, if_pos (by simpa using he)]
        have hr : fres ws = bg ws := by rw [fres, if_pos hf]
        rw [hf, hr]
        rw [he] at CE
        obtain ⟨a, c, rfl, hR⟩ := hv
        clear hR hf hr hp ha hk h2k hol hfc he
        go_enter Try.func14, Try.ntmps14
        go_wp2_with (first
          | (go_at_call 21; refine (CH.out _).mono ?_; rintro e w1 ⟨rfl, hb⟩; have H1 : Hid (Below w.heap.size w w1) := hb; clear hb)
          | (go_at_call 18; refine (CC.out _ H1.out).mono ?_; rintro e w2 ⟨rfl, hb⟩; have H2 : Hid (Below w.heap.size w w2) := bl_via H1.out hb; clear hb)
          | (go_at_call 22; refine (CB.out _ H2.out).mono ?_; rintro e w3 ⟨u3, rfl, hs, hb⟩; have H3 : Hid (Sl w3 u3 (bg ws) ∧ Below w.heap.size w w3) := ⟨hs, bl_via H2.out hb⟩; clear hs hb)
          | (go_at_call 19; refine (CO.out _ _ H3.out.1.sg).mono ?_; rintro e w4 ⟨u4, rfl, hs, hb⟩; have H4 : Hid (Sg w4 u4 (opn (bg ws)) ∧ Sl w4 u3 (bg ws) ∧ Below w.heap.size w w4) := ⟨hs, H3.out.1.kept hb, bl_via H3.out.2 hb⟩; clear hs hb)
          | (go_at_call 23; refine (CE.out _ _ H4.out.2.2 H4.out.1).mono ?_; rintro e w5 ⟨rfl, hb⟩; have H5 : Hid (Sl w5 u3 (bg ws) ∧ Below w.heap.size w w5) := ⟨H4.out.2.1.kept hb, bl_via H4.out.2.2 hb⟩; clear hb))
        go_ret2
        exact ⟨_, rfl, H5.out.1, H5.out.2⟩
end Go.Proofs.Ytblagffijppgjaa
