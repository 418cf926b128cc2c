/- Straights in a row; what all calls refuse. -/
import Derived.Test.YtohnppjbmpaomaaFarr
namespace Go.Proofs.Ytohnppjbmpaomaa
open Go.RowKit

/-- A straight's three numbers. -/
structure Ln where
  a : Int
  b : Int
  c : Int
def Ln.v (l : Ln) : Value := st l.a l.b l.c
def gl (L : List Ln) (i : Nat) : Ln := L.getD i ⟨0, 0, 0⟩
def Ln.far (l : Ln) : Bool := [l.a, l.b, l.c].any Ytohnppjbmpaomaa.far
def Ln.wl (l : Ln) : Bool := Ytohnppjbmpaomaa.wl l.a l.b
theorem gl_lt {h : List Ln} {i : Nat} (hi : i < h.length) : gl h i = h[i] := by simp [gl, hi]
theorem any_gl {p : Ln → Bool} {l : List Ln} {i : Nat} (h : i < l.length) (hf : p (gl l i) = true) : l.any p = true := by
  rw [gl_lt h] at hf
  exact List.any_eq_true.2 ⟨_, List.getElem_mem h, hf⟩
theorem any_ngl {p : Ln → Bool} {l : List Ln} (h : ∀ k, k < l.length → p (gl l k) = false) : l.any p = false := by
  rw [List.any_eq_false]
  intro x hx
  obtain ⟨i, hi, rfl⟩ := List.getElem_of_mem hx
  have := h i hi
  rw [gl_lt hi] at this
  simp [this]
/-- A slice with these straights. -/
def Sn (w : World) (v : Value) (L : List Ln) : Prop := ∃ a c, v = .slice a L.length c ∧ ∀ i, i < L.length → ∃ g, a = some ⟨g, 0, none⟩ ∧ w.cell? ⟨g, i * 3, none⟩ = some (.int .i64 (gl L i).a) ∧ w.cell? ⟨g, i * 3 + 1, none⟩ = some (.int .i64 (gl L i).b) ∧ w.cell? ⟨g, i * 3 + 2, none⟩ = some (.int .i64 (gl L i).c)
theorem Sn.kept {w wx : World} {v : Value} {L : List Ln} (h : Sn w v L) (hb : Below w.heap.size w wx) : Sn wx v L := by
  obtain ⟨a, c, e, h⟩ := h
  refine ⟨a, c, e, fun i hi => ?_⟩
  obtain ⟨g, e2, h1, h2, h3⟩ := h i hi
  exact ⟨g, e2, cl_kept hb h1, cl_kept hb h2, cl_kept hb h3⟩

def Ix42 (L : List Ln) (r : Int) : Prop := decide (0 ≤ r) = L.any Ln.far
set_option maxRecDepth 100000 in
set_option maxHeartbeats 800000 in
theorem index52_42 (v : Value) (L : List Ln) (w : World) (hv : Sn w v L) (hl : L.length ≤ 17592186044416) :
    Calls Try.prog 52 #[v, .func (.func 42) #[] #[]] w fun e w' => ∃ r : Int, e = .returned (.int .i64 r) ∧ Ix42 L r ∧ Below w.heap.size w w' := by
  obtain ⟨a, c, rfl, hR⟩ := hv
  have HR : Hid (∀ i, i < L.length → ∃ g, a = some ⟨g, 0, none⟩ ∧ w.cell? ⟨g, i * 3, none⟩ = some (.int .i64 (gl L i).a) ∧ w.cell? ⟨g, i * 3 + 1, none⟩ = some (.int .i64 (gl L i).b) ∧ w.cell? ⟨g, i * 3 + 2, none⟩ = some (.int .i64 (gl L i).c)) := hR
  have CF : Hid (∀ (k : Ln) (W : World), Calls Try.prog 42 #[st k.a k.b k.c] W fun e w' => e = .returned (.bool (Ln.far k)) ∧ Below W.heap.size W w') := fun k W => farLine42 k.a k.b k.c W
  clear hR
  go_enter Try.func52, Try.ntmps52
  go_wp2
  go_loopg [8] L.length (fun gk s8 wx => ∃ i : Nat, i ≤ L.length ∧ gk = L.length - i ∧ s8 = .int .i64 (i : Int) ∧ Below w.heap.size w wx ∧ ∀ k, k < i → Ln.far (gl L k) = false)
  case atStart => exact ⟨0, by omega, rfl, rfl, bl_refl _, fun k hk => by omega⟩
  case round =>
    obtain ⟨i, hi, rfl, rfl, hB, hno⟩ := hrel
    have HB : Hid (Below w.heap.size w wr ∧ ∀ k, k < i → Ln.far (gl L k) = false) := ⟨hB, hno⟩
    clear hB hno
    by_cases h1 : i < L.length
    · have i1 : (i : Int) < (L.length : Int) := by omega
      have i0 : (0 : Int) ≤ (i : Int) := by omega
      obtain ⟨g, rfl, c0, c1, c2⟩ := HR.out i h1
      replace c0 := cl_kept HB.out.1 c0
      replace c1 := cl_kept HB.out.1 c1
      replace c2 := cl_kept HB.out.1 c2
      have zg : g < wr.heap.size := World.block_lt_of_cell? _ _ c0
      have C1 := CF.out (gl L i)
      obtain ⟨kb, hkb⟩ : ∃ b, b = Ln.far (gl L i) := ⟨_, rfl⟩
      rw [← hkb] at C1
      have HK : Hid (kb = Ln.far (gl L i)) := hkb
      clear hkb
      revert C1 c0 c1 c2
      generalize (gl L i).a = xa
      generalize (gl L i).b = xb
      generalize (gl L i).c = xc
      intro c0 c1 c2 C1
      unfold st at C1
      have CH : Hid (∀ (W : World), Calls Try.prog 42 #[.agg #[.int .i64 xa, .int .i64 xb, .int .i64 xc]] W fun e w' => e = .returned (.bool kb) ∧ Below W.heap.size W w') := C1
      clear C1
      cases kb
      · have HN : Hid (∀ k, k < i + 1 → Ln.far (gl L k) = false) := fun k hk => by
          by_cases hki : k < i
          · exact HB.out.2 k hki
          · have : k = i := by omega
            rw [this]
            exact HK.out.symm
        go_wp2_with (go_at_call 42; refine (CH.out _).mono ?_; rintro e w1 ⟨rfl, hb⟩)
        go_roundg (L.length - (i + 1))
        case measure => omega
        case rel => exact ⟨i + 1, by omega, rfl, by go_num, bl_via HB.out.1 hb, HN.out⟩
      · go_wp2_with (go_at_call 42; refine (CH.out _).mono ?_; rintro e w1 ⟨rfl, hb⟩)
        go_ret
        refine ⟨(i : Int), rfl, ?_, bl_via HB.out.1 hb⟩
        unfold Ix42
        rw [any_gl h1 HK.out.symm]
        simp
    · have i1 : ¬ (i : Int) < (L.length : Int) := by omega
      obtain rfl : i = L.length := by omega
      go_wp2
      go_ret
      refine ⟨-1, rfl, ?_, HB.out.1⟩
      unfold Ix42
      rw [any_ngl HB.out.2]
      simp
theorem contains41_42 (v : Value) (L : List Ln) (w : World) (hv : Sn w v L) (hl : L.length ≤ 17592186044416) :
    Calls Try.prog 41 #[v, .func (.func 42) #[] #[]] w fun e w' => e = .returned (.bool (L.any Ln.far)) ∧ Below w.heap.size w w' := by
  have CI : Hid (Calls Try.prog 52 #[v, .func (.func 42) #[] #[]] w fun e w' => ∃ r : Int, e = .returned (.int .i64 r) ∧ Ix42 L r ∧ Below w.heap.size w w') := index52_42 v L w hv hl
  obtain ⟨a, c, rfl, hR⟩ := hv
  clear hR
  go_enter Try.func41, Try.ntmps41
  go_wp2_with (go_at_call 52; refine CI.out.mono ?_; rintro e w1 ⟨r, rfl, hr, hb⟩)
  go_ret
  exact ⟨ret_bool hr, hb⟩

def Ix30 (L : List Ln) (r : Int) : Prop := decide (0 ≤ r) = L.any Ln.wl
set_option maxRecDepth 100000 in
set_option maxHeartbeats 800000 in
theorem index52_30 (v : Value) (L : List Ln) (w : World) (hv : Sn w v L) (hl : L.length ≤ 17592186044416) :
    Calls Try.prog 52 #[v, .func (.func 30) #[] #[]] w fun e w' => ∃ r : Int, e = .returned (.int .i64 r) ∧ Ix30 L r ∧ Below w.heap.size w w' := by
  obtain ⟨a, c, rfl, hR⟩ := hv
  have HR : Hid (∀ i, i < L.length → ∃ g, a = some ⟨g, 0, none⟩ ∧ w.cell? ⟨g, i * 3, none⟩ = some (.int .i64 (gl L i).a) ∧ w.cell? ⟨g, i * 3 + 1, none⟩ = some (.int .i64 (gl L i).b) ∧ w.cell? ⟨g, i * 3 + 2, none⟩ = some (.int .i64 (gl L i).c)) := hR
  have CF : Hid (∀ (k : Ln) (W : World), Calls Try.prog 30 #[st k.a k.b k.c] W fun e w' => e = .returned (.bool (Ln.wl k)) ∧ Below W.heap.size W w') := fun k W => wayless30 k.a k.b k.c W
  clear hR
  go_enter Try.func52, Try.ntmps52
  go_wp2
  go_loopg [8] L.length (fun gk s8 wx => ∃ i : Nat, i ≤ L.length ∧ gk = L.length - i ∧ s8 = .int .i64 (i : Int) ∧ Below w.heap.size w wx ∧ ∀ k, k < i → Ln.wl (gl L k) = false)
  case atStart => exact ⟨0, by omega, rfl, rfl, bl_refl _, fun k hk => by omega⟩
  case round =>
    obtain ⟨i, hi, rfl, rfl, hB, hno⟩ := hrel
    have HB : Hid (Below w.heap.size w wr ∧ ∀ k, k < i → Ln.wl (gl L k) = false) := ⟨hB, hno⟩
    clear hB hno
    by_cases h1 : i < L.length
    · have i1 : (i : Int) < (L.length : Int) := by omega
      have i0 : (0 : Int) ≤ (i : Int) := by omega
      obtain ⟨g, rfl, c0, c1, c2⟩ := HR.out i h1
      replace c0 := cl_kept HB.out.1 c0
      replace c1 := cl_kept HB.out.1 c1
      replace c2 := cl_kept HB.out.1 c2
      have zg : g < wr.heap.size := World.block_lt_of_cell? _ _ c0
      have C1 := CF.out (gl L i)
      obtain ⟨kb, hkb⟩ : ∃ b, b = Ln.wl (gl L i) := ⟨_, rfl⟩
      rw [← hkb] at C1
      have HK : Hid (kb = Ln.wl (gl L i)) := hkb
      clear hkb
      revert C1 c0 c1 c2
      generalize (gl L i).a = xa
      generalize (gl L i).b = xb
      generalize (gl L i).c = xc
      intro c0 c1 c2 C1
      unfold st at C1
      have CH : Hid (∀ (W : World), Calls Try.prog 30 #[.agg #[.int .i64 xa, .int .i64 xb, .int .i64 xc]] W fun e w' => e = .returned (.bool kb) ∧ Below W.heap.size W w') := C1
      clear C1
      cases kb
      · have HN : Hid (∀ k, k < i + 1 → Ln.wl (gl L k) = false) := fun k hk => by
          by_cases hki : k < i
          · exact HB.out.2 k hki
          · have : k = i := by omega
            rw [this]
            exact HK.out.symm
        go_wp2_with (go_at_call 30; refine (CH.out _).mono ?_; rintro e w1 ⟨rfl, hb⟩)
        go_roundg (L.length - (i + 1))
        case measure => omega
        case rel => exact ⟨i + 1, by omega, rfl, by go_num, bl_via HB.out.1 hb, HN.out⟩
      · go_wp2_with (go_at_call 30; refine (CH.out _).mono ?_; rintro e w1 ⟨rfl, hb⟩)
        go_ret
        refine ⟨(i : Int), rfl, ?_, bl_via HB.out.1 hb⟩
        unfold Ix30
        rw [any_gl h1 HK.out.symm]
        simp
    · have i1 : ¬ (i : Int) < (L.length : Int) := by omega
      obtain rfl : i = L.length := by omega
      go_wp2
      go_ret
      refine ⟨-1, rfl, ?_, HB.out.1⟩
      unfold Ix30
      rw [any_ngl HB.out.2]
      simp
theorem contains41_30 (v : Value) (L : List Ln) (w : World) (hv : Sn w v L) (hl : L.length ≤ 17592186044416) :
    Calls Try.prog 41 #[v, .func (.func 30) #[] #[]] w fun e w' => e = .returned (.bool (L.any Ln.wl)) ∧ Below w.heap.size w w' := by
  have CI : Hid (Calls Try.prog 52 #[v, .func (.func 30) #[] #[]] w fun e w' => ∃ r : Int, e = .returned (.int .i64 r) ∧ Ix30 L r ∧ Below w.heap.size w w') := index52_30 v L w hv hl
  obtain ⟨a, c, rfl, hR⟩ := hv
  clear hR
  go_enter Try.func41, Try.ntmps41
  go_wp2_with (go_at_call 52; refine CI.out.mono ?_; rintro e w1 ⟨r, rfl, hr, hb⟩)
  go_ret
  exact ⟨ret_bool hr, hb⟩

/-- What all calls refuse: of these straights, and these numbers. -/
def wrg (L : List Ln) (l : List Int) : Int := if l.any far = true then 3 else if L.any Ln.far = true then 3 else if L.any Ln.wl = true then 1 else 0
set_option maxRecDepth 100000 in
set_option maxHeartbeats 1600000 in
theorem wrong26 (v u : Value) (L : List Ln) (l : List Int) (w : World) (hv : Sn w v L) (hu : Sg w u l) (hL : L.length ≤ 17592186044416) (hl : l.length ≤ 17592186044416) :
    Calls Try.prog 26 #[v, u] w fun e w' => e = .returned (.int .i64 (wrg L l)) ∧ Below w.heap.size w w' := by
  have C1 : Hid (Calls Try.prog 40 #[u] w fun e w' => e = .returned (.bool (l.any far)) ∧ Below w.heap.size w w') := tooFar40 u l w hu hl
  have C2 : Hid (∀ W, Below w.heap.size w W → Calls Try.prog 41 #[v, .func (.func 42) #[] #[]] W fun e w' => e = .returned (.bool (L.any Ln.far)) ∧ Below W.heap.size W w') := fun W hW => contains41_42 v L W (hv.kept hW) hL
  have C3 : Hid (∀ W, Below w.heap.size w W → Calls Try.prog 41 #[v, .func (.func 30) #[] #[]] W fun e w' => e = .returned (.bool (L.any Ln.wl)) ∧ Below W.heap.size W w') := fun W hW => contains41_30 v L W (hv.kept hW) hL
  obtain ⟨a, c, rfl, hR⟩ := hv
  obtain ⟨b, d, rfl, hS⟩ := hu
  clear hR hS
  unfold wrg
  obtain ⟨k1, h1⟩ : ∃ x, x = l.any far := ⟨_, rfl⟩
  obtain ⟨k2, h2⟩ : ∃ x, x = L.any Ln.far := ⟨_, rfl⟩
  obtain ⟨k3, h3⟩ : ∃ x, x = L.any Ln.wl := ⟨_, rfl⟩
  rw [← h1] at C1 ⊢
  rw [← h2] at C2 ⊢
  rw [← h3] at C3 ⊢
  clear h1 h2 h3
  cases k1
  · cases k2
    · cases k3
      · go_enter Try.func26, Try.ntmps26
        go_wp2_with (go_at_call 40; refine C1.out.mono ?_; rintro e w1 ⟨rfl, hb⟩)
        go_wp2_with (go_at_call 41; refine (C2.out _ hb).mono ?_; rintro e w2 ⟨rfl, hb2⟩)
        go_wp2_with (go_at_call 41; refine (C3.out _ (bl_via hb hb2)).mono ?_; rintro e w3 ⟨rfl, hb3⟩)
        go_ret
        exact ⟨rfl, bl_via (bl_via hb hb2) hb3⟩
      · go_enter Try.func26, Try.ntmps26
        go_wp2_with (go_at_call 40; refine C1.out.mono ?_; rintro e w1 ⟨rfl, hb⟩)
        go_wp2_with (go_at_call 41; refine (C2.out _ hb).mono ?_; rintro e w2 ⟨rfl, hb2⟩)
        go_wp2_with (go_at_call 41; refine (C3.out _ (bl_via hb hb2)).mono ?_; rintro e w3 ⟨rfl, hb3⟩)
        go_ret
        exact ⟨rfl, bl_via (bl_via hb hb2) hb3⟩
    · go_enter Try.func26, Try.ntmps26
      go_wp2_with (go_at_call 40; refine C1.out.mono ?_; rintro e w1 ⟨rfl, hb⟩)
      go_wp2_with (go_at_call 41; refine (C2.out _ hb).mono ?_; rintro e w2 ⟨rfl, hb2⟩)
      go_ret
      exact ⟨rfl, bl_via hb hb2⟩
  · go_enter Try.func26, Try.ntmps26
    go_wp2_with (go_at_call 40; refine C1.out.mono ?_; rintro e w1 ⟨rfl, hb⟩)
    go_ret
    exact ⟨rfl, hb⟩
end Go.Proofs.Ytohnppjbmpaomaa
