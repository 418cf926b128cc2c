/- Which triangles are joined, across edges: the mathematics. -/
import Derived.Test.YtmjneoaciopioaaDoorQlau
namespace Go.Proofs.YtmjneoaciopioaaDoor
open Go.RowKit

/-- Has a triangle an edge; the edges of a triangle; what lies across one of them. -/
def hasT (t : Int × Int × Int) (e : Int × Int × Int × Int) : Bool := hasB t.1 t.2.1 t.2.2 e.1 e.2.1 e.2.2.1 e.2.2.2
def edg (t : Int × Int × Int) (i : Nat) : Int × Int × Int × Int :=
  if i = 0 then (ue0 t.1 t.2.1 t.2.2, ue1 t.1 t.2.1 t.2.2, ue2 t.1 t.2.1 t.2.2, ue3 t.1 t.2.1 t.2.2)
  else if i = 1 then (ue4 t.1 t.2.1 t.2.2, ue5 t.1 t.2.1 t.2.2, ue6 t.1 t.2.1 t.2.2, ue7 t.1 t.2.1 t.2.2)
  else (ue8 t.1 t.2.1 t.2.2, ue9 t.1 t.2.1 t.2.2, ue10 t.1 t.2.1 t.2.2, ue11 t.1 t.2.1 t.2.2)
def acr (t : Int × Int × Int) (e : Int × Int × Int × Int) : Int × Int × Int :=
  (acX t.1 t.2.1 t.2.2 e.1 e.2.1 e.2.2.1 e.2.2.2, acY t.1 t.2.1 t.2.2 e.1 e.2.1 e.2.2.1 e.2.2.2, acK t.1 t.2.1 t.2.2 e.1 e.2.1 e.2.2.1 e.2.2.2)
/-- A triangle whose kind may be. -/
def Kd (t : Int × Int × Int) : Prop := 0 ≤ t.2.2 ∧ t.2.2 ≤ 3

theorem edg_own (t : Int × Int × Int) (i : Nat) : hasT t (edg t i) = true := by
  unfold edg
  split
  · simp [hasT, hasB, e0, sameB]
  · split
    · simp [hasT, hasB, e1, sameB]
    · simp [hasT, hasB, e2, sameB]
theorem hasT_edg {t : Int × Int × Int} {e : Int × Int × Int × Int} (h : hasT t e = true) : ∃ i, i < 3 ∧ edg t i = e := by
  unfold hasT at h
  rw [hasB_or] at h
  obtain ⟨p, q, r, s⟩ := e
  rcases h with h | h | h
  · exact ⟨0, by omega, by simpa [edg, e0, sameB] using h⟩
  · exact ⟨1, by omega, by simpa [edg, e1, sameB] using h⟩
  · exact ⟨2, by omega, by simpa [edg, e2, sameB] using h⟩

/-- Two triangles with an edge in common. -/
def Adj (t u : Int × Int × Int) : Prop := u ≠ t ∧ ∃ e, hasT t e = true ∧ hasT u e = true
theorem Adj.symm {t u : Int × Int × Int} (h : Adj t u) : Adj u t := ⟨fun e => h.1 e.symm, h.2.imp fun _ he => ⟨he.2, he.1⟩⟩

theorem acr_is {t u : Int × Int × Int} {e : Int × Int × Int × Int} (ht : Kd t) (hu : Kd u) (h1 : hasT t e = true) (h2 : hasT u e = true) (hne : u ≠ t) : u = acr t e := by
  obtain ⟨x, y, k⟩ := t
  obtain ⟨X, Y, K⟩ := u
  obtain ⟨p, q, r, s⟩ := e
  have := across_is x y k p q r s (X - x) (Y - y) K ht.1 ht.2 hu.1 hu.2 h1 ⟨by rw [show x + (X - x) = X by omega, show y + (Y - y) = Y by omega]; exact h2, fun hh => hne (by obtain ⟨a, b, c⟩ := hh; simp; omega)⟩
  simp only [acr, Prod.mk.injEq]
  omega
theorem acr_adj {t : Int × Int × Int} {e : Int × Int × Int × Int} (ht : Kd t) (h1 : hasT t e = true) : hasT (acr t e) e = true ∧ acr t e ≠ t ∧ Kd (acr t e) := by
  obtain ⟨x, y, k⟩ := t
  obtain ⟨p, q, r, s⟩ := e
  obtain ⟨dx, dy, l, _, _, hl, ho⟩ := across_has x y k p q r s ht.1 ht.2 h1
  have h := across_is x y k p q r s dx dy l ht.1 ht.2 hl.1 hl.2 h1 ho
  have e : acr (x, y, k) (p, q, r, s) = (x + dx, y + dy, l) := by simp only [acr, Prod.mk.injEq]; omega
  rw [e]
  exact ⟨ho.1, fun hh => ho.2 (by simpa using hh), hl⟩
theorem adj_iff {t u : Int × Int × Int} (ht : Kd t) (hu : Kd u) : Adj t u ↔ ∃ i, i < 3 ∧ u = acr t (edg t i) := by
  constructor
  · rintro ⟨hne, e, h1, h2⟩
    obtain ⟨i, hi, rfl⟩ := hasT_edg h1
    exact ⟨i, hi, acr_is ht hu h1 h2 hne⟩
  · rintro ⟨i, _, rfl⟩
    have h := acr_adj ht (edg_own t i)
    exact ⟨h.2.1, _, edg_own t i, h.1⟩

/-- One comes from a triangle to another across edges, through triangles of a list. -/
def Reach (l : List (Int × Int × Int)) (t u : Int × Int × Int) : Prop := t ∈ l ∧ ∀ p : Int × Int × Int → Prop, p t → (∀ a b, p a → b ∈ l → Adj a b → p b) → p u
theorem Reach.here {l : List (Int × Int × Int)} {t : Int × Int × Int} (h : t ∈ l) : Reach l t t := ⟨h, fun _ k _ => k⟩
theorem Reach.step {l : List (Int × Int × Int)} {t u v : Int × Int × Int} (h : Reach l t u) (hv : v ∈ l) (ha : Adj u v) : Reach l t v := ⟨h.1, fun p k s => s _ _ (h.2 p k s) hv ha⟩
theorem Reach.ind {l : List (Int × Int × Int)} {t : Int × Int × Int} {motive : ∀ u, Reach l t u → Prop} (here : ∀ h : t ∈ l, motive t (Reach.here h))
    (step : ∀ {u v} (h : Reach l t u) (hv : v ∈ l) (ha : Adj u v), motive u h → motive v (Reach.step h hv ha)) {u : Int × Int × Int} (h : Reach l t u) : motive u h := by
  obtain ⟨_, m⟩ := h.2 (fun x => ∃ k : Reach l t x, motive x k) ⟨Reach.here h.1, here h.1⟩ (fun _ _ ⟨_, m⟩ hb hab => ⟨_, step _ hb hab m⟩)
  exact m
theorem Reach.mem {l : List (Int × Int × Int)} {t u : Int × Int × Int} (h : Reach l t u) : t ∈ l ∧ u ∈ l := by
  induction h using Reach.ind with
  | here h => exact ⟨h, h⟩
  | step _ hv _ ih => exact ⟨ih.1, hv⟩
theorem Reach.trans {l : List (Int × Int × Int)} {t u v : Int × Int × Int} (h : Reach l t u) (k : Reach l u v) : Reach l t v := by
  induction k using Reach.ind with
  | here _ => exact h
  | step _ hv ha ih => exact ih.step hv ha
theorem Reach.symm {l : List (Int × Int × Int)} {t u : Int × Int × Int} (h : Reach l t u) : Reach l u t := by
  induction h using Reach.ind with
  | here h => exact .here h
  | step h hv ha ih => exact ((Reach.here hv).step h.mem.2 ha.symm).trans ih

theorem nodup_inj {l : List (Int × Int × Int)} (hn : l.Nodup) {i j : Nat} (hi : i < l.length) (hj : j < l.length) (e : l[i] = l[j]) : i = j := by
  have hp := List.pairwise_iff_getElem.1 hn
  rcases Nat.lt_trichotomy i j with h | h | h
  · exact absurd e (hp i j hi hj h)
  · exact h
  · exact absurd e.symm (hp j i hj hi h)

/-- All triangles of a list are joined to its first. -/
def Joined (l : List (Int × Int × Int)) : Prop := ∃ h : 0 < l.length, ∀ i (hi : i < l.length), Reach l l[0] l[i]

/-- The least that each is joined to, found: all are 0 just where all are joined. -/
theorem who_joined {l : List (Int × Int × Int)} (hn : l.Nodup) (h0 : 0 < l.length) (who : Nat → Nat)
    (h1 : ∀ i (hi : i < l.length), who i ≤ i ∧ ∃ hw : who i < l.length, Reach l l[i] l[who i])
    (h2 : ∀ i j (hi : i < l.length) (hj : j < l.length), Adj l[i] l[j] → who i ≤ who j) :
    (∀ i, i < l.length → who i = 0) ↔ Joined l := by
  constructor
  · intro h
    refine ⟨h0, fun i hi => ?_⟩
    obtain ⟨_, _, hr⟩ := h1 i hi
    simp only [h i hi] at hr
    exact hr.symm
  · rintro ⟨_, h⟩ i hi
    have key : ∀ t, Reach l l[0] t → ∀ j (hj : j < l.length), l[j] = t → who j = 0 := by
      intro t ht
      generalize hz : l[0] = z at ht
      induction ht using Reach.ind with
      | here hm =>
        intro j hj e
        have : j = 0 := nodup_inj hn hj h0 (e.trans hz.symm)
        have := (h1 j hj).1
        omega
      | @step u v hr hv ha ih =>
        intro j hj e
        obtain ⟨i', hi', e'⟩ := List.getElem_of_mem hr.mem.2
        have w0 := ih i' hi' e'
        have := h2 j i' hj hi' (by rw [e, e']; exact ha.symm)
        omega
    exact key _ (h i hi) i hi rfl

/-- What is reached from the first, closed under what is across: all just where all are joined. -/
theorem reached_joined {l : List (Int × Int × Int)} (h0 : 0 < l.length) (R : Nat → Prop) (hz : R 0)
    (h1 : ∀ i (hi : i < l.length), R i → Reach l l[0] l[i])
    (h2 : ∀ i j (hi : i < l.length) (hj : j < l.length), R i → Adj l[i] l[j] → R j) (hn : l.Nodup) :
    (∀ i, i < l.length → R i) ↔ Joined l := by
  constructor
  · exact fun h => ⟨h0, fun i hi => h1 i hi (h i hi)⟩
  · rintro ⟨_, h⟩ i hi
    have key : ∀ t, Reach l l[0] t → ∀ j (hj : j < l.length), l[j] = t → R j := by
      intro t ht
      generalize hz' : l[0] = z at ht
      induction ht using Reach.ind with
      | here hm =>
        intro j hj e
        have : j = 0 := nodup_inj hn hj h0 (e.trans hz'.symm)
        exact this ▸ hz
      | @step u v hr hv ha ih =>
        intro j hj e
        obtain ⟨i', hi', e'⟩ := List.getElem_of_mem hr.mem.2
        exact h2 i' j hi' hj (ih i' hi' e') (by rw [e, e']; exact ha)
    exact key _ (h i hi) i hi rfl

theorem tk_nodup (zs : List Int) (W x y : Nat) : ∀ n, (tk zs W x y n).Nodup
  | 0 => by simp [tk]
  | n + 1 => by
    cases h : bitAt zs W x y n
    · rw [tk_no h]; exact tk_nodup zs W x y n
    · rw [tk_yes h, List.nodup_append]
      refine ⟨tk_nodup zs W x y n, by simp, ?_⟩
      intro a ha b hb
      simp [tk] at ha hb
      obtain ⟨k, ⟨hk, _⟩, rfl⟩ := ha
      subst hb
      simp
      omega
theorem tx_nodup (zs : List Int) (W y : Nat) : ∀ n, (tx zs W y n).Nodup
  | 0 => by simp [tx]
  | n + 1 => by
    rw [tx_succ, List.nodup_append]
    refine ⟨tx_nodup zs W y n, tk_nodup _ _ _ _ _, ?_⟩
    intro a ha b hb
    simp only [tx, tk, List.mem_flatMap, List.mem_map, List.mem_filter, List.mem_range] at ha hb
    obtain ⟨x, hx, k, _, rfl⟩ := ha
    obtain ⟨k', _, rfl⟩ := hb
    simp
    omega
theorem ty_nodup (zs : List Int) (W : Nat) : ∀ n, (ty zs W n).Nodup
  | 0 => by simp [ty]
  | n + 1 => by
    rw [ty_succ, List.nodup_append]
    refine ⟨ty_nodup zs W n, tx_nodup _ _ _ _, ?_⟩
    intro a ha b hb
    simp only [ty, tx, tk, List.mem_flatMap, List.mem_map, List.mem_filter, List.mem_range] at ha hb
    obtain ⟨y, hy, x, hx, k, _, rfl⟩ := ha
    obtain ⟨x', _, k', _, rfl⟩ := hb
    simp
    omega

end Go.Proofs.YtmjneoaciopioaaDoor
