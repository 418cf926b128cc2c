/- A part of the proof of cutPunches_holds. -/
import Derived.Test.YtmjhfdohcghhoaaGreatDoorQlbb
import Derived.Test.YtmjhfdohcghhoaaGreatDoorQlaq
import Derived.Test.YtmjhfdohcghhoaaGreatDoorQlad
import Derived.Test.YtmjhfdohcghhoaaGreatDoorQlac
import Derived.Test.YtmjhfdohcghhoaaGreatDoorQlap
namespace Go.Proofs.YtmjhfdohcghhoaaGreatDoor
open Go.RowKit

def kdT (vx vy : Int) : Int := if vx = 1 then 1 else if vx = -1 then 3 else if vy = -1 then 0 else 2
/-- The triangle to which t comes. -/
def mvt (m : M6) (t : Int × Int × Int) : Int × Int × Int :=
  ((m.1 * (2 * t.1 + 1) + m.2.1 * (2 * t.2.1 + 1) + m.2.2.2.2.1 - 1) / 2, (m.2.2.1 * (2 * t.1 + 1) + m.2.2.2.1 * (2 * t.2.1 + 1) + m.2.2.2.2.2 - 1) / 2,
    kdT (m.1 * outX t.2.2 + m.2.1 * outY t.2.2) (m.2.2.1 * outX t.2.2 + m.2.2.2.1 * outY t.2.2))
theorem map_even {a b c d e f : Int} (h : mapB a b c d e f = true) : e % 2 = 0 ∧ f % 2 = 0 := by
  unfold mapB at h
  simp only [Bool.and_eq_true, evenB, decide_eq_true_eq] at h
  omega
theorem k_four {k : Int} (h : 0 ≤ k ∧ k ≤ 3) : k = 0 ∨ k = 1 ∨ k = 2 ∨ k = 3 := by omega
end Go.Proofs.YtmjhfdohcghhoaaGreatDoor
namespace Go.Proofs.YtmjhfdohcghhoaaGreatDoor
open Go.RowKit Go.ChangeMaps

theorem nodup_atH {α : Type} {l : List α} (h : l.Nodup) {i j : Nat} (hi : i < l.length) (hj : j < l.length) (e : l[i] = l[j]) : i = j := by
  have hp := List.pairwise_iff_getElem.1 h
  rcases Nat.lt_trichotomy i j with q | q | q
  · exact absurd e (hp i j hi hj q)
  · exact q
  · exact absurd e.symm (hp j i hj hi q)
theorem inf98H : (Tryz.prog.info? 87).map (fun i => (i.zero, i.size, i.bytes)) = some (some (.agg #[.int .i64 0, .int .i64 0, .int .i64 0, .slice none 0 0]), 4, 48) := by kernel_rfl
end Go.Proofs.YtmjhfdohcghhoaaGreatDoor
namespace Go.Proofs.YtmjhfdohcghhoaaGreatDoor
open Go.RowKit
attribute [local go_sem ↓] Go.wp_at_zero Go.wp_at_succ

def cmpT (a b c p q r : Int) : Int := or2 (cmp3 b q) (or2 (cmp3 a p) (cmp3 c r))
set_option maxHeartbeats 800000 in
theorem or3_any (m n l : Int) (g cap : Nat) (w : World) (h0 : w.cell? ⟨g, 0, none⟩ = some (.int .i64 m)) (h1 : w.cell? ⟨g, 1, none⟩ = some (.int .i64 n)) (h2 : w.cell? ⟨g, 2, none⟩ = some (.int .i64 l)) :
    Calls Tryz.prog 109 #[.slice (some ⟨g, 0, none⟩) 3 cap] w fun e w' => e = .returned (.int .i64 (or2 m (or2 n l))) ∧ w' = w := by
  go_enter Tryz.func109, Tryz.ntmps109
  go_wp2
  go_loopg [8] 3 (fun k s8 wx => ∃ i : Int, 0 ≤ i ∧ i ≤ 3 ∧ (k : Int) = 3 - i ∧ s8 = .int .i64 i ∧ (1 ≤ i → m = 0) ∧ (2 ≤ i → n = 0) ∧ (3 ≤ i → l = 0) ∧ wx = w)
  case atStart => exact ⟨0, by omega, by omega, by omega, rfl, by omega, by omega, by omega, rfl⟩
  case round =>
    obtain ⟨i, i0, i2, hg, rfl, hm, hn, hl, rfl⟩ := hrel
    have hi : i = 0 ∨ i = 1 ∨ i = 2 ∨ i = 3 := by omega
    rcases hi with rfl | rfl | rfl | rfl
    · by_cases e : m = 0
      · have HE : Hid (m = 0) := e
        go_wp2
        go_roundg 2
        case measure => omega
        case rel => exact ⟨1, by omega, by omega, by omega, by go_num, fun _ => HE.out, by omega, by omega, rfl⟩
      · have HE : Hid (or2 m (or2 n l) = m) := by show or2 m (or2 n l) = m; simp [or2, e]
        have e' : (m == 0) = false := by simpa using e
        go_wp2
        go_ret
        exact ⟨ret_int HE.out.symm, rfl⟩
    · have HM : Hid (m = 0) := hm (by omega)
      by_cases e : n = 0
      · have HE : Hid (n = 0) := e
        go_wp2
        go_roundg 1
        case measure => omega
        case rel => exact ⟨2, by omega, by omega, by omega, by go_num, fun _ => HM.out, fun _ => HE.out, by omega, rfl⟩
      · have HE : Hid (or2 m (or2 n l) = n) := by show or2 m (or2 n l) = n; simp [or2, HM.out, e]
        have e' : (n == 0) = false := by simpa using e
        go_wp2
        go_ret
        exact ⟨ret_int HE.out.symm, rfl⟩
    · have HM : Hid (m = 0) := hm (by omega)
      have HN : Hid (n = 0) := hn (by omega)
      by_cases e : l = 0
      · have HE : Hid (l = 0) := e
        go_wp2
        go_roundg 0
        case measure => omega
        case rel => exact ⟨3, by omega, by omega, by omega, by go_num, fun _ => HM.out, fun _ => HN.out, fun _ => HE.out, rfl⟩
      · have HE : Hid (or2 m (or2 n l) = l) := by show or2 m (or2 n l) = l; simp [or2, HM.out, HN.out]
        have e' : (l == 0) = false := by simpa using e
        go_wp2
        go_ret
        exact ⟨ret_int HE.out.symm, rfl⟩
    · have HE : Hid (or2 m (or2 n l) = 0) := by show or2 m (or2 n l) = 0; simp [or2, hm (by omega), hn (by omega), hl (by omega)]
      go_wp2
      go_ret
      exact ⟨ret_int HE.out.symm, rfl⟩
set_option maxRecDepth 100000 in
set_option maxHeartbeats 6400000 in
theorem compareTris_any (a b c p q r : Int) (w : World) :
    Calls Tryz.prog 76 #[.agg #[.int .i64 a, .int .i64 b, .int .i64 c], .agg #[.int .i64 p, .int .i64 q, .int .i64 r]] w fun e w' => e = .returned (.int .i64 (cmpT a b c p q r)) ∧ Below w.heap.size w w' := by
  go_enter Tryz.func76, Tryz.ntmps76
  go_wp2
  go_region_held3 (fun w' => w'.cell? ⟨w.heap.size, 0, none⟩ = some (.int .i64 a) ∧ w'.cell? ⟨w.heap.size, 1, none⟩ = some (.int .i64 b) ∧ w'.cell? ⟨w.heap.size, 2, none⟩ = some (.int .i64 c) ∧ w'.cell? ⟨w.heap.size + 1, 0, none⟩ = some (.int .i64 p) ∧ w'.cell? ⟨w.heap.size + 1, 1, none⟩ = some (.int .i64 q) ∧ w'.cell? ⟨w.heap.size + 1, 2, none⟩ = some (.int .i64 r))
    ((refine ⟨?_, ?_, ?_, ?_, ?_, ?_⟩ <;> (repeat' (first | (with_reducible assumption) | (dsimp only; omega) | (simp [go_sem]; done) | (with_reducible refine al_old ?_) | (with_reducible refine dr_old ?_)))))
    (first | (go_at_call 110; refine (compare_any _ _ _).mono ?_; rintro e w2 ⟨rfl, rfl⟩) | (go_at_call 109; refine (or3_any (cmp3 b q) (cmp3 a p) (cmp3 c r) _ _ _ (by first | (simp [go_sem]; done) | (simp [go_sem, World.cell?_alloc_past]; done)) (by first | (simp [go_sem]; done) | (simp [go_sem, World.cell?_alloc_past]; done)) (by first | (simp [go_sem]; done) | (simp [go_sem, World.cell?_alloc_past]; done))).mono ?_; rintro e w3 ⟨rfl, rfl⟩))
  all_goals
    go_wp2
    go_ret
    refine ⟨rfl, ?_⟩
    with_reducible repeat' (first | exact bl_refl _ | refine bl_alloc ?_ | refine bl_drew ?_)

/-- All that lies in stacks. -/
def allS (S : List ((Int × Int × Int) × List (Int × Int × Int))) : List (Int × Int × Int) := S.flatMap fun s => s.2
/-- Stacks as they must be: rising by places, none empty, each triangle where it comes to, none twice in one, and as many as there are. -/
structure StOk (L : List (Int × Int × Int)) (P : Nat → Int × Int × Int) (S : List ((Int × Int × Int) × List (Int × Int × Int))) : Prop where
  ne : ∀ s ∈ S, s.2 ≠ []
  up : ∀ n (h : n + 1 < S.length), ltT S[n].1 S[n + 1].1
  pl : ∀ s ∈ S, ∀ t ∈ s.2, ∃ i, ∃ h : i < L.length, L[i] = t ∧ P i = s.1
  nd : ∀ s ∈ S, s.2.Nodup
  al : (allS S).length = L.length
theorem up_pair {S : List ((Int × Int × Int) × List (Int × Int × Int))} (h : ∀ n (h : n + 1 < S.length), ltT S[n].1 S[n + 1].1) : S.Pairwise fun a b => ltT a.1 b.1 := by
  rw [List.pairwise_iff_getElem]
  intro i j hi hj hij
  obtain ⟨d, rfl⟩ : ∃ d, j = i + 1 + d := ⟨j - (i + 1), by omega⟩
  clear hij
  induction d with
  | zero => exact h i hj
  | succ d ih => exact ltT_trans _ _ _ (ih (by omega)) (h (i + 1 + d) hj)
theorem sub_lenT : ∀ (F L : List (Int × Int × Int)), F.Nodup → (∀ x ∈ F, x ∈ L) → F.length ≤ L.length
  | [], _, _, _ => by simp
  | a :: F, L, hn, hs => by
    rw [List.nodup_cons] at hn
    have h1 := sub_lenT F (L.erase a) hn.2 fun x hx => (List.mem_erase_of_ne (fun e : x = a => hn.1 (e ▸ hx))).2 (hs x (List.mem_cons_of_mem _ hx))
    have ha := hs a (by simp)
    have h2 := List.length_erase_of_mem ha
    have h3 := List.length_pos_of_mem ha
    simp only [List.length_cons]
    omega
theorem StOk.nodup {L : List (Int × Int × Int)} {P : Nat → Int × Int × Int} {S : List ((Int × Int × Int) × List (Int × Int × Int))} (hL : L.Nodup) (h : StOk L P S) : (allS S).Nodup := by
  unfold allS List.Nodup
  rw [List.pairwise_flatMap]
  refine ⟨h.nd, ?_⟩
  have hp := up_pair h.up
  rw [List.pairwise_iff_getElem] at hp ⊢
  intro i j hi hj hij x hx y hy e
  subst e
  obtain ⟨a, ha, e1, e2⟩ := h.pl _ (List.getElem_mem hi) x hx
  obtain ⟨b, hb, e3, e4⟩ := h.pl _ (List.getElem_mem hj) x hy
  have := nodup_atH hL ha hb (e1.trans e3.symm)
  subst this
  have h3 := hp i j hi hj hij
  rw [← e2, ← e4] at h3
  exact ltT_irr _ h3
theorem StOk.mem {L : List (Int × Int × Int)} {P : Nat → Int × Int × Int} {S : List ((Int × Int × Int) × List (Int × Int × Int))} (h : StOk L P S) : ∀ t ∈ allS S, t ∈ L := fun t ht => by
  unfold allS at ht
  rw [List.mem_flatMap] at ht
  obtain ⟨s, hs, ht⟩ := ht
  obtain ⟨i, hi, e, _⟩ := h.pl s hs t ht
  exact e ▸ List.getElem_mem hi
/-- Then each one lies in some stack. -/
theorem StOk.cov {L : List (Int × Int × Int)} {P : Nat → Int × Int × Int} {S : List ((Int × Int × Int) × List (Int × Int × Int))} (hL : L.Nodup) (h : StOk L P S) : ∀ t ∈ L, t ∈ allS S := fun t ht => by
  refine Classical.byContradiction fun hno => ?_
  have := sub_lenT (t :: allS S) L (List.nodup_cons.2 ⟨hno, h.nodup hL⟩) fun x hx => by
    rcases List.mem_cons.1 hx with e | hx
    · exact e ▸ ht
    · exact h.mem x hx
  simp only [List.length_cons] at this
  have := h.al
  omega
theorem allS_take {S : List ((Int × Int × Int) × List (Int × Int × Int))} {n : Nat} (h : n < S.length) : allS (S.take (n + 1)) = allS (S.take n) ++ S[n].2 := by
  unfold allS
  rw [List.take_succ_eq_append_getElem h, List.flatMap_append]
  simp
theorem allS_cut {S : List ((Int × Int × Int) × List (Int × Int × Int))} {n : Nat} (h : n < S.length) : ∃ r, allS S = allS (S.take n) ++ S[n].2 ++ r := by
  refine ⟨allS (S.drop (n + 1)), ?_⟩
  rw [← allS_take h]
  unfold allS
  rw [← List.flatMap_append, List.take_append_drop]
/-- What comes a second time. -/
theorem twice_not {S : List ((Int × Int × Int) × List (Int × Int × Int))} {n k : Nat} (h : n < S.length) (hk : k < S[n].2.length) (hm : S[n].2[k] ∈ allS (S.take n) ++ S[n].2.take k) : ¬ (allS S).Nodup := fun hn => by
  obtain ⟨r, e⟩ := allS_cut h
  rw [e] at hn
  have e2 : S[n].2 = S[n].2.take k ++ [S[n].2[k]] ++ S[n].2.drop (k + 1) := by
    rw [List.append_assoc, List.singleton_append, List.getElem_cons_drop, List.take_append_drop]
  rw [e2, ← List.append_assoc, ← List.append_assoc] at hn
  have h1 := (List.nodup_append.1 (List.nodup_append.1 (List.nodup_append.1 hn).1).1)
  exact h1.2.2 _ hm _ (by simp) rfl
/-- The triangles of a sheet rise. -/
theorem tk_up (zs : List Int) (W x y : Nat) (n : Nat) : (tk zs W x y n).Pairwise ltT := by
  unfold tk
  rw [List.pairwise_map]
  refine List.Pairwise.filter _ (List.pairwise_lt_range.imp ?_)
  intro a b h
  unfold ltT
  dsimp only
  omega
theorem ty_up (zs : List Int) (W n : Nat) : (ty zs W n).Pairwise ltT := by
  unfold ty tx
  rw [List.pairwise_flatMap]
  refine ⟨fun y _ => ?_, List.pairwise_lt_range.imp ?_⟩
  · rw [List.pairwise_flatMap]
    refine ⟨fun x _ => tk_up _ _ _ _ _, List.pairwise_lt_range.imp ?_⟩
    intro a b h t ht u hu
    unfold tk at ht hu
    rw [List.mem_map] at ht hu
    obtain ⟨i, _, rfl⟩ := ht
    obtain ⟨j, _, rfl⟩ := hu
    unfold ltT
    dsimp only
    omega
  · intro a b h t ht u hu
    rw [List.mem_flatMap] at ht hu
    obtain ⟨p, _, ht⟩ := ht
    obtain ⟨q, _, hu⟩ := hu
    unfold tk at ht hu
    rw [List.mem_map] at ht hu
    obtain ⟨i, _, rfl⟩ := ht
    obtain ⟨j, _, rfl⟩ := hu
    unfold ltT
    dsimp only
    omega

/-- The first so many stacks are as they must be. -/
structure Pre (L : List (Int × Int × Int)) (P : Nat → Int × Int × Int) (S : List ((Int × Int × Int) × List (Int × Int × Int))) (m : Nat) : Prop where
  ne : ∀ n (h : n < S.length), n < m → S[n].2 ≠ []
  up : ∀ n (h : n + 1 < S.length), n + 1 < m → ltT S[n].1 S[n + 1].1
  pl : ∀ n (h : n < S.length), n < m → ∀ t ∈ S[n].2, ∃ i, ∃ h : i < L.length, L[i] = t ∧ P i = S[n].1
  nd : (allS (S.take m)).Nodup
/-- And of the next one the first so many triangles. -/
structure Pri (L : List (Int × Int × Int)) (P : Nat → Int × Int × Int) (S : List ((Int × Int × Int) × List (Int × Int × Int))) (m k : Nat) (hm : m < S.length) : Prop where
  pre : Pre L P S m
  ne : S[m].2 ≠ []
  up : ∀ q (h : q + 1 = m), ltT (S[q]'(by omega)).1 S[m].1
  pl : ∀ j (h : j < S[m].2.length), j < k → ∃ i, ∃ h' : i < L.length, L[i] = S[m].2[j] ∧ P i = S[m].1
  nd : (allS (S.take m) ++ S[m].2.take k).Nodup
theorem pre_zero (L : List (Int × Int × Int)) (P : Nat → Int × Int × Int) (S : List ((Int × Int × Int) × List (Int × Int × Int))) : Pre L P S 0 :=
  ⟨fun n _ h => by omega, fun n _ h => by omega, fun n _ h => by omega, by simp [allS]⟩
theorem Pre.start {L : List (Int × Int × Int)} {P : Nat → Int × Int × Int} {S : List ((Int × Int × Int) × List (Int × Int × Int))} {m : Nat} (h : Pre L P S m) (hm : m < S.length) (hne : S[m].2 ≠ []) (hup : ∀ q (h : q + 1 = m), ltT (S[q]'(by omega)).1 S[m].1) : Pri L P S m 0 hm :=
  ⟨h, hne, hup, fun j _ h => by omega, by simpa using h.nd⟩
theorem Pri.step {L : List (Int × Int × Int)} {P : Nat → Int × Int × Int} {S : List ((Int × Int × Int) × List (Int × Int × Int))} {m k : Nat} {hm : m < S.length} (h : Pri L P S m k hm) (hk : k < S[m].2.length) (hl : ∃ i, ∃ h' : i < L.length, L[i] = S[m].2[k] ∧ P i = S[m].1) (hn : S[m].2[k] ∉ allS (S.take m) ++ S[m].2.take k) : Pri L P S m (k + 1) hm := by
  refine ⟨h.pre, h.ne, h.up, fun j hj hjk => ?_, ?_⟩
  · by_cases e : j = k
    · subst e
      exact hl
    · exact h.pl j hj (by omega)
  · rw [List.take_succ_eq_append_getElem hk, ← List.append_assoc]
    rw [List.nodup_append]
    refine ⟨h.nd, by simp, fun a ha b hb e => ?_⟩
    simp at hb
    subst hb
    exact hn (e ▸ ha)
theorem Pri.fin {L : List (Int × Int × Int)} {P : Nat → Int × Int × Int} {S : List ((Int × Int × Int) × List (Int × Int × Int))} {m k : Nat} {hm : m < S.length} (h : Pri L P S m k hm) (hk : k = S[m].2.length) : Pre L P S (m + 1) := by
  refine ⟨fun n hn hnm => ?_, fun n hn hnm => ?_, fun n hn hnm t ht => ?_, ?_⟩
  · by_cases e : n = m
    · subst e
      exact h.ne
    · exact h.pre.ne n hn (by omega)
  · by_cases e : n + 1 = m
    · subst e
      exact h.up n rfl
    · exact h.pre.up n hn (by omega)
  · by_cases e : n = m
    · subst e
      obtain ⟨j, hj, e⟩ := List.getElem_of_mem ht
      rw [← e]
      exact h.pl j hj (by omega)
    · exact h.pre.pl n hn (by omega) t ht
  · have := h.nd
    rw [hk, List.take_length] at this
    rw [allS_take hm]
    exact this
theorem Pre.ok {L : List (Int × Int × Int)} {P : Nat → Int × Int × Int} {S : List ((Int × Int × Int) × List (Int × Int × Int))} {m : Nat} (h : Pre L P S m) (hm : m = S.length) (hal : (allS S).length = L.length) : StOk L P S := by
  subst hm
  refine ⟨fun s hs => ?_, fun n hn => h.up n hn hn, fun s hs => ?_, fun s hs => ?_, hal⟩
  · obtain ⟨n, hn, e⟩ := List.getElem_of_mem hs
    rw [← e]
    exact h.ne n hn hn
  · obtain ⟨n, hn, e⟩ := List.getElem_of_mem hs
    rw [← e]
    exact h.pl n hn hn
  · have := h.nd
    rw [List.take_length] at this
    unfold allS List.Nodup at this
    rw [List.pairwise_flatMap] at this
    exact this.1 s hs
theorem Pre.all {L : List (Int × Int × Int)} {P : Nat → Int × Int × Int} {S : List ((Int × Int × Int) × List (Int × Int × Int))} {m : Nat} (hL : L.Nodup) (h : Pre L P S m) (hm : m = S.length) (hc : ∀ t ∈ L, t ∈ allS S) : StOk L P S := by
  refine h.ok hm ?_
  subst hm
  have hn := h.nd
  rw [List.take_length] at hn
  have h1 := sub_lenT (allS S) L hn fun t ht => by
    unfold allS at ht
    rw [List.mem_flatMap] at ht
    obtain ⟨s, hs, ht⟩ := ht
    obtain ⟨n, hn, e⟩ := List.getElem_of_mem hs
    obtain ⟨i, hi, e2, _⟩ := h.pl n hn hn t (e ▸ ht)
    exact e2 ▸ List.getElem_mem hi
  have h2 := sub_lenT L (allS S) hL hc
  omega
/-- What is none in its own stack is in no stack ahead. -/
theorem Pri.none {L : List (Int × Int × Int)} {P : Nat → Int × Int × Int} {S : List ((Int × Int × Int) × List (Int × Int × Int))} {m k : Nat} {hm : m < S.length} (hL : L.Nodup) (h : Pri L P S m k hm) {t : Int × Int × Int} (hl : ∃ i, ∃ h' : i < L.length, L[i] = t ∧ P i = S[m].1) (hn : t ∉ S[m].2.take k) : t ∉ allS (S.take m) ++ S[m].2.take k := fun ht => by
  rcases List.mem_append.1 ht with ht | ht
  · unfold allS at ht
    rw [List.mem_flatMap] at ht
    obtain ⟨s, hs, ht⟩ := ht
    obtain ⟨n, hn', e⟩ := List.getElem_of_mem hs
    rw [List.getElem_take] at e
    rw [List.length_take] at hn'
    have hnm : n < m := by omega
    have hnl : n < S.length := by omega
    obtain ⟨i, hi, e1, e2⟩ := h.pre.pl n hnl hnm t (e ▸ ht)
    obtain ⟨j, hj, e3, e4⟩ := hl
    have := nodup_atH hL hi hj (e1.trans e3.symm)
    subst this
    have hlt : ∀ d q, q + 1 + d = m → ∀ hq : q < S.length, ltT S[q].1 S[m].1 := fun d => by
      induction d with
      | zero => exact fun q e hq => h.up q e
      | succ d ih => exact fun q e hq => ltT_trans _ _ _ (h.pre.up q (by omega) (by omega)) (ih (q + 1) (by omega) (by omega))
    have := hlt (m - (n + 1)) n (by omega) hnl
    rw [← e2, ← e4] at this
    exact ltT_irr _ this
  · exact hn ht
/-- Where it goes wrong. -/
theorem not_ne {L : List (Int × Int × Int)} {P : Nat → Int × Int × Int} {S : List ((Int × Int × Int) × List (Int × Int × Int))} {m : Nat} (hm : m < S.length) (h : S[m].2.length = 0) : ¬ StOk L P S := fun k => k.ne _ (List.getElem_mem hm) (List.eq_nil_of_length_eq_zero h)
theorem not_nd {L : List (Int × Int × Int)} {P : Nat → Int × Int × Int} {S : List ((Int × Int × Int) × List (Int × Int × Int))} {m j : Nat} (hL : L.Nodup) (hm : m < S.length) (hj : j < S[m].2.length) (h : S[m].2[j] ∈ allS (S.take m) ++ S[m].2.take j) : ¬ StOk L P S := fun k => twice_not hm hj h (k.nodup hL)
theorem up_nodup {L : List (Int × Int × Int)} (h : L.Pairwise ltT) : L.Nodup := by
  unfold List.Nodup
  refine h.imp ?_
  intro a b hab e
  rw [e] at hab
  exact ltT_irr b hab
end Go.Proofs.YtmjhfdohcghhoaaGreatDoor
