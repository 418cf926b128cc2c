/- A part of the proof of cutPunches_holds. -/
import Derived.Test.YtmjhfdohcghhoaaGreatDoorQlaq
import Derived.Test.YtmjhfdohcghhoaaGreatDoorQlbi
import Derived.Test.YtmjhfdohcghhoaaGreatDoorQlac
import Derived.Test.YtmjhfdohcghhoaaGreatDoorQlaj
import Derived.Test.YtmjhfdohcghhoaaGreatDoorQlap
import Derived.Deep.AppendLies
import Derived.Laws.OwnMore
import Derived.Test.YtmjhfdohcghhoaaGreatDoorQlag
import Derived.Test.YtmjhfdohcghhoaaGreatDoorQlaa
import Derived.Test.YtmjhfdohcghhoaaGreatDoorQlay
import Derived.Test.YtmjhfdohcghhoaaGreatDoorQlam
import Derived.Test.YtmjhfdohcghhoaaGreatDoorQlad
import Derived.Test.YtmjhfdohcghhoaaGreatDoorQlbj
import Derived.Test.YtmjhfdohcghhoaaGreatDoorQlaw
import Derived.Test.YtmjhfdohcghhoaaGreatDoorQlaz
import Derived.Maps.AppendAt
import Derived.Test.YtmjhfdohcghhoaaGreatDoorQlbd
import Derived.Test.YtmjhfdohcghhoaaGreatDoorQlbk
import Derived.Test.YtmjhfdohcghhoaaGreatDoorQlas
import Derived.Test.YtmjhfdohcghhoaaGreatDoorQlba
namespace Go.Proofs.YtmjhfdohcghhoaaGreatDoor
open Go.RowKit

def TRowG (w : World) (a : Option Addr) (l : List (Int × Int × Int)) : Prop :=
  ∀ i (h : i < l.length), ∃ g o, a = some ⟨g, o, none⟩ ∧ w.cell? ⟨g, o + i * 3, none⟩ = some (.int .i64 l[i].1) ∧ w.cell? ⟨g, o + i * 3 + 1, none⟩ = some (.int .i64 l[i].2.1) ∧ w.cell? ⟨g, o + i * 3 + 2, none⟩ = some (.int .i64 l[i].2.2)
theorem TRowG.kept {w wx : World} {a : Option Addr} {l : List (Int × Int × Int)} (h : TRowG w a l) (hb : Below w.heap.size w wx) : TRowG wx a l := fun i hi => by
  obtain ⟨g, o, e, h0, h1, h2⟩ := h i hi
  exact ⟨g, o, e, cl_kept hb h0, cl_kept hb h1, cl_kept hb h2⟩
theorem TRowG.take {w : World} {a : Option Addr} {l : List (Int × Int × Int)} (h : TRowG w a l) (k : Nat) : TRowG w a (l.take k) := fun i hi => by
  rw [List.length_take] at hi
  obtain ⟨g, o, e, h0, h1, h2⟩ := h i (by omega)
  simp only [List.getElem_take]
  exact ⟨g, o, e, h0, h1, h2⟩
def SRowG (w : World) (a : Option Addr) (S : List ((Int × Int × Int) × List (Int × Int × Int))) : Prop :=
  ∀ i (h : i < S.length), ∃ g o sa sc, a = some ⟨g, o, none⟩ ∧ w.cell? ⟨g, o + i * 4, none⟩ = some (.int .i64 S[i].1.1) ∧ w.cell? ⟨g, o + i * 4 + 1, none⟩ = some (.int .i64 S[i].1.2.1) ∧ w.cell? ⟨g, o + i * 4 + 2, none⟩ = some (.int .i64 S[i].1.2.2) ∧ w.cell? ⟨g, o + i * 4 + 3, none⟩ = some (.slice sa S[i].2.length sc) ∧ S[i].2.length ≤ sc ∧ TRowG w sa S[i].2
theorem SRowG.kept {w w' : World} {a : Option Addr} {S : List ((Int × Int × Int) × List (Int × Int × Int))} (h : SRowG w a S) (hb : Below w.heap.size w w') : SRowG w' a S := fun i hi => by
  obtain ⟨g, o, sa, sc, e, c0, c1, c2, c3, hc, ht⟩ := h i hi
  exact ⟨g, o, sa, sc, e, cl_kept hb c0, cl_kept hb c1, cl_kept hb c2, cl_kept hb c3, hc, ht.kept hb⟩
set_option maxHeartbeats 1600000 in
theorem placeG_any (a : Option Addr) (cap : Nat) (l : List (Int × Int × Int)) (x y k : Int) (w : World) (hT : TRowG w a l) (hlen : l.length ≤ 17592186044416) :
    Calls Tryz.prog 32 #[.slice a l.length cap, .agg #[.int .i64 x, .int .i64 y, .int .i64 k]] w fun e w' => e = .returned (.int .i64 (plc l (x, y, k))) ∧ Below w.heap.size w w' := by
  have he := eql23
  have HT : Hid (TRowG w a l) := hT
  clear hT
  go_enter Tryz.func32, Tryz.ntmps32
  go_wp2
  go_loopg [5] l.length (fun g s5 wx => ∃ i : Nat, i ≤ l.length ∧ g = l.length - i ∧ s5 = .int .i64 (i : Int) ∧ (∀ j (hj : j < l.length), j < i → l[j] ≠ (x, y, k)) ∧ (Tr wx w.heap.size x y k ∧ Below w.heap.size w wx))
  case atStart => exact ⟨0, by omega, rfl, rfl, fun j _ h => by omega, by simp [Tr, go_sem], bl_alloc (bl_refl _)⟩
  case round =>
    obtain ⟨i, hi, rfl, rfl, hp, ⟨t0, t1, t2⟩, hB⟩ := hrel
    have HP : Hid (∀ j (hj : j < l.length), j < i → l[j] ≠ (x, y, k)) := hp
    have HB : Hid (Below w.heap.size w wr) := hB
    have HTr : Hid (Tr wr w.heap.size x y k) := ⟨t0, t1, t2⟩
    clear hp hB
    by_cases h1 : i < l.length
    · have i1 : (i : Int) < (l.length : Int) := by omega
      have i0 : (0 : Int) ≤ (i : Int) := by omega
      obtain ⟨g, o, rfl, c0, c1, c2⟩ := (HT.out.kept HB.out) i h1
      obtain ⟨t, ht⟩ : ∃ t, t = l[i] := ⟨_, rfl⟩
      obtain ⟨X, Y, K⟩ := t
      rw [← ht] at c0 c1 c2
      dsimp only at c0 c1 c2
      have HE : Hid ((X, Y, K) = l[i]) := ht
      clear ht
      have zg : g < wr.heap.size := World.block_lt_of_cell? _ _ c0
      have zt : w.heap.size < wr.heap.size := World.block_lt_of_cell? _ _ t0
      cases hq : sameT X Y K x y k
      · go_wp2
        go_quiet (fail)
        go_wp2
        go_roundg (l.length - (i + 1))
        case measure => omega
        case rel =>
          refine ⟨i + 1, by omega, rfl, by go_num, fun j hj h => ?_, HTr.out, ?_⟩
          · by_cases e : j = i
            · subst e
              rw [← HE.out]
              intro hc
              simp at hc
              simp [sameT, hc] at hq
            · exact HP.out j hj (by omega)
          · with_reducible repeat' (first | exact HB.out | refine bl_drewN ?_ | refine bl_drew ?_)
      · go_wp2
        go_quiet (fail)
        go_wp2
        go_ret
        refine ⟨ret_int ?_, ?_⟩
        · refine (plc_at h1 ?_ HP.out).symm
          rw [← HE.out]
          simpa [sameT] using hq
        · with_reducible repeat' (first | exact HB.out | refine bl_drewN ?_ | refine bl_drew ?_)
    · have i1 : ¬ (i : Int) < (l.length : Int) := by omega
      go_wp2
      go_ret
      exact ⟨ret_int (plc_not (fun j hj => HP.out j hj (by omega))).symm, HB.out⟩
theorem plc_neg {l : List (Int × Int × Int)} {t : Int × Int × Int} : 0 ≤ plc l t ↔ t ∈ l := by
  unfold plc
  split
  · rename_i h
    exact ⟨fun _ => h, fun _ => by omega⟩
  · rename_i h
    exact ⟨fun h2 => by omega, fun h2 => absurd h2 h⟩

/-- The block of a row of one's own bears its elements' type. -/
theorem own_type {w : World} {B : Nat} {e : TypeId} {size : Nat} {v : Value} {n : Nat} {xs : List Value} (h : w.ownsRow B e size v n xs) : ∀ g, v.ownBlock = some g → ∃ c, w.heap[g]? = some (.cells c e (0, 0)) := by
  intro g hg
  rcases h.2 with ⟨rfl, _⟩ | ⟨g', cap, cur, rfl, _, hc, _⟩
  · simp [Value.ownBlock] at hg
  · simp only [Value.ownBlock, Option.some.injEq] at hg
    subst hg
    exact ⟨cur, hc⟩
/-- Rows of triangles in a row, no two of them in one block. -/
def NestV (w : World) (base : Nat) (v : Value) (F : List (List (Int × Int × Int))) (vs : List Value) : Prop :=
  vs.length = F.length ∧ w.ownsRow base 44 1 v F.length vs ∧ (∀ n (h : n < vs.length) (h' : n < F.length), w.ownsRow base 43 3 vs[n] F[n].length (flatV F[n])) ∧
  ∀ n m (hn : n < vs.length) (hm : m < vs.length), n ≠ m → ∀ b, vs[n].ownBlock = some b → vs[m].ownBlock ≠ some b
def Nest (w : World) (base : Nat) (v : Value) (F : List (List (Int × Int × Int))) : Prop := ∃ vs, NestV w base v F vs
theorem nest_nil (w : World) (base : Nat) : Nest w base (.slice none 0 0) [] := ⟨[], rfl, World.ownsRow_nil _ _ _ _, fun n h => by simp at h, fun n m h => by simp at h⟩
theorem NestV.apart {w : World} {base : Nat} {v : Value} {F : List (List (Int × Int × Int))} {vs : List Value} (h : NestV w base v F vs) {n : Nat} (hn : n < vs.length) : vs[n].ownBlock = none ∨ vs[n].ownBlock ≠ v.ownBlock := by
  cases e : vs[n].ownBlock with
  | none => exact Or.inl rfl
  | some b =>
    right
    intro e2
    obtain ⟨c1, g1⟩ := own_type (h.2.2.1 n hn (by rw [← h.1]; exact hn)) b e
    obtain ⟨c2, g2⟩ := own_type h.2.1 b e2.symm
    rw [g1] at g2
    simp at g2
theorem NestV.grown {w w' : World} {base : Nat} {v : Value} {F : List (List (Int × Int × Int))} {vs : List Value} (h : NestV w base v F vs) (hg : w.grownBy w' none) : NestV w' base v F vs :=
  ⟨h.1, h.2.1.kept hg (by cases v.ownBlock <;> simp), fun n h1 h2 => (h.2.2.1 n h1 h2).kept hg (by cases vs[n].ownBlock <;> simp), h.2.2.2⟩
theorem NestV.kept {w w' : World} {base : Nat} {v : Value} {F : List (List (Int × Int × Int))} {vs : List Value} (h : NestV w base v F vs) (hb : Below w.heap.size w w') : NestV w' base v F vs := h.grown (bl_grown hb)
/-- A row with nothing in it at the end. -/
theorem NestV.more {w w' : World} {base : Nat} {v v' : Value} {F : List (List (Int × Int × Int))} {vs : List Value} (h : NestV w base v F vs) (ho : w'.ownsRow base 44 1 v' (F.length + 1) (vs ++ [.slice none 0 0])) (hg : w.grownBy w' v.ownBlock) : NestV w' base v' (F ++ [[]]) (vs ++ [.slice none 0 0]) := by
  refine ⟨by simp [h.1], by simpa using ho, fun n h1 h2 => ?_, fun n m h1 h2 hne b hb => ?_⟩
  · by_cases hn : n < vs.length
    · have hn2 : n < F.length := by rw [← h.1]; exact hn
      rw [List.getElem_append_left hn, List.getElem_append_left hn2]
      exact (h.2.2.1 n hn hn2).kept hg (h.apart hn)
    · have e1 : n = vs.length := by simp at h1; omega
      have e2 : n = F.length := by rw [e1, h.1]
      have q1 : (vs ++ [Value.slice none 0 0])[n] = .slice none 0 0 := by subst e1; simp
      have q2 : (F ++ [[]])[n] = [] := by subst e2; simp
      rw [q1, q2]
      exact World.ownsRow_nil _ _ _ _
  · by_cases hn : n < vs.length
    · rw [List.getElem_append_left hn] at hb
      by_cases hm : m < vs.length
      · rw [List.getElem_append_left hm]
        exact h.2.2.2 n m hn hm hne b hb
      · have e1 : m = vs.length := by simp at h2; omega
        have q1 : (vs ++ [Value.slice none 0 0])[m] = .slice none 0 0 := by subst e1; simp
        rw [q1]
        simp [Value.ownBlock]
    · have e1 : n = vs.length := by simp at h1; omega
      have q1 : (vs ++ [Value.slice none 0 0])[n] = .slice none 0 0 := by subst e1; simp
      rw [q1] at hb
      simp [Value.ownBlock] at hb
theorem flatV_snoc (l : List (Int × Int × Int)) (t : Int × Int × Int) : flatV (l ++ [t]) = flatV l ++ [.int .i64 t.1, .int .i64 t.2.1, .int .i64 t.2.2] := by simp [flatV]
theorem NestV.outer {w w' : World} {base p : Nat} {v : Value} {F : List (List (Int × Int × Int))} {vs : List Value} (h : NestV w base v F vs) (hp : p < vs.length) (hg : w.grownBy w' vs[p].ownBlock) : w'.ownsRow base 44 1 v F.length vs :=
  h.2.1.kept hg (by
    rcases h.apart hp with e | e
    · rw [e]
      cases v.ownBlock <;> simp
    · exact Or.inr (fun q => e q.symm))
/-- A row that has grown by one is put back into its place. -/
theorem NestV.put {w w' : World} {base g cap p : Nat} {u : Value} {F : List (List (Int × Int × Int))} {vs : List Value} {t : Int × Int × Int} (h : NestV w base (.slice (some ⟨g, 0, none⟩) F.length cap) F vs) (hp : p < vs.length) (hp2 : p < F.length)
    (ho : w'.ownsRow base 43 3 u (F[p].length + 1) (flatV F[p] ++ [.int .i64 t.1, .int .i64 t.2.1, .int .i64 t.2.2])) (hg : w.grownBy w' vs[p].ownBlock) (hu : u.ownBlock = vs[p].ownBlock ∨ u.ownBlock = some w.heap.size) :
    NestV (w'.setCell ⟨g, p, none⟩ u) base (.slice (some ⟨g, 0, none⟩) F.length cap) (F.set p (F[p] ++ [t])) (vs.set p u) := by
  have hv : w'.ownsRow base 44 1 (.slice (some ⟨g, 0, none⟩) F.length cap) F.length vs := h.2.1.kept hg (by
    rcases h.apart hp with e | e
    · right
      rw [e]
      simp [Value.ownBlock]
    · exact Or.inr (fun q => e q.symm))
  have hs := hv.stored p u
  have hug : u.ownBlock ≠ some g := by
    intro e
    obtain ⟨c1, g1⟩ := own_type ho g e
    obtain ⟨c2, g2⟩ := own_type hv g (by simp [Value.ownBlock])
    rw [g1] at g2
    simp at g2
  refine ⟨by simp [h.1], by simpa using hs.1, fun n h1 h2 => ?_, fun n m h1 h2 hne b hb => ?_⟩
  · have h1' : n < vs.length := by simpa using h1
    have h2' : n < F.length := by simpa using h2
    by_cases e : n = p
    · subst e
      simp only [List.getElem_set_self]
      rw [flatV_snoc, List.length_append]
      exact ho.kept hs.2 (Or.inr hug)
    · rw [List.getElem_set_ne (by omega), List.getElem_set_ne (by omega)]
      have k1 := (h.2.2.1 n h1' h2').kept hg (by
        cases e3 : vs[n].ownBlock with
        | none => exact Or.inl rfl
        | some b => exact Or.inr (fun q => h.2.2.2 n p h1' hp e b e3 q.symm))
      refine k1.kept hs.2 ?_
      rcases h.apart h1' with e4 | e4
      · exact Or.inl e4
      · exact Or.inr (by simpa [Value.ownBlock] using e4)
  · have h1' : n < vs.length := by simpa using h1
    have h2' : m < vs.length := by simpa using h2
    have lt : ∀ q (hq : q < vs.length), vs[q].ownBlock ≠ some w.heap.size := fun q hq e => by
      have := ((h.2.2.1 q hq (by rw [← h.1]; exact hq)).lt _ e).2
      omega
    by_cases e : n = p
    · subst e
      rw [List.getElem_set_self] at hb
      rw [List.getElem_set_ne (by omega)]
      rcases hu with hu | hu
      · exact h.2.2.2 n m h1' h2' hne b (by rw [← hu]; exact hb)
      · rw [hu] at hb
        cases hb
        exact lt m h2'
    · rw [List.getElem_set_ne (by omega)] at hb
      by_cases e2 : m = p
      · subst e2
        rw [List.getElem_set_self]
        rcases hu with hu | hu
        · rw [hu]
          exact h.2.2.2 n m h1' h2' hne b hb
        · rw [hu]
          intro q
          cases q
          exact lt n h1' hb
      · rw [List.getElem_set_ne (by omega)]
        exact h.2.2.2 n m h1' h2' hne b hb

/-- A triangle is put into the list of its number; a new list is begun where the number is the next one. -/
def grwF (F : List (List (Int × Int × Int))) (p : Nat) : List (List (Int × Int × Int)) := if p = F.length then F ++ [[]] else F
def putF (F : List (List (Int × Int × Int))) (p : Nat) (t : Int × Int × Int) : List (List (Int × Int × Int)) := (grwF F p).set p ((grwF F p).getD p [] ++ [t])
def fcs (L : List (Int × Int × Int)) (part : Nat → Int) : Nat → List (List (Int × Int × Int))
  | 0 => []
  | i + 1 => putF (fcs L part i) (part i).toNat (L.getD i (0, 0, 0))
theorem grwF_len (F : List (List (Int × Int × Int))) (p : Nat) : (grwF F p).length = if p = F.length then F.length + 1 else F.length := by
  unfold grwF
  split <;> simp
theorem putF_len (F : List (List (Int × Int × Int))) (p : Nat) (t : Int × Int × Int) : (putF F p t).length = if p = F.length then F.length + 1 else F.length := by
  unfold putF
  rw [List.length_set, grwF_len]
theorem fcs_le (L : List (Int × Int × Int)) (part : Nat → Int) : ∀ i, (fcs L part i).length ≤ i
  | 0 => by simp [fcs]
  | i + 1 => by
    rw [fcs, putF_len]
    have := fcs_le L part i
    split <;> omega
theorem grwF_row {F : List (List (Int × Int × Int))} {p n : Nat} (h : ∀ f ∈ F, f.length ≤ n) : ∀ f ∈ grwF F p, f.length ≤ n := by
  intro f hf
  unfold grwF at hf
  split at hf
  · rcases List.mem_append.1 hf with q | q
    · exact h f q
    · simp at q
      subst q
      exact Nat.zero_le _
  · exact h f hf
theorem fcs_row (L : List (Int × Int × Int)) (part : Nat → Int) : ∀ i, ∀ f ∈ fcs L part i, f.length ≤ i
  | 0, f, hf => by simp [fcs] at hf
  | i + 1, f, hf => by
    have h1 := grwF_row (p := (part i).toNat) (fcs_row L part i)
    rw [fcs, putF] at hf
    rcases List.mem_or_eq_of_mem_set hf with q | q
    · have := h1 f q
      omega
    · subst q
      rw [List.length_append, List.getD_eq_getElem?_getD]
      cases e : (grwF (fcs L part i) (part i).toNat)[(part i).toNat]? with
      | none => simp
      | some f2 =>
        have := h1 f2 (List.mem_of_getElem? e)
        simp
        omega
/-- Each number is the next one, or one that has come up. -/
def NumOk (part : Nat → Int) (n : Nat) : Prop := (∀ a, a < n → 0 ≤ part a) ∧ ∀ a, a < n → ∀ c, 0 ≤ c → c < part a → ∃ b, b < a ∧ part b = c
theorem PartsOk.num {cr : Int × Int × Int × Int → Bool} {L : List (Int × Int × Int)} {part : Nat → Int} (h : PartsOk cr L part) : NumOk part L.length := ⟨h.1, h.2.2.2⟩
theorem fcs_has (L : List (Int × Int × Int)) (part : Nat → Int) {n : Nat} (h : NumOk part n) : ∀ i, i ≤ n → (∀ b, b < i → part b < ((fcs L part i).length : Int)) ∧ (i < n → part i ≤ ((fcs L part i).length : Int))
  | 0, hi => ⟨fun b hb => by omega, fun h0 => by
    rcases Int.lt_or_le 0 (part 0) with q | q
    · obtain ⟨b, hb, _⟩ := h.2 0 h0 0 (by omega) q
      omega
    · simpa [fcs] using q⟩
  | i + 1, hi => by
    obtain ⟨h1, h2⟩ := fcs_has L part h i (by omega)
    have h3 := h2 (by omega)
    have h0 := h.1 i (by omega)
    have hl : ((fcs L part (i + 1)).length : Int) = if part i = ((fcs L part i).length : Int) then ((fcs L part i).length : Int) + 1 else ((fcs L part i).length : Int) := by
      rw [fcs, putF_len]
      by_cases e : part i = ((fcs L part i).length : Int)
      · rw [if_pos e, if_pos (by omega)]
        omega
      · rw [if_neg e, if_neg (by omega)]
    have h4 : ∀ b, b < i + 1 → part b < ((fcs L part (i + 1)).length : Int) := fun b hb => by
      rw [hl]
      by_cases e : b = i
      · subst e
        split <;> omega
      · have := h1 b (by omega)
        split <;> omega
    refine ⟨h4, fun hn => ?_⟩
    rcases Int.lt_or_le ((fcs L part (i + 1)).length : Int) (part (i + 1)) with q | q
    · obtain ⟨b, hb, e⟩ := h.2 (i + 1) hn _ (by omega) q
      have := h4 b hb
      omega
    · exact q


theorem infS : (Tryz.prog.info? 44).map (fun i => (i.zero, i.size, i.bytes)) = some (some (.slice none 0 0), 1, 24) := by kernel_rfl
theorem infT : (Tryz.prog.info? 43).map (fun i => (i.zero, i.size, i.bytes)) = some (some (.agg #[.int .i64 0, .int .i64 0, .int .i64 0]), 3, 24) := by kernel_rfl
/-- What is known while the lists grow. -/
def FW (w1 wx : World) (v : Value) (F : List (List (Int × Int × Int))) : Prop := Nest wx w1.heap.size v F ∧ Below w1.heap.size w1 wx
theorem wp_append_run {P : Program} {o : Oper} {a : Act} {w : World} {K : Act → World → Prop} {Q : Exit → Act → World → Prop} (s x : Operand) (t : TypeId) (ho : o.op = .call { callee := .builtin .append, args := #[s, x], argTypes := #[t, t] }) (vs vx v' : Value) (w' : World) (hs : a.eval s = vs) (hx : a.eval x = vx) (hr : (Builtin.append_ #[t, t] o.type #[vs, vx]).run P w = .ok v' w') (hK : K (a.put o.dst v') w') : Oper.wp P o a w K Q := by
  unfold Oper.wp execOp
  simp only [ho, resolve, invoke, builtin, Sem.run_bind, Sem.run_pure, Result.andThen_ok, List.map_toArray, List.map_cons, List.map_nil, hs, hx, hr]
  exact hK
theorem Nest.mono {w : World} {base base' : Nat} {v : Value} {F : List (List (Int × Int × Int))} (h : Nest w base v F) (hb : base' ≤ base) : Nest w base' v F := by
  have le : ∀ {e : TypeId} {size n : Nat} {v : Value} {xs : List Value}, w.ownsRow base e size v n xs → w.ownsRow base' e size v n xs := fun h => by
    refine ⟨h.1, h.2.imp id ?_⟩
    rintro ⟨g, cap, cur, h1, h2, h3⟩
    exact ⟨g, cap, cur, h1, Nat.le_trans hb h2, h3⟩
  obtain ⟨vs, h1, h2, h3, h4⟩ := h
  exact ⟨vs, h1, le h2, fun n q1 q2 => le (h3 n q1 q2), h4⟩
theorem own_form {w : World} {base size n : Nat} {e : TypeId} {v : Value} {xs : List Value} (h : w.ownsRow base e size v n xs) : ∃ a cap, v = .slice a n cap ∧ (0 < n → ∃ g, a = some ⟨g, 0, none⟩) := by
  rcases h.2 with ⟨rfl, rfl⟩ | ⟨g, cap, cur, rfl, _⟩
  · exact ⟨none, 0, rfl, fun h => by omega⟩
  · exact ⟨_, cap, rfl, fun _ => ⟨g, rfl⟩⟩

end Go.Proofs.YtmjhfdohcghhoaaGreatDoor
namespace Go.Proofs.YtmjhfdohcghhoaaGreatDoor
open Go.RowKit Go.ChangeMaps

/-- A pile as it lies in memory. -/
structure PileAt (w : World) (ad : Option Addr) (cc ra rk gm cm : Nat) (pa : Option Addr) (pc : Nat) (L : List (Int × Int × Int)) (kd : Int × Int × Int × Int → Int) (M : Nat → M6) : Prop where
  tr : PA w ad ra L
  kl : KL w rk kd
  mr : MRow w gm L.length M
  pl : TRow w pa (pls L M L.length)
theorem PileAt.kept {w w' : World} {ad : Option Addr} {cc ra rk gm cm : Nat} {pa : Option Addr} {pc : Nat} {L : List (Int × Int × Int)} {kd : Int × Int × Int × Int → Int} {M : Nat → M6} (h : PileAt w ad cc ra rk gm cm pa pc L kd M) (hb : Below w.heap.size w w') : PileAt w' ad cc ra rk gm cm pa pc L kd M := ⟨h.tr.kept hb, h.kl.kept hb, h.mr.kept hb, h.pl.kept hb⟩
theorem TRow.not_at {w : World} {pa : Option Addr} {l : List (Int × Int × Int)} {b : Nat} (h : TRow w pa l) (h0 : 0 < l.length) (hc : w.cell? ⟨b, 0, none⟩ = some (.slice none 0 0)) : ∀ g, pa = some ⟨g, 0, none⟩ → g ≠ b := fun g e e2 => by
  obtain ⟨g', e', c0, _⟩ := h 0 h0
  rw [e] at e'
  cases e'
  subst e2
  rw [Nat.zero_mul, hc] at c0
  cases c0
theorem TRow.grown {w w' : World} {pa : Option Addr} {l : List (Int × Int × Int)} {b : Nat} (h : TRow w pa l) (hg : w.grownBy w' (some b)) (hn : ∀ g, pa = some ⟨g, 0, none⟩ → g ≠ b) : TRow w' pa l := fun i hi => by
  obtain ⟨g, e, c0, c1, c2⟩ := h i hi
  have hne : some g ≠ some b := fun e2 => hn g e (by simpa using e2)
  exact ⟨g, e, hg.cell c0 hne, hg.cell c1 hne, hg.cell c2 hne⟩
end Go.Proofs.YtmjhfdohcghhoaaGreatDoor
namespace Go.Proofs.YtmjhfdohcghhoaaGreatDoor
open Go.RowKit
attribute [local go_sem ↓] Go.wp_at_zero Go.wp_at_succ

/-- Each is joined to its number, which is no greater. -/
def InvC (cr : Int × Int × Int × Int → Bool) (l : List (Int × Int × Int)) (who : Nat → Nat) : Prop := ∀ i (hi : i < l.length), who i ≤ i ∧ ∃ hw : who i < l.length, ReachC cr l l[i] l[who i]
/-- Across an edge nothing has a lesser number. -/
def OkC (cr : Int × Int × Int × Int → Bool) (l : List (Int × Int × Int)) (who : Nat → Nat) (i e : Nat) : Prop := ∀ (hi : i < l.length), cr (edg l[i] e) = true → ∀ j (_ : j < l.length), plc l (acr l[i] (edg l[i] e)) = (j : Int) → who i ≤ who j
theorem invC_id (cr : Int × Int × Int × Int → Bool) (l : List (Int × Int × Int)) : InvC cr l (fun i => i) := fun _ hi => ⟨Nat.le_refl _, hi, .here (List.getElem_mem hi)⟩
theorem invC_upd {cr : Int × Int × Int × Int → Bool} {l : List (Int × Int × Int)} {who : Nat → Nat} {i j e : Nat} (hI : InvC cr l who) (hi : i < l.length) (hj : j < l.length) (hk : Kd l[i]) (hc : cr (edg l[i] e) = true) (hp : plc l (acr l[i] (edg l[i] e)) = (j : Int)) (hlt : who j < who i) : InvC cr l (upd who i (who j)) := by
  intro m hm
  by_cases h : m = i
  · subst h
    simp only [upd, if_true]
    obtain ⟨h1, _, _⟩ := hI m hm
    obtain ⟨_, hw, hr⟩ := hI j hj
    have ha : AdjC cr l[m] l[j] := by
      have h3 := acr_adj hk (edg_own l[m] e)
      rw [plc_get hj hp]
      exact ⟨h3.2.1, _, edg_own _ _, h3.1, hc⟩
    exact ⟨by omega, hw, ((ReachC.here (List.getElem_mem hm)).step (List.getElem_mem hj) ha).trans hr⟩
  · simp only [upd, if_neg h]
    exact hI m hm


/-- Those of a group, and the groups. -/
def sel (L : List (Int × Int × Int)) (who : Nat → Nat) (i : Nat) : Nat → List (Int × Int × Int)
  | 0 => []
  | k + 1 => if who k = i then sel L who i k ++ [L.getD k (0, 0, 0)] else sel L who i k
def rfs (L : List (Int × Int × Int)) (who : Nat → Nat) : Nat → List (List (Int × Int × Int))
  | 0 => []
  | i + 1 => if who i = i then rfs L who i ++ [sel L who i L.length] else rfs L who i
theorem sel_le (L : List (Int × Int × Int)) (who : Nat → Nat) (i : Nat) : ∀ k, (sel L who i k).length ≤ k
  | 0 => by simp [sel]
  | k + 1 => by
    have := sel_le L who i k
    unfold sel
    split
    · simp
      omega
    · omega
theorem World_own_le {w : World} {base base' size n : Nat} {e : TypeId} {v : Value} {xs : List Value} (h : w.ownsRow base e size v n xs) (hb : base' ≤ base) : w.ownsRow base' e size v n xs := by
  refine ⟨h.1, h.2.imp id ?_⟩
  rintro ⟨g, cap, cur, h1, h2, h3⟩
  exact ⟨g, cap, cur, h1, Nat.le_trans hb h2, h3⟩
/-- A row that is another one comes to the end. -/
theorem NestV.add {w w' : World} {base : Nat} {v v' fv : Value} {F : List (List (Int × Int × Int))} {vs : List Value} {f : List (Int × Int × Int)} (h : NestV w base v F vs) (hf : w.ownsRow base 43 3 fv f.length (flatV f)) (hfn : ∀ n (hn : n < vs.length), ∀ b, fv.ownBlock = some b → vs[n].ownBlock ≠ some b)
    (ho : w'.ownsRow base 44 1 v' (F.length + 1) (vs ++ [fv])) (hg : w.grownBy w' v.ownBlock) : NestV w' base v' (F ++ [f]) (vs ++ [fv]) := by
  have hfa : fv.ownBlock = none ∨ fv.ownBlock ≠ v.ownBlock := by
    cases e : fv.ownBlock with
    | none => exact Or.inl rfl
    | some b =>
      right
      intro e2
      obtain ⟨c1, g1⟩ := own_type hf b e
      obtain ⟨c2, g2⟩ := own_type h.2.1 b e2.symm
      rw [g1] at g2
      simp at g2
  refine ⟨by simp [h.1], by simpa using ho, fun n h1 h2 => ?_, fun n m h1 h2 hne b hb => ?_⟩
  · by_cases hn : n < vs.length
    · have hn2 : n < F.length := by rw [← h.1]; exact hn
      rw [List.getElem_append_left hn, List.getElem_append_left hn2]
      exact (h.2.2.1 n hn hn2).kept hg (h.apart hn)
    · have e1 : n = vs.length := by simp at h1; omega
      have e2 : n = F.length := by rw [e1, h.1]
      have q1 : (vs ++ [fv])[n] = fv := by subst e1; simp
      have q2 : (F ++ [f])[n] = f := by subst e2; simp
      rw [q1, q2]
      exact hf.kept hg hfa
  · by_cases hn : n < vs.length
    · rw [List.getElem_append_left hn] at hb
      by_cases hm : m < vs.length
      · rw [List.getElem_append_left hm]
        exact h.2.2.2 n m hn hm hne b hb
      · have e1 : m = vs.length := by simp at h2; omega
        have q1 : (vs ++ [fv])[m] = fv := by subst e1; simp
        rw [q1]
        exact fun q => hfn n hn b q hb
    · have e1 : n = vs.length := by simp at h1; omega
      have q1 : (vs ++ [fv])[n] = fv := by subst e1; simp
      rw [q1] at hb
      have hm : m < vs.length := by simp at h2; omega
      rw [List.getElem_append_left hm]
      exact hfn m hm b hb


set_option maxRecDepth 100000 in
set_option maxHeartbeats 6400000 in
theorem gathered_any (w : World) (cc ra rk g pcap : Nat) (ad : Option Addr) (L : List (Int × Int × Int)) (part : Nat → Int) (hT : TRow w ad L) (hZ : ZRow w g L.length part) (hNum : NumOk part L.length) (hL : L.length ≤ 300) :
    Calls Tryz.prog 25 #[.agg #[.slice ad L.length cc, .map (some ra), .map (some rk)], .slice (some ⟨g, 0, none⟩) L.length pcap] w fun e w' => ∃ v, e = .returned v ∧ Nest w' w.heap.size v (fcs L part L.length) ∧ Below w.heap.size w w' := by
  have HT : Hid (TRow w ad L) := hT
  have HZN : Hid (ZRow w g L.length part ∧ NumOk part L.length) := ⟨hZ, hNum⟩
  obtain ⟨iS, hi1, hz10, hz11, hz12⟩ := info_parts infS
  have HI1 : Hid (Tryz.prog.info? 44 = some iS ∧ iS.zero = some (.slice none 0 0) ∧ iS.size = 1 ∧ iS.bytes = 24) := ⟨hi1, hz10, hz11, hz12⟩
  obtain ⟨iT, hi2, hz20, hz21, hz22⟩ := info_parts infT
  have HI2 : Hid (Tryz.prog.info? 43 = some iT ∧ iT.zero = some (.agg #[.int .i64 0, .int .i64 0, .int .i64 0]) ∧ iT.size = 3 ∧ iT.bytes = 24) := ⟨hi2, hz20, hz21, hz22⟩
  clear hT hZ hNum hi1 hz10 hz11 hz12 hi2 hz20 hz21 hz22
  go_enter Tryz.func25, Tryz.ntmps25
  go_upto_region 2 with fail
  refine wp_named (fun w1 hw1 => ?_)
  have HW : Hid (ZRow w1 g L.length part ∧ NumOk part L.length ∧ Below w.heap.size w w1 ∧ w1.cell? ⟨w.heap.size, 0, none⟩ = some (.slice ad L.length cc) ∧ w.heap.size < w1.heap.size) := by
    have hb : Below w.heap.size w w1 := by rw [hw1]; exact bl_alloc (bl_refl _)
    exact ⟨HZN.out.1.kept hb, HZN.out.2, hb, by rw [hw1]; simp [go_sem], by rw [hw1]; simp⟩
  clear hw1
  obtain ⟨pb, hpb⟩ : ∃ p, p = w.heap.size := ⟨_, rfl⟩
  have HPB : Hid (pb = w.heap.size) := hpb
  have HPC : Hid (w1.cell? ⟨pb, 0, none⟩ = some (.slice ad L.length cc)) := by
    have : w1.cell? ⟨pb, 0, none⟩ = some (.slice ad L.length cc) := by rw [hpb]; exact HW.out.2.2.2.1
    exact this
  rw [← hpb]
  clear hpb
  go_wp2
  go_loopg [5, 10] L.length (fun gk s5 s10 wx => ∃ i : Nat, i ≤ L.length ∧ gk = L.length - i ∧ s10 = .int .i64 (i : Int) ∧ FW w1 wx s5 (fcs L part i))
  case atStart => exact ⟨0, by omega, rfl, rfl, nest_nil _ _, bl_refl _⟩
  case round =>
    obtain ⟨i, hi, rfl, rfl, hF⟩ := hrel
    obtain ⟨vA, hvA⟩ : ∃ u, u = u5 := ⟨_, rfl⟩
    subst hvA
    have HF : Hid (FW w1 wr vA (fcs L part i)) := hF
    clear hF
    by_cases h1 : i < L.length
    · have i1 : (i : Int) < (L.length : Int) := by omega
      have i0 : (0 : Int) ≤ (i : Int) := by omega
      have hnum := fcs_has L part HW.out.2.1 i hi
      have hp0 := HW.out.2.1.1 i h1
      have hle := fcs_le L part i
      obtain ⟨p, hp⟩ : ∃ p : Nat, part i = (p : Int) := ⟨(part i).toNat, by omega⟩
      have hpF : p ≤ (fcs L part i).length := by have := hnum.2 h1; omega
      have HN : Hid (fcs L part (i + 1) = putF (fcs L part i) p L[i]) := by
        have : fcs L part (i + 1) = putF (fcs L part i) p L[i] := by
          rw [fcs, hp, List.getD_eq_getElem?_getD, List.getElem?_eq_getElem h1]
          rfl
        exact this
      have HRW : Hid (∀ f ∈ fcs L part i, f.length ≤ i) := fcs_row L part i
      clear hnum hp0
      obtain ⟨F, hFe⟩ : ∃ F, F = fcs L part i := ⟨_, rfl⟩
      rw [← hFe] at HF HN hpF hle HRW
      clear hFe
      obtain ⟨vs0, hN0⟩ := HF.out.1
      obtain ⟨a4, c4, rfl, hg4⟩ := own_form hN0.2.1
      have HA4 : Hid (0 < F.length → ∃ g, a4 = some ⟨g, 0, none⟩) := hg4
      clear hg4
      have z0 := cl_kept HF.out.2 (HW.out.1 i h1).1
      rw [hp] at z0
      have zz : g < wr.heap.size := World.block_lt_of_cell? _ _ z0
      have HN0 : Hid (NestV wr w1.heap.size (.slice a4 F.length c4) F vs0) := hN0
      clear hN0
      have hgl : (grwF F p).length ≤ i + 1 := by
        rw [grwF_len]
        split <;> omega
      have hpl : p < (grwF F p).length := by
        rw [grwF_len]
        split <;> omega
      by_cases he : p = F.length
      · have he2 : ((F.length : Int) = (p : Int)) := by omega
        have HG : Hid (grwF F p = F ++ [[]]) := by
          have : grwF F p = F ++ [[]] := by simp [grwF, he]
          exact this
        go_wp2_with (at_builtin; refine wpList_append_own_at _ rfl (.tmp 19) (.tmp 20) 32 rfl w1.heap.size 44 iS (.slice none 0 0) 1 24 Tryz.underlying32 HI1.out.1 HI1.out.2.1 HI1.out.2.2.1 HI1.out.2.2.2 rfl (by decide) (.slice a4 F.length c4) F.length vs0 rfl ?own ⟨wr.heap.size, 0, none⟩ 1 1 [.slice none 0 0] rfl rfl ?c1 ?c2 ?b1 ?b2 ?b3 ?grow)
        case own => exact own_below HN0.out.2.1 (bl_alloc (bl_refl _))
        case c1 =>
          intro j u hu
          match j, hu with
          | 0, hu => simp at hu; subst hu; simp [go_sem, Addr.add]
        case c2 =>
          intro u hu
          simp at hu
          subst hu
          rfl
        case b1 =>
          unfold maxLen
          omega
        case b2 => omega
        case b3 =>
          have := HF.out.2.size
          simp
          omega
        case grow =>
          intro v' w3 hown hgrow hnil hob
          have hNX : NestV w3 w1.heap.size v' (grwF F p) (vs0 ++ [.slice none 0 0]) := by
            rw [HG.out]
            exact (HN0.out.kept (bl_alloc (bl_refl _))).more hown hgrow
          have hBX : Below w1.heap.size w1 w3 := (bl_alloc HF.out.2).grown hgrow (by have := HF.out.2.size; simp; omega) (own_base HN0.out.2.1)
          clear hown hgrow hnil hob HN0 HF HG he he2 z0 zz
          obtain ⟨G, hG⟩ : ∃ G, G = grwF F p := ⟨_, rfl⟩
          have HRG : Hid (∀ f ∈ grwF F p, f.length ≤ i) := grwF_row HRW.out
          rw [← hG] at hNX hgl hpl HRG
          obtain ⟨a5, c5, rfl, hg5⟩ := own_form hNX.2.1
          obtain ⟨g4, rfl⟩ := hg5 (by omega)
          obtain ⟨VS, HNX⟩ : ∃ VS, Hid (NestV w3 w1.heap.size (.slice (some ⟨g4, 0, none⟩) G.length c5) G VS) := ⟨_, hNX⟩
          have HBX : Hid (Below w1.heap.size w1 w3) := hBX
          have HGG : Hid (fcs L part (i + 1) = G.set p (G.getD p [] ++ [L[i]])) := by
            have : fcs L part (i + 1) = G.set p (G.getD p [] ++ [L[i]]) := by rw [HN.out, hG]; rfl
            exact this
          clear hNX hBX hG HN
          go_wp2
          have hpi : (p : Int) < (G.length : Int) := by omega
          have hp0 : (0 : Int) ≤ (p : Int) := by omega
          have hpv : p < VS.length := by rw [HNX.out.1]; exact hpl
          have hin := HNX.out.2.2.1 p hpv hpl
          obtain ⟨a6, c6, hv6, hg6⟩ := own_form hin
          obtain ⟨n6, hn6⟩ : ∃ n, n = G[p].length := ⟨_, rfl⟩
          rw [← hn6] at hv6
          have hn6b : n6 ≤ i := by rw [hn6]; exact HRG.out _ (List.getElem_mem hpl)
          have e0 : w3.cell? ⟨g4, p, none⟩ = some (.slice a6 n6 c6) := by
            rw [HNX.out.2.1.cellAt p (by omega), List.getElem?_eq_getElem hpv, hv6]
          have hTw := (HT.out.kept HW.out.2.2.1) i h1
          obtain ⟨ga, rfl, t0, t1, t2⟩ := hTw
          obtain ⟨t, ht⟩ : ∃ t, t = L[i] := ⟨_, rfl⟩
          obtain ⟨x, y, kk⟩ := t
          rw [← ht] at t0 t1 t2 HGG
          dsimp only at t0 t1 t2
          have HS1 : Hid (w1.cell? ⟨pb, 0, none⟩ = some (.slice (some ⟨ga, 0, none⟩) L.length cc) ∧ w1.cell? ⟨ga, i * 3, none⟩ = some (.int .i64 x) ∧ w1.cell? ⟨ga, i * 3 + 1, none⟩ = some (.int .i64 y) ∧ w1.cell? ⟨ga, i * 3 + 2, none⟩ = some (.int .i64 kk)) := ⟨HPC.out, t0, t1, t2⟩
          have HSX : Hid (∀ wx : World, Below w1.heap.size w1 wx → wx.cell? ⟨pb, 0, none⟩ = some (.slice (some ⟨ga, 0, none⟩) L.length cc) ∧ wx.cell? ⟨ga, i * 3, none⟩ = some (.int .i64 x) ∧ wx.cell? ⟨ga, i * 3 + 1, none⟩ = some (.int .i64 y) ∧ wx.cell? ⟨ga, i * 3 + 2, none⟩ = some (.int .i64 kk)) := fun wx hx => ⟨cl_kept hx HS1.out.1, cl_kept hx HS1.out.2.1, cl_kept hx HS1.out.2.2.1, cl_kept hx HS1.out.2.2.2⟩
          clear ht t0 t1 t2
          have hBA : Below w1.heap.size w1 ((w3.alloc (.cells #[.int .i64 x, .int .i64 y, .int .i64 kk] 43)).drew) := bl_drew (bl_alloc HBX.out)
          have hNA : NestV ((w3.alloc (.cells #[.int .i64 x, .int .i64 y, .int .i64 kk] 43)).drew) w1.heap.size (.slice (some ⟨g4, 0, none⟩) G.length c5) G VS := HNX.out.kept (bl_drew (bl_alloc (bl_refl _)))
          have hinA := hNA.2.2.1 p hpv hpl
          rw [hv6, ← hn6] at hinA
          obtain ⟨u, w5, hr, ho5, hg5, hn5, hob5⟩ := run_append_own_at (P := Tryz.prog) ((w3.alloc (.cells #[.int .i64 x, .int .i64 y, .int .i64 kk] 43)).drew) w1.heap.size 44 44 43 iT (.agg #[.int .i64 0, .int .i64 0, .int .i64 0]) 3 24 Tryz.underlying44 HI2.out.1 HI2.out.2.1 HI2.out.2.2.1 HI2.out.2.2.2 rfl (by decide) (.slice a6 n6 c6) n6 (flatV G[p]) hinA ⟨w3.heap.size, 0, none⟩ 1 1 [.int .i64 x, .int .i64 y, .int .i64 kk] rfl (cell_three_new _ _ _ _) (by intro u hu; simp at hu; rcases hu with rfl | rfl | rfl <;> rfl) (by unfold maxLen; omega) (by omega) (by have := hBA.size; exact this)
          obtain ⟨a7, c7, rfl, hg7⟩ := own_form ho5
          have hB5 : Below w1.heap.size w1 w5 := hBA.grown hg5 hBA.size (own_base hinA)
          have hP := hNA.put hpv hpl (t := (x, y, kk)) (by rw [← hn6]; exact ho5) (by rw [hv6]; exact hg5) (by rw [hv6]; simpa using hob5)
          have hv5 := hNA.outer hpv (by rw [hv6]; exact hg5)
          have hg4 : w1.heap.size ≤ g4 := own_base HNX.out.2.1 g4 rfl
          have q0 : w5.cell? ⟨g4, p, none⟩ = some (.slice a6 n6 c6) := by
            rw [hv5.cellAt p (by omega), List.getElem?_eq_getElem hpv, hv6]
          have q1 : w5.frozen? ⟨g4, p, none⟩ = false := hv5.frozenAt p
          have HP : Hid (NestV (w5.setCell ⟨g4, p, none⟩ (.slice a7 (n6 + 1) c7)) w1.heap.size (.slice (some ⟨g4, 0, none⟩) G.length c5) (G.set p (G[p] ++ [(x, y, kk)])) (VS.set p (.slice a7 (n6 + 1) c7))) := hP
          have HB5 : Hid (Below w1.heap.size w1 w5 ∧ Below w1.heap.size w1 (w5.setCell ⟨g4, p, none⟩ (.slice a7 (n6 + 1) c7))) := ⟨hB5, bl_set hB5 hg4⟩
          have e0a : (w3.alloc (.cells #[.int .i64 x, .int .i64 y, .int .i64 kk] 43)).cell? ⟨g4, p, none⟩ = some (.slice a6 n6 c6) := al_old e0
          have HSA := HSX.out _ hBA
          have HAL : Hid (Below w1.heap.size w1 (w3.alloc (.cells #[.int .i64 x, .int .i64 y, .int .i64 kk] 43)).drew) := hBA
          clear hBA hNA hinA ho5 hg5 hn5 hob5 hB5 hP hv5 hin hv6 hg6 hg7 hn6 HSA
          refine wp_region_held_drew (S := fun w' => w'.cell? ⟨pb, 0, none⟩ = some (.slice (some ⟨ga, 0, none⟩) L.length cc) ∧ w'.cell? ⟨ga, i * 3, none⟩ = some (.int .i64 x) ∧ w'.cell? ⟨ga, i * 3 + 1, none⟩ = some (.int .i64 y) ∧ w'.cell? ⟨ga, i * 3 + 2, none⟩ = some (.int .i64 kk)) (by kernel_rfl) (HSX.out _ (bl_drew HBX.out)) (fun hHeld => ?_)
          refine wpAnyH_take (i := 0) (v := .slice (some ⟨g4, 0, none⟩) G.length c5) rfl (by kernel_rfl) (by kernel_rfl) (by kernel_rfl) (fun _ _ _ h => h) (Or.inl ⟨by rfl, ?hyy⟩) (by assumption) ?_
          case hyy => (intro w' hSw; (try dsimp only at hSw); go_simp)
          try simp only [Act.put, List.getElem_toArray, List.getElem_cons_zero, List.setIfInBounds_toArray, List.set_cons_zero, List.set_cons_succ]
          refine wpAnyH_take (i := 1) (v := .int .i64 (p : Int)) rfl (by kernel_rfl) (by kernel_rfl) (by kernel_rfl) (fun _ _ _ h => h) (Or.inl ⟨by rfl, ?hyy⟩) (by assumption) ?_
          case hyy => (intro w' hSw; (try dsimp only at hSw); go_simp)
          try simp only [Act.put, List.getElem_toArray, List.getElem_cons_succ, List.getElem_cons_zero, List.setIfInBounds_toArray, List.set_cons_zero, List.set_cons_succ]
          refine wpAnyH_take (i := 2) (v := .slice (some ⟨g4, 0, none⟩) G.length c5) rfl (by kernel_rfl) (by kernel_rfl) (by kernel_rfl) (fun _ _ _ h => h) (Or.inl ⟨by rfl, ?hyy⟩) (by assumption) ?_
          case hyy => (intro w' hSw; (try dsimp only at hSw); go_simp)
          try simp only [Act.put, List.getElem_toArray, List.getElem_cons_succ, List.getElem_cons_zero, List.setIfInBounds_toArray, List.set_cons_zero, List.set_cons_succ]
          refine wpAnyH_take (i := 3) (v := .int .i64 (p : Int)) rfl (by kernel_rfl) (by kernel_rfl) (by kernel_rfl) (fun _ _ _ h => h) (Or.inl ⟨by rfl, ?hyy⟩) (by assumption) ?_
          case hyy => (intro w' hSw; (try dsimp only at hSw); go_simp)
          try simp only [Act.put, List.getElem_toArray, List.getElem_cons_succ, List.getElem_cons_zero, List.setIfInBounds_toArray, List.set_cons_zero, List.set_cons_succ]
          refine wpAnyH_take (i := 4) (v := .pointer (some ⟨g4, p, none⟩)) rfl (by kernel_rfl) (by kernel_rfl) (by kernel_rfl) (fun _ _ _ h => h) (Or.inl ⟨by rfl, ?hyy⟩) (by assumption) ?_
          case hyy => (intro w' hSw; (try dsimp only at hSw); go_simp)
          try simp only [Act.put, List.getElem_toArray, List.getElem_cons_succ, List.getElem_cons_zero, List.setIfInBounds_toArray, List.set_cons_zero, List.set_cons_succ]
          refine wpAnyH_take (i := 6) (v := .pointer (some ⟨pb, 0, none⟩)) rfl (by kernel_rfl) (by kernel_rfl) (by kernel_rfl) (fun _ _ _ h => h) (Or.inl ⟨by rfl, ?hyy⟩) (by assumption) ?_
          case hyy => (intro w' hSw; (try dsimp only at hSw); go_simp)
          try simp only [Act.put, List.getElem_toArray, List.getElem_cons_succ, List.getElem_cons_zero, List.setIfInBounds_toArray, List.set_cons_zero, List.set_cons_succ]
          refine wpAnyH_take (i := 7) (v := .slice (some ⟨ga, 0, none⟩) L.length cc) rfl (by kernel_rfl) (by kernel_rfl) (by kernel_rfl) (fun _ _ _ h => h) (Or.inl ⟨by rfl, ?hyy⟩) (by assumption) ?_
          case hyy => (intro w' hSw; (try dsimp only at hSw); go_simp)
          try simp only [Act.put, List.getElem_toArray, List.getElem_cons_succ, List.getElem_cons_zero, List.setIfInBounds_toArray, List.set_cons_zero, List.set_cons_succ]
          refine wpAnyH_take (i := 8) (v := .int .i64 (i : Int)) rfl (by kernel_rfl) (by kernel_rfl) (by kernel_rfl) (fun _ _ _ h => h) (Or.inl ⟨by rfl, ?hyy⟩) (by assumption) ?_
          case hyy => (intro w' hSw; (try dsimp only at hSw); go_simp)
          try simp only [Act.put, List.getElem_toArray, List.getElem_cons_succ, List.getElem_cons_zero, List.setIfInBounds_toArray, List.set_cons_zero, List.set_cons_succ]
          refine wpAnyH_take (i := 9) (v := .pointer (some ⟨ga, i * 3, none⟩)) rfl (by kernel_rfl) (by kernel_rfl) (by kernel_rfl) (fun _ _ _ h => h) (Or.inl ⟨by rfl, ?hyy⟩) (by assumption) ?_
          case hyy => (intro w' hSw; (try dsimp only at hSw); go_simp)
          try simp only [Act.put, List.getElem_toArray, List.getElem_cons_succ, List.getElem_cons_zero, List.setIfInBounds_toArray, List.set_cons_zero, List.set_cons_succ]
          refine wpAnyH_take (i := 10) (v := .agg #[.int .i64 x, .int .i64 y, .int .i64 kk]) rfl (by kernel_rfl) (by kernel_rfl) (by kernel_rfl) (fun _ _ _ h => h) (Or.inl ⟨by rfl, ?hyy⟩) (by assumption) ?_
          case hyy => (intro w' hSw; (try dsimp only at hSw); go_simp)
          try simp only [Act.put, List.getElem_toArray, List.getElem_cons_succ, List.getElem_cons_zero, List.setIfInBounds_toArray, List.set_cons_zero, List.set_cons_succ]
          refine wpAnyH_ready (rs := [5, 11]) (by kernel_rfl) (by simp) ?_
          refine AllReadyH.cons rfl (fun K hK => ?_) (AllReadyH.cons rfl (fun K hK => ?_) AllReadyH.nil)
          · go_simp
            refine hK.out _ _ (HSX.out _ (bl_drew HBX.out)) (fun hHd => ?_)
            clear hK K
            try simp only [Act.put, List.getElem_toArray, List.getElem_cons_succ, List.getElem_cons_zero, List.setIfInBounds_toArray, List.set_cons_zero, List.set_cons_succ]
            refine wpAnyH_ready (rs := [11]) (by kernel_rfl) (by simp) ?_
            refine AllReadyH.cons rfl (fun K hK => ?_) AllReadyH.nil
            go_simp
            refine hK.out _ _ (HSX.out _ HAL.out) (fun hHd => ?_)
            clear hK K
            try simp only [Act.put, List.getElem_toArray, List.getElem_cons_succ, List.getElem_cons_zero, List.setIfInBounds_toArray, List.set_cons_zero, List.set_cons_succ]
            refine wpAnyH_ready (rs := [12]) (by kernel_rfl) (by simp) ?_
            refine AllReadyH.cons rfl (fun K hK => ?_) AllReadyH.nil
            rw [if_pos (by rfl)]
            refine wp_append_run (.tmp 27) (.tmp 33) 44 rfl _ _ (.slice a7 (n6 + 1) c7) w5 rfl rfl hr ?_
            refine hK.out _ _ (HSX.out _ HB5.out.1) (fun hHd => ?_)
            clear hK K
            try simp only [Act.put, List.getElem_toArray, List.getElem_cons_succ, List.getElem_cons_zero, List.setIfInBounds_toArray, List.set_cons_zero, List.set_cons_succ]
            refine wpAnyH_take (i := 13) (v := .pointer (some ⟨g4, p, none⟩)) rfl (by kernel_rfl) (by kernel_rfl) (by kernel_rfl) (fun _ _ _ h => h) (Or.inl ⟨by rfl, ?hyy⟩) (by assumption) ?_
            case hyy => (intro w' hSw; (try dsimp only at hSw); go_simp)
            try simp only [Act.put, List.getElem_toArray, List.getElem_cons_succ, List.getElem_cons_zero, List.setIfInBounds_toArray, List.set_cons_zero, List.set_cons_succ]
            refine wpAnyH_ready (rs := [14]) (by kernel_rfl) (by simp) ?_
            refine AllReadyH.cons rfl (fun K hK => ?_) AllReadyH.nil
            go_simp
            refine hK.out _ _ (HSX.out _ HB5.out.2) (fun hHd => ?_)
            clear hK K
            try simp only [Act.put, List.getElem_toArray, List.getElem_cons_succ, List.getElem_cons_zero, List.setIfInBounds_toArray, List.set_cons_zero, List.set_cons_succ]
            refine wpAnyH_done (by kernel_rfl) ?_ _
            go_wp2
            go_roundg (L.length - (i + 1))
            case measure => omega
            case rel => exact ⟨i + 1, by omega, rfl, by go_num, ⟨_, by rw [HGG.out, List.getD_eq_getElem?_getD, List.getElem?_eq_getElem hpl]; simpa using HP.out⟩, HB5.out.2⟩
          · go_simp
            refine hK.out _ _ (HSX.out _ HAL.out) (fun hHd => ?_)
            clear hK K
            try simp only [Act.put, List.getElem_toArray, List.getElem_cons_succ, List.getElem_cons_zero, List.setIfInBounds_toArray, List.set_cons_zero, List.set_cons_succ]
            refine wpAnyH_ready (rs := [5]) (by kernel_rfl) (by simp) ?_
            refine AllReadyH.cons rfl (fun K hK => ?_) AllReadyH.nil
            go_simp
            refine hK.out _ _ (HSX.out _ HAL.out) (fun hHd => ?_)
            clear hK K
            try simp only [Act.put, List.getElem_toArray, List.getElem_cons_succ, List.getElem_cons_zero, List.setIfInBounds_toArray, List.set_cons_zero, List.set_cons_succ]
            refine wpAnyH_ready (rs := [12]) (by kernel_rfl) (by simp) ?_
            refine AllReadyH.cons rfl (fun K hK => ?_) AllReadyH.nil
            rw [if_pos (by rfl)]
            refine wp_append_run (.tmp 27) (.tmp 33) 44 rfl _ _ (.slice a7 (n6 + 1) c7) w5 rfl rfl hr ?_
            refine hK.out _ _ (HSX.out _ HB5.out.1) (fun hHd => ?_)
            clear hK K
            try simp only [Act.put, List.getElem_toArray, List.getElem_cons_succ, List.getElem_cons_zero, List.setIfInBounds_toArray, List.set_cons_zero, List.set_cons_succ]
            refine wpAnyH_take (i := 13) (v := .pointer (some ⟨g4, p, none⟩)) rfl (by kernel_rfl) (by kernel_rfl) (by kernel_rfl) (fun _ _ _ h => h) (Or.inl ⟨by rfl, ?hyy⟩) (by assumption) ?_
            case hyy => (intro w' hSw; (try dsimp only at hSw); go_simp)
            try simp only [Act.put, List.getElem_toArray, List.getElem_cons_succ, List.getElem_cons_zero, List.setIfInBounds_toArray, List.set_cons_zero, List.set_cons_succ]
            refine wpAnyH_ready (rs := [14]) (by kernel_rfl) (by simp) ?_
            refine AllReadyH.cons rfl (fun K hK => ?_) AllReadyH.nil
            go_simp
            refine hK.out _ _ (HSX.out _ HB5.out.2) (fun hHd => ?_)
            clear hK K
            try simp only [Act.put, List.getElem_toArray, List.getElem_cons_succ, List.getElem_cons_zero, List.setIfInBounds_toArray, List.set_cons_zero, List.set_cons_succ]
            refine wpAnyH_done (by kernel_rfl) ?_ _
            go_wp2
            go_roundg (L.length - (i + 1))
            case measure => omega
            case rel => exact ⟨i + 1, by omega, rfl, by go_num, ⟨_, by rw [HGG.out, List.getD_eq_getElem?_getD, List.getElem?_eq_getElem hpl]; simpa using HP.out⟩, HB5.out.2⟩
      · have he2 : ¬ ((p : Int) = (F.length : Int)) := by omega
        have hpF2 : p < F.length := by omega
        obtain ⟨g4, rfl⟩ := HA4.out (by omega)
        obtain ⟨VS, HNX⟩ : ∃ VS, Hid (NestV wr w1.heap.size (.slice (some ⟨g4, 0, none⟩) F.length c4) F VS) := ⟨vs0, HN0.out⟩
        have HBX : Hid (Below w1.heap.size w1 wr) := HF.out.2
        have HGG : Hid (fcs L part (i + 1) = F.set p (F.getD p [] ++ [L[i]])) := by
          have hg : grwF F p = F := by simp [grwF, he]
          have : fcs L part (i + 1) = F.set p (F.getD p [] ++ [L[i]]) := by rw [HN.out, putF, hg]
          exact this
        clear HN0 HF HN
        go_wp2
        clear he he2 z0 zz hgl hpl
        have hpi : (p : Int) < (F.length : Int) := by omega
        have hp0 : (0 : Int) ≤ (p : Int) := by omega
        have hpv : p < VS.length := by rw [HNX.out.1]; exact hpF2
        have hin := HNX.out.2.2.1 p hpv hpF2
        obtain ⟨a6, c6, hv6, hg6⟩ := own_form hin
        obtain ⟨n6, hn6⟩ : ∃ n, n = F[p].length := ⟨_, rfl⟩
        rw [← hn6] at hv6
        have hn6b : n6 ≤ i := by rw [hn6]; exact HRW.out _ (List.getElem_mem hpF2)
        have e0 : wr.cell? ⟨g4, p, none⟩ = some (.slice a6 n6 c6) := by
          rw [HNX.out.2.1.cellAt p (by omega), List.getElem?_eq_getElem hpv, hv6]
        have hTw := (HT.out.kept HW.out.2.2.1) i h1
        obtain ⟨ga, rfl, t0, t1, t2⟩ := hTw
        obtain ⟨t, ht⟩ : ∃ t, t = L[i] := ⟨_, rfl⟩
        obtain ⟨x, y, kk⟩ := t
        rw [← ht] at t0 t1 t2 HGG
        dsimp only at t0 t1 t2
        have HS1 : Hid (w1.cell? ⟨pb, 0, none⟩ = some (.slice (some ⟨ga, 0, none⟩) L.length cc) ∧ w1.cell? ⟨ga, i * 3, none⟩ = some (.int .i64 x) ∧ w1.cell? ⟨ga, i * 3 + 1, none⟩ = some (.int .i64 y) ∧ w1.cell? ⟨ga, i * 3 + 2, none⟩ = some (.int .i64 kk)) := ⟨HPC.out, t0, t1, t2⟩
        have HSX : Hid (∀ wx : World, Below w1.heap.size w1 wx → wx.cell? ⟨pb, 0, none⟩ = some (.slice (some ⟨ga, 0, none⟩) L.length cc) ∧ wx.cell? ⟨ga, i * 3, none⟩ = some (.int .i64 x) ∧ wx.cell? ⟨ga, i * 3 + 1, none⟩ = some (.int .i64 y) ∧ wx.cell? ⟨ga, i * 3 + 2, none⟩ = some (.int .i64 kk)) := fun wx hx => ⟨cl_kept hx HS1.out.1, cl_kept hx HS1.out.2.1, cl_kept hx HS1.out.2.2.1, cl_kept hx HS1.out.2.2.2⟩
        clear ht t0 t1 t2
        have hBA : Below w1.heap.size w1 ((wr.alloc (.cells #[.int .i64 x, .int .i64 y, .int .i64 kk] 43)).drew) := bl_drew (bl_alloc HBX.out)
        have hNA : NestV ((wr.alloc (.cells #[.int .i64 x, .int .i64 y, .int .i64 kk] 43)).drew) w1.heap.size (.slice (some ⟨g4, 0, none⟩) F.length c4) F VS := HNX.out.kept (bl_drew (bl_alloc (bl_refl _)))
        have hinA := hNA.2.2.1 p hpv hpF2
        rw [hv6, ← hn6] at hinA
        obtain ⟨u, w5, hr, ho5, hg5, hn5, hob5⟩ := run_append_own_at (P := Tryz.prog) ((wr.alloc (.cells #[.int .i64 x, .int .i64 y, .int .i64 kk] 43)).drew) w1.heap.size 44 44 43 iT (.agg #[.int .i64 0, .int .i64 0, .int .i64 0]) 3 24 Tryz.underlying44 HI2.out.1 HI2.out.2.1 HI2.out.2.2.1 HI2.out.2.2.2 rfl (by decide) (.slice a6 n6 c6) n6 (flatV F[p]) hinA ⟨wr.heap.size, 0, none⟩ 1 1 [.int .i64 x, .int .i64 y, .int .i64 kk] rfl (cell_three_new _ _ _ _) (by intro u hu; simp at hu; rcases hu with rfl | rfl | rfl <;> rfl) (by unfold maxLen; omega) (by omega) (by have := hBA.size; exact this)
        obtain ⟨a7, c7, rfl, hg7⟩ := own_form ho5
        have hB5 : Below w1.heap.size w1 w5 := hBA.grown hg5 hBA.size (own_base hinA)
        have hP := hNA.put hpv hpF2 (t := (x, y, kk)) (by rw [← hn6]; exact ho5) (by rw [hv6]; exact hg5) (by rw [hv6]; simpa using hob5)
        have hv5 := hNA.outer hpv (by rw [hv6]; exact hg5)
        have hg4 : w1.heap.size ≤ g4 := own_base HNX.out.2.1 g4 rfl
        have q0 : w5.cell? ⟨g4, p, none⟩ = some (.slice a6 n6 c6) := by
          rw [hv5.cellAt p (by omega), List.getElem?_eq_getElem hpv, hv6]
        have q1 : w5.frozen? ⟨g4, p, none⟩ = false := hv5.frozenAt p
        have HP : Hid (NestV (w5.setCell ⟨g4, p, none⟩ (.slice a7 (n6 + 1) c7)) w1.heap.size (.slice (some ⟨g4, 0, none⟩) F.length c4) (F.set p (F[p] ++ [(x, y, kk)])) (VS.set p (.slice a7 (n6 + 1) c7))) := hP
        have HB5 : Hid (Below w1.heap.size w1 w5 ∧ Below w1.heap.size w1 (w5.setCell ⟨g4, p, none⟩ (.slice a7 (n6 + 1) c7))) := ⟨hB5, bl_set hB5 hg4⟩
        have e0a : (wr.alloc (.cells #[.int .i64 x, .int .i64 y, .int .i64 kk] 43)).cell? ⟨g4, p, none⟩ = some (.slice a6 n6 c6) := al_old e0
        have HSA := HSX.out _ hBA
        have HAL : Hid (Below w1.heap.size w1 (wr.alloc (.cells #[.int .i64 x, .int .i64 y, .int .i64 kk] 43)).drew) := hBA
        clear hBA hNA hinA ho5 hg5 hn5 hob5 hB5 hP hv5 hin hv6 hg6 hg7 hn6 HSA
        refine wp_region_held_drew (S := fun w' => w'.cell? ⟨pb, 0, none⟩ = some (.slice (some ⟨ga, 0, none⟩) L.length cc) ∧ w'.cell? ⟨ga, i * 3, none⟩ = some (.int .i64 x) ∧ w'.cell? ⟨ga, i * 3 + 1, none⟩ = some (.int .i64 y) ∧ w'.cell? ⟨ga, i * 3 + 2, none⟩ = some (.int .i64 kk)) (by kernel_rfl) (HSX.out _ (bl_drew HBX.out)) (fun hHeld => ?_)
        refine wpAnyH_take (i := 0) (v := .slice (some ⟨g4, 0, none⟩) F.length c4) rfl (by kernel_rfl) (by kernel_rfl) (by kernel_rfl) (fun _ _ _ h => h) (Or.inl ⟨by rfl, ?hyy⟩) (by assumption) ?_
        case hyy => (intro w' hSw; (try dsimp only at hSw); go_simp)
        try simp only [Act.put, List.getElem_toArray, List.getElem_cons_zero, List.setIfInBounds_toArray, List.set_cons_zero, List.set_cons_succ]
        refine wpAnyH_take (i := 1) (v := .int .i64 (p : Int)) rfl (by kernel_rfl) (by kernel_rfl) (by kernel_rfl) (fun _ _ _ h => h) (Or.inl ⟨by rfl, ?hyy⟩) (by assumption) ?_
        case hyy => (intro w' hSw; (try dsimp only at hSw); go_simp)
        try simp only [Act.put, List.getElem_toArray, List.getElem_cons_succ, List.getElem_cons_zero, List.setIfInBounds_toArray, List.set_cons_zero, List.set_cons_succ]
        refine wpAnyH_take (i := 2) (v := .slice (some ⟨g4, 0, none⟩) F.length c4) rfl (by kernel_rfl) (by kernel_rfl) (by kernel_rfl) (fun _ _ _ h => h) (Or.inl ⟨by rfl, ?hyy⟩) (by assumption) ?_
        case hyy => (intro w' hSw; (try dsimp only at hSw); go_simp)
        try simp only [Act.put, List.getElem_toArray, List.getElem_cons_succ, List.getElem_cons_zero, List.setIfInBounds_toArray, List.set_cons_zero, List.set_cons_succ]
        refine wpAnyH_take (i := 3) (v := .int .i64 (p : Int)) rfl (by kernel_rfl) (by kernel_rfl) (by kernel_rfl) (fun _ _ _ h => h) (Or.inl ⟨by rfl, ?hyy⟩) (by assumption) ?_
        case hyy => (intro w' hSw; (try dsimp only at hSw); go_simp)
        try simp only [Act.put, List.getElem_toArray, List.getElem_cons_succ, List.getElem_cons_zero, List.setIfInBounds_toArray, List.set_cons_zero, List.set_cons_succ]
        refine wpAnyH_take (i := 4) (v := .pointer (some ⟨g4, p, none⟩)) rfl (by kernel_rfl) (by kernel_rfl) (by kernel_rfl) (fun _ _ _ h => h) (Or.inl ⟨by rfl, ?hyy⟩) (by assumption) ?_
        case hyy => (intro w' hSw; (try dsimp only at hSw); go_simp)
        try simp only [Act.put, List.getElem_toArray, List.getElem_cons_succ, List.getElem_cons_zero, List.setIfInBounds_toArray, List.set_cons_zero, List.set_cons_succ]
        refine wpAnyH_take (i := 6) (v := .pointer (some ⟨pb, 0, none⟩)) rfl (by kernel_rfl) (by kernel_rfl) (by kernel_rfl) (fun _ _ _ h => h) (Or.inl ⟨by rfl, ?hyy⟩) (by assumption) ?_
        case hyy => (intro w' hSw; (try dsimp only at hSw); go_simp)
        try simp only [Act.put, List.getElem_toArray, List.getElem_cons_succ, List.getElem_cons_zero, List.setIfInBounds_toArray, List.set_cons_zero, List.set_cons_succ]
        refine wpAnyH_take (i := 7) (v := .slice (some ⟨ga, 0, none⟩) L.length cc) rfl (by kernel_rfl) (by kernel_rfl) (by kernel_rfl) (fun _ _ _ h => h) (Or.inl ⟨by rfl, ?hyy⟩) (by assumption) ?_
        case hyy => (intro w' hSw; (try dsimp only at hSw); go_simp)
        try simp only [Act.put, List.getElem_toArray, List.getElem_cons_succ, List.getElem_cons_zero, List.setIfInBounds_toArray, List.set_cons_zero, List.set_cons_succ]
        refine wpAnyH_take (i := 8) (v := .int .i64 (i : Int)) rfl (by kernel_rfl) (by kernel_rfl) (by kernel_rfl) (fun _ _ _ h => h) (Or.inl ⟨by rfl, ?hyy⟩) (by assumption) ?_
        case hyy => (intro w' hSw; (try dsimp only at hSw); go_simp)
        try simp only [Act.put, List.getElem_toArray, List.getElem_cons_succ, List.getElem_cons_zero, List.setIfInBounds_toArray, List.set_cons_zero, List.set_cons_succ]
        refine wpAnyH_take (i := 9) (v := .pointer (some ⟨ga, i * 3, none⟩)) rfl (by kernel_rfl) (by kernel_rfl) (by kernel_rfl) (fun _ _ _ h => h) (Or.inl ⟨by rfl, ?hyy⟩) (by assumption) ?_
        case hyy => (intro w' hSw; (try dsimp only at hSw); go_simp)
        try simp only [Act.put, List.getElem_toArray, List.getElem_cons_succ, List.getElem_cons_zero, List.setIfInBounds_toArray, List.set_cons_zero, List.set_cons_succ]
        refine wpAnyH_take (i := 10) (v := .agg #[.int .i64 x, .int .i64 y, .int .i64 kk]) rfl (by kernel_rfl) (by kernel_rfl) (by kernel_rfl) (fun _ _ _ h => h) (Or.inl ⟨by rfl, ?hyy⟩) (by assumption) ?_
        case hyy => (intro w' hSw; (try dsimp only at hSw); go_simp)
        try simp only [Act.put, List.getElem_toArray, List.getElem_cons_succ, List.getElem_cons_zero, List.setIfInBounds_toArray, List.set_cons_zero, List.set_cons_succ]
        refine wpAnyH_ready (rs := [5, 11]) (by kernel_rfl) (by simp) ?_
        refine AllReadyH.cons rfl (fun K hK => ?_) (AllReadyH.cons rfl (fun K hK => ?_) AllReadyH.nil)
        · go_simp
          refine hK.out _ _ (HSX.out _ (bl_drew HBX.out)) (fun hHd => ?_)
          clear hK K
          try simp only [Act.put, List.getElem_toArray, List.getElem_cons_succ, List.getElem_cons_zero, List.setIfInBounds_toArray, List.set_cons_zero, List.set_cons_succ]
          refine wpAnyH_ready (rs := [11]) (by kernel_rfl) (by simp) ?_
          refine AllReadyH.cons rfl (fun K hK => ?_) AllReadyH.nil
          go_simp
          refine hK.out _ _ (HSX.out _ HAL.out) (fun hHd => ?_)
          clear hK K
          try simp only [Act.put, List.getElem_toArray, List.getElem_cons_succ, List.getElem_cons_zero, List.setIfInBounds_toArray, List.set_cons_zero, List.set_cons_succ]
          refine wpAnyH_ready (rs := [12]) (by kernel_rfl) (by simp) ?_
          refine AllReadyH.cons rfl (fun K hK => ?_) AllReadyH.nil
          rw [if_pos (by rfl)]
          refine wp_append_run (.tmp 27) (.tmp 33) 44 rfl _ _ (.slice a7 (n6 + 1) c7) w5 rfl rfl hr ?_
          refine hK.out _ _ (HSX.out _ HB5.out.1) (fun hHd => ?_)
          clear hK K
          try simp only [Act.put, List.getElem_toArray, List.getElem_cons_succ, List.getElem_cons_zero, List.setIfInBounds_toArray, List.set_cons_zero, List.set_cons_succ]
          refine wpAnyH_take (i := 13) (v := .pointer (some ⟨g4, p, none⟩)) rfl (by kernel_rfl) (by kernel_rfl) (by kernel_rfl) (fun _ _ _ h => h) (Or.inl ⟨by rfl, ?hyy⟩) (by assumption) ?_
          case hyy => (intro w' hSw; (try dsimp only at hSw); go_simp)
          try simp only [Act.put, List.getElem_toArray, List.getElem_cons_succ, List.getElem_cons_zero, List.setIfInBounds_toArray, List.set_cons_zero, List.set_cons_succ]
          refine wpAnyH_ready (rs := [14]) (by kernel_rfl) (by simp) ?_
          refine AllReadyH.cons rfl (fun K hK => ?_) AllReadyH.nil
          go_simp
          refine hK.out _ _ (HSX.out _ HB5.out.2) (fun hHd => ?_)
          clear hK K
          try simp only [Act.put, List.getElem_toArray, List.getElem_cons_succ, List.getElem_cons_zero, List.setIfInBounds_toArray, List.set_cons_zero, List.set_cons_succ]
          refine wpAnyH_done (by kernel_rfl) ?_ _
          go_wp2
          go_roundg (L.length - (i + 1))
          case measure => omega
          case rel => exact ⟨i + 1, by omega, rfl, by go_num, ⟨_, by rw [HGG.out, List.getD_eq_getElem?_getD, List.getElem?_eq_getElem hpF2]; simpa using HP.out⟩, HB5.out.2⟩
        · go_simp
          refine hK.out _ _ (HSX.out _ HAL.out) (fun hHd => ?_)
          clear hK K
          try simp only [Act.put, List.getElem_toArray, List.getElem_cons_succ, List.getElem_cons_zero, List.setIfInBounds_toArray, List.set_cons_zero, List.set_cons_succ]
          refine wpAnyH_ready (rs := [5]) (by kernel_rfl) (by simp) ?_
          refine AllReadyH.cons rfl (fun K hK => ?_) AllReadyH.nil
          go_simp
          refine hK.out _ _ (HSX.out _ HAL.out) (fun hHd => ?_)
          clear hK K
          try simp only [Act.put, List.getElem_toArray, List.getElem_cons_succ, List.getElem_cons_zero, List.setIfInBounds_toArray, List.set_cons_zero, List.set_cons_succ]
          refine wpAnyH_ready (rs := [12]) (by kernel_rfl) (by simp) ?_
          refine AllReadyH.cons rfl (fun K hK => ?_) AllReadyH.nil
          rw [if_pos (by rfl)]
          refine wp_append_run (.tmp 27) (.tmp 33) 44 rfl _ _ (.slice a7 (n6 + 1) c7) w5 rfl rfl hr ?_
          refine hK.out _ _ (HSX.out _ HB5.out.1) (fun hHd => ?_)
          clear hK K
          try simp only [Act.put, List.getElem_toArray, List.getElem_cons_succ, List.getElem_cons_zero, List.setIfInBounds_toArray, List.set_cons_zero, List.set_cons_succ]
          refine wpAnyH_take (i := 13) (v := .pointer (some ⟨g4, p, none⟩)) rfl (by kernel_rfl) (by kernel_rfl) (by kernel_rfl) (fun _ _ _ h => h) (Or.inl ⟨by rfl, ?hyy⟩) (by assumption) ?_
          case hyy => (intro w' hSw; (try dsimp only at hSw); go_simp)
          try simp only [Act.put, List.getElem_toArray, List.getElem_cons_succ, List.getElem_cons_zero, List.setIfInBounds_toArray, List.set_cons_zero, List.set_cons_succ]
          refine wpAnyH_ready (rs := [14]) (by kernel_rfl) (by simp) ?_
          refine AllReadyH.cons rfl (fun K hK => ?_) AllReadyH.nil
          go_simp
          refine hK.out _ _ (HSX.out _ HB5.out.2) (fun hHd => ?_)
          clear hK K
          try simp only [Act.put, List.getElem_toArray, List.getElem_cons_succ, List.getElem_cons_zero, List.setIfInBounds_toArray, List.set_cons_zero, List.set_cons_succ]
          refine wpAnyH_done (by kernel_rfl) ?_ _
          go_wp2
          go_roundg (L.length - (i + 1))
          case measure => omega
          case rel => exact ⟨i + 1, by omega, rfl, by go_num, ⟨_, by rw [HGG.out, List.getD_eq_getElem?_getD, List.getElem?_eq_getElem hpF2]; simpa using HP.out⟩, HB5.out.2⟩
    · have i1 : ¬ (i : Int) < (L.length : Int) := by omega
      obtain rfl : i = L.length := by omega
      go_wp2
      exact bodyPost_ret (v := vA) (by simp [results, Tryz.results25, go_sem]) rfl ⟨vA, rfl, HF.out.1.mono HW.out.2.2.1.size, bl_via HW.out.2.2.1 HF.out.2⟩

theorem adjC_le {cr : Int × Int × Int × Int → Bool} {L : List (Int × Int × Int)} {who : Nat → Nat} (hnd : L.Nodup) (hk : ∀ t ∈ L, Kd t) (hO : ∀ i e, i < L.length → e < 3 → OkC cr L who i e) {a b : Nat} (ha : a < L.length) (hb : b < L.length) (h : AdjC cr L[a] L[b]) : who a ≤ who b := by
  obtain ⟨hne, e, e1, e2, e3⟩ := h
  obtain ⟨k, hk3, hke⟩ := hasT_edg e1
  have h1 := hO a k ha hk3 ha (by rw [hke]; exact e3) b hb
  apply h1
  rw [hke, ← acr_is (hk _ (List.getElem_mem ha)) (hk _ (List.getElem_mem hb)) e1 e2 hne]
  unfold plc
  rw [if_pos (List.getElem_mem hb)]
  have : L.idxOf L[b] = b := hnd.idxOf_getElem b hb
  rw [this]
theorem reachC_who {cr : Int × Int × Int × Int → Bool} {L : List (Int × Int × Int)} {f : Nat → Int} (hnd : L.Nodup) (hA : ∀ a b (ha : a < L.length) (hb : b < L.length), AdjC cr L[a] L[b] → f a = f b) {a b : Nat} (ha : a < L.length) (hb : b < L.length) (h : ReachC cr L L[a] L[b]) : f a = f b := by
  have h1 := h.2 (fun u => u ∈ L ∧ ∀ c (hc : c < L.length), L[c] = u → f a = f c) ⟨List.getElem_mem ha, fun c hc e => by
    have : c = a := by rw [← hnd.idxOf_getElem c hc, e, hnd.idxOf_getElem a ha]
    rw [this]⟩ (fun u v hu hv huv => by
    refine ⟨hv, fun c hc e => ?_⟩
    obtain ⟨d, hd, e2⟩ := List.getElem_of_mem hu.1
    have h3 := hu.2 d hd e2
    rw [h3]
    exact hA d c hd hc (by rw [e, e2]; exact huv))
  exact h1.2 b hb rfl
theorem same_group {cr : Int × Int × Int × Int → Bool} {L : List (Int × Int × Int)} {who : Nat → Nat} {part : Nat → Int} (hnd : L.Nodup) (hk : ∀ t ∈ L, Kd t) (hP : PartsOk cr L part) (hI : InvC cr L who) (hO : ∀ i e, i < L.length → e < 3 → OkC cr L who i e) {a b : Nat} (ha : a < L.length) (hb : b < L.length) : who a = who b ↔ part a = part b := by
  have hw : ∀ a b (ha : a < L.length) (hb : b < L.length), AdjC cr L[a] L[b] → ((who a : Int)) = (who b : Int) := fun a b ha hb h => by
    have h1 := adjC_le hnd hk hO ha hb h
    have h2 := adjC_le hnd hk hO hb ha h.symm
    omega
  constructor
  · intro e
    obtain ⟨_, q1, r1⟩ := hI a ha
    obtain ⟨_, q2, r2⟩ := hI b hb
    have r3 : ReachC cr L L[a] L[b] := by
      have r2' := r2.symm
      have e2 : L[who b] = L[who a] := by simp only [e]
      rw [e2] at r2'
      exact r1.trans r2'
    exact reachC_who hnd (fun a b ha hb h => (hP.2.1 a b ha hb h).symm) ha hb r3
  · intro e
    have h1 := reachC_who (f := fun a => (who a : Int)) hnd hw ha hb (hP.2.2.1 a b ha hb e)
    omega
theorem first_group {cr : Int × Int × Int × Int → Bool} {L : List (Int × Int × Int)} {who : Nat → Nat} {part : Nat → Int} (hnd : L.Nodup) (hk : ∀ t ∈ L, Kd t) (hP : PartsOk cr L part) (hI : InvC cr L who) (hO : ∀ i e, i < L.length → e < 3 → OkC cr L who i e) {i : Nat} (hi : i < L.length) : who i = i ↔ ∀ b, b < i → part b ≠ part i := by
  constructor
  · intro e b hb he
    have h1 := (same_group hnd hk hP hI hO (by omega : b < L.length) hi).2 he
    have h2 := (hI b (by omega)).1
    omega
  · intro h
    obtain ⟨h1, q, r⟩ := hI i hi
    rcases Nat.lt_or_ge (who i) i with h2 | h2
    · have h3 := reachC_who hnd (fun a b ha hb h => (hP.2.1 a b ha hb h).symm) hi q r
      exact absurd h3.symm (h _ h2)
    · omega
/-- Those of a number, of the first k. -/
def selP (L : List (Int × Int × Int)) (part : Nat → Int) (c : Int) : Nat → List (Int × Int × Int)
  | 0 => []
  | k + 1 => if part k = c then selP L part c k ++ [L.getD k (0, 0, 0)] else selP L part c k
theorem sel_selP {L : List (Int × Int × Int)} {who : Nat → Nat} {part : Nat → Int} {i : Nat} {c : Int} : ∀ k, (∀ a, a < k → (who a = i ↔ part a = c)) → sel L who i k = selP L part c k
  | 0, _ => rfl
  | k + 1, h => by
    unfold sel selP
    rw [sel_selP k (fun a ha => h a (by omega))]
    by_cases e : who k = i
    · rw [if_pos e, if_pos ((h k (by omega)).1 e)]
    · rw [if_neg e, if_neg (fun q => e ((h k (by omega)).2 q))]
theorem selP_none {L : List (Int × Int × Int)} {part : Nat → Int} {c : Int} : ∀ k, (∀ a, a < k → part a ≠ c) → selP L part c k = []
  | 0, _ => rfl
  | k + 1, h => by
    unfold selP
    rw [if_neg (h k (by omega)), selP_none k (fun a ha => h a (by omega))]
theorem fcs_eq {L : List (Int × Int × Int)} {part : Nat → Int} {n : Nat} (h : NumOk part n) : ∀ i, i ≤ n → fcs L part i = (List.range (fcs L part i).length).map fun c : Nat => selP L part (c : Int) i
  | 0, _ => by simp [fcs]
  | i + 1, hi => by
    have ih := fcs_eq (L := L) h i (by omega)
    obtain ⟨h1, h2⟩ := fcs_has L part h i (by omega)
    have h3 := h2 (by omega)
    have h0 := h.1 i (by omega)
    obtain ⟨p, hp⟩ : ∃ p : Nat, part i = (p : Int) := ⟨(part i).toNat, by omega⟩
    have hpn : (part i).toNat = p := by omega
    have hl : (fcs L part (i + 1)).length = if p = (fcs L part i).length then (fcs L part i).length + 1 else (fcs L part i).length := by rw [fcs, putF_len, hpn]
    refine List.ext_getElem (by simp) (fun m hm1 hm2 => ?_)
    rw [List.getElem_map, List.getElem_range]
    have hs : selP L part (m : Int) (i + 1) = if p = m then selP L part (m : Int) i ++ [L.getD i (0, 0, 0)] else selP L part (m : Int) i := by
      rw [selP]
      by_cases e : p = m
      · rw [if_pos (by omega), if_pos e]
      · rw [if_neg (by omega), if_neg e]
    rw [hs]
    have hg : ∀ (q : m < (fcs L part i).length), (fcs L part i)[m] = selP L part (m : Int) i := fun q => by
      have := congrArg (fun l => l[m]?) ih
      simp only [List.getElem?_map] at this
      rw [List.getElem?_eq_getElem q, List.getElem?_range q] at this
      simpa using this
    have hgg : ∀ (q : m < (grwF (fcs L part i) p).length), (grwF (fcs L part i) p)[m] = selP L part (m : Int) i := fun q => by
      by_cases e : m < (fcs L part i).length
      · rw [← hg e]
        simp only [grwF]
        split
        · exact List.getElem_append_left e
        · rfl
      · have q2 := q
        rw [grwF_len] at q2
        have e2 : p = (fcs L part i).length := by
          by_cases e3 : p = (fcs L part i).length
          · exact e3
          · rw [if_neg e3] at q2
            omega
        rw [if_pos e2] at q2
        have e4 : m = (fcs L part i).length := by omega
        rw [selP_none i (fun a ha q3 => by have := h1 a ha; omega)]
        simp only [grwF, if_pos e2]
        subst e4
        simp
    have hm3 : m < (grwF (fcs L part i) p).length := by
      rw [grwF_len, ← hl]
      exact hm1
    simp only [fcs, putF, hpn]
    by_cases e : p = m
    · subst e
      rw [if_pos rfl, List.getElem_set_self, List.getD_eq_getElem?_getD, List.getElem?_eq_getElem hm3, Option.getD_some, hgg hm3]
    · rw [if_neg e, List.getElem_set_ne e, hgg hm3]
/-- Each number below has come up. -/
theorem fcs_come (L : List (Int × Int × Int)) (part : Nat → Int) {n : Nat} (h : NumOk part n) : ∀ i, i ≤ n → ∀ c : Nat, c < (fcs L part i).length → ∃ b, b < i ∧ part b = (c : Int)
  | 0, _, c, hc => by simp [fcs] at hc
  | i + 1, hi, c, hc => by
    have h0 := h.1 i (by omega)
    have h3 := (fcs_has L part h i (by omega)).2 (by omega)
    rw [fcs, putF_len] at hc
    by_cases e : c < (fcs L part i).length
    · obtain ⟨b, hb, he⟩ := fcs_come L part h i (by omega) c e
      exact ⟨b, by omega, he⟩
    · split at hc
      · exact ⟨i, by omega, by omega⟩
      · omega
theorem rfs_eq {cr : Int × Int × Int × Int → Bool} {L : List (Int × Int × Int)} {who : Nat → Nat} {part : Nat → Int} (hnd : L.Nodup) (hk : ∀ t ∈ L, Kd t) (hP : PartsOk cr L part) (hI : InvC cr L who) (hO : ∀ i e, i < L.length → e < 3 → OkC cr L who i e) : ∀ i, i ≤ L.length → rfs L who i = (List.range (fcs L part i).length).map fun c : Nat => selP L part (c : Int) L.length
  | 0, _ => by simp [rfs, fcs]
  | i + 1, hi => by
    have ih := rfs_eq hnd hk hP hI hO i (by omega)
    have h0 := hP.1 i (by omega)
    obtain ⟨h1, h2⟩ := fcs_has L part hP.num i (by omega)
    have h3 := h2 (by omega)
    have hl : (fcs L part (i + 1)).length = if (part i).toNat = (fcs L part i).length then (fcs L part i).length + 1 else (fcs L part i).length := by rw [fcs, putF_len]
    by_cases e : (part i).toNat = (fcs L part i).length
    · rw [if_pos e] at hl
      have hw : who i = i := (first_group hnd hk hP hI hO (by omega)).2 (fun b hb q => by have := h1 b hb; omega)
      rw [rfs, if_pos hw, ih, hl, List.range_succ, List.map_append]
      congr 1
      simp only [List.map_cons, List.map_nil]
      congr 1
      refine sel_selP L.length (fun a ha => ?_)
      have h5 := same_group hnd hk hP hI hO ha (by omega : i < L.length)
      rw [hw] at h5
      rw [h5]
      constructor
      · intro q
        omega
      · intro q
        omega
    · rw [if_neg e] at hl
      have hw : ¬ who i = i := fun q => by
        obtain ⟨b, hb, he⟩ := fcs_come L part hP.num i (by omega) (part i).toNat (by omega)
        exact (first_group hnd hk hP hI hO (by omega)).1 q b hb (by omega)
      rw [rfs, if_neg hw, ih, hl]
/-- The two ways come to the same lists. -/
theorem faces_same {cr : Int × Int × Int × Int → Bool} {L : List (Int × Int × Int)} {who : Nat → Nat} {part : Nat → Int} (hnd : L.Nodup) (hk : ∀ t ∈ L, Kd t) (hP : PartsOk cr L part) (hI : InvC cr L who) (hO : ∀ i e, i < L.length → e < 3 → OkC cr L who i e) : fcs L part L.length = rfs L who L.length := by
  rw [rfs_eq hnd hk hP hI hO L.length (Nat.le_refl _)]
  exact fcs_eq hP.num L.length (Nat.le_refl _)
end Go.Proofs.YtmjhfdohcghhoaaGreatDoor
