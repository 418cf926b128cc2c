/- Faces: the lists, and the question that the search asks. -/
import Derived.Test.YtoedcefbmbfnhabDoorNest
import Derived.Test.YtoedcefbmbfnhabDoorPrtf
import Derived.Test.YtoedcefbmbfnhabDoorPkan
namespace Go.Proofs.YtoedcefbmbfnhabDoor
open Go.RowKit

/-- A triangle is put into the list of its number; a new list is begun where the number is the next one. -/
def grwF (F : List (List (Int × Int × Int))) (p : Nat) : List (List (Int × Int × Int)) := if p = F.length then F ++ [[]] else F
def putF (F : List (List (Int × Int × Int))) (p : Nat) (t : Int × Int × Int) : List (List (Int × Int × Int)) := (grwF F p).set p ((grwF F p).getD p [] ++ [t])
def fcs (L : List (Int × Int × Int)) (part : Nat → Int) : Nat → List (List (Int × Int × Int))
  | 0 => []
  | i + 1 => putF (fcs L part i) (part i).toNat (L.getD i (0, 0, 0))
theorem grwF_len (F : List (List (Int × Int × Int))) (p : Nat) : (grwF F p).length = if p = F.length then F.length + 1 else F.length := by
  unfold grwF
  split <;> simp
theorem putF_len (F : List (List (Int × Int × Int))) (p : Nat) (t : Int × Int × Int) : (putF F p t).length = if p = F.length then F.length + 1 else F.length := by
  unfold putF
  rw [List.length_set, grwF_len]
theorem fcs_le (L : List (Int × Int × Int)) (part : Nat → Int) : ∀ i, (fcs L part i).length ≤ i
  | 0 => by simp [fcs]
  | i + 1 => by
    rw [fcs, putF_len]
    have := fcs_le L part i
    split <;> omega
theorem grwF_row {F : List (List (Int × Int × Int))} {p n : Nat} (h : ∀ f ∈ F, f.length ≤ n) : ∀ f ∈ grwF F p, f.length ≤ n := by
  intro f hf
  unfold grwF at hf
  split at hf
  · rcases List.mem_append.1 hf with q | q
    · exact h f q
    · simp at q
      subst q
      exact Nat.zero_le _
  · exact h f hf
theorem fcs_row (L : List (Int × Int × Int)) (part : Nat → Int) : ∀ i, ∀ f ∈ fcs L part i, f.length ≤ i
  | 0, f, hf => by simp [fcs] at hf
  | i + 1, f, hf => by
    have h1 := grwF_row (p := (part i).toNat) (fcs_row L part i)
    rw [fcs, putF] at hf
    rcases List.mem_or_eq_of_mem_set hf with q | q
    · have := h1 f q
      omega
    · subst q
      rw [List.length_append, List.getD_eq_getElem?_getD]
      cases e : (grwF (fcs L part i) (part i).toNat)[(part i).toNat]? with
      | none => simp
      | some f2 =>
        have := h1 f2 (List.mem_of_getElem? e)
        simp
        omega
/-- Each number is the next one, or one that has come up. -/
def NumOk (part : Nat → Int) (n : Nat) : Prop := (∀ a, a < n → 0 ≤ part a) ∧ ∀ a, a < n → ∀ c, 0 ≤ c → c < part a → ∃ b, b < a ∧ part b = c
theorem PartsOk.num {cr : Int × Int × Int × Int → Bool} {L : List (Int × Int × Int)} {part : Nat → Int} (h : PartsOk cr L part) : NumOk part L.length := ⟨h.1, h.2.2.2⟩
theorem fcs_has (L : List (Int × Int × Int)) (part : Nat → Int) {n : Nat} (h : NumOk part n) : ∀ i, i ≤ n → (∀ b, b < i → part b < ((fcs L part i).length : Int)) ∧ (i < n → part i ≤ ((fcs L part i).length : Int))
  | 0, hi => ⟨fun b hb => by omega, fun h0 => by
    rcases Int.lt_or_le 0 (part 0) with q | q
    · obtain ⟨b, hb, _⟩ := h.2 0 h0 0 (by omega) q
      omega
    · simpa [fcs] using q⟩
  | i + 1, hi => by
    obtain ⟨h1, h2⟩ := fcs_has L part h i (by omega)
    have h3 := h2 (by omega)
    have h0 := h.1 i (by omega)
    have hl : ((fcs L part (i + 1)).length : Int) = if part i = ((fcs L part i).length : Int) then ((fcs L part i).length : Int) + 1 else ((fcs L part i).length : Int) := by
      rw [fcs, putF_len]
      by_cases e : part i = ((fcs L part i).length : Int)
      · rw [if_pos e, if_pos (by omega)]
        omega
      · rw [if_neg e, if_neg (by omega)]
    have h4 : ∀ b, b < i + 1 → part b < ((fcs L part (i + 1)).length : Int) := fun b hb => by
      rw [hl]
      by_cases e : b = i
      · subst e
        split <;> omega
      · have := h1 b (by omega)
        split <;> omega
    refine ⟨h4, fun hn => ?_⟩
    rcases Int.lt_or_le ((fcs L part (i + 1)).length : Int) (part (i + 1)) with q | q
    · obtain ⟨b, hb, e⟩ := h.2 (i + 1) hn _ (by omega) q
      have := h4 b hb
      omega
    · exact q

/-- What the search asks of an edge. -/
theorem facesCl_any (w : World) (pb n cc ra rk : Nat) (ad : Option Addr) (kd : Int × Int × Int × Int → Int) (q0 q1 q2 q3 : Int) (hK : KL w rk kd) (p0 : w.cell? ⟨pb, 0, none⟩ = some (.slice ad n cc)) (p1 : w.cell? ⟨pb, 1, none⟩ = some (.map (some ra))) (p2 : w.cell? ⟨pb, 2, none⟩ = some (.map (some rk))) :
    Calls Tryd.prog 76 #[.agg #[.int .i64 q0, .int .i64 q1, .int .i64 q2, .int .i64 q3], .pointer (some ⟨pb, 0, none⟩)] w fun e w' => e = .returned (.bool (decide (kd (q0, q1, q2, q3) = 0))) ∧ Below w.heap.size w w' := by
  have CK : Hid (∀ W' : World, Below w.heap.size w W' → Calls Tryd.prog 77 #[.agg #[.slice ad n cc, .map (some ra), .map (some rk)], .agg #[.int .i64 q0, .int .i64 q1, .int .i64 q2, .int .i64 q3]] W' fun e w' => e = .returned (.int .i64 (kd (q0, q1, q2, q3))) ∧ Below W'.heap.size W' w') := fun W' hW' => kind_any W' ad n cc ra rk kd q0 q1 q2 q3 (hK.kept hW')
  have zp : pb < w.heap.size := World.block_lt_of_cell? _ _ p0
  clear hK
  obtain ⟨z, hz⟩ : ∃ z, z = kd (q0, q1, q2, q3) := ⟨_, rfl⟩
  rw [← hz] at CK ⊢
  clear hz
  go_enter Tryd.func76, Tryd.ntmps76
  go_wp2_with (go_at_call 77; refine (CK.out _ (by with_reducible exact bl_alloc (bl_refl _))).mono ?_; rintro e w2 ⟨rfl, hb⟩; have HB : Hid (Below w.heap.size w w2) := bl_via (bl_alloc (bl_refl _)) hb; clear hb)
  exact bodyPost_ret (v := .bool (decide (z = 0))) (by simp [results, Tryd.results76, go_sem]; rw [Bool.eq_iff_iff]; simp) rfl ⟨rfl, HB.out⟩
end Go.Proofs.YtoedcefbmbfnhabDoor
