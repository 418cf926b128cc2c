/- A part of the proof of sheetReads_holds. -/
import Derived.Test.YtehmoacggikfmaaGreatDoorQlac
import Derived.ArgAppend
import Derived.Laws.AppendOwnNone
import Derived.Test.YtehmoacggikfmaaGreatDoorQlad
import Derived.Deep.RegionHeld3
namespace Go.Proofs.YtehmoacggikfmaaGreatDoor
open Go.RowKit

/-- May a sheet's cells be? -/
def cellsB (W H : Int) (zs : List Int) : Bool := sideB W && sideB H && decide ((zs.length : Int) = W * H) && maskB zs


theorem run_append_nothing {P : Program} (w : World) (t ty e : TypeId) (i : TypeInfo) (ht : P.underlying t = some (.slice e)) (hi : P.info? e = some i) (ao : Option Addr) (c : Nat) :
    (Builtin.append_ #[t, t] ty #[.slice none 0 0, .slice ao 0 c]).run P w = .ok (.slice none 0 0) w := by
  cases ao <;> simp [Builtin.append_, run_underlying ht, run_sizeOf w hi, Builtin.lenOf, Builtin.firstCells, loadCells, loadCellsFrom]

theorem wpList_append_nothing {P : Program} (w : World) {ops : Array Oper} {rest : List Oper} {o : Oper} {a : Act} {Q : Exit → Act → World → Prop} (hgd : o.guard = none) (s x : Operand) (t : TypeId)
    (ho : o.op = .call { callee := .builtin .append, args := #[s, x], argTypes := #[t, t] })
    (e : TypeId) (i : TypeInfo) (ht : P.underlying t = some (.slice e)) (hi : P.info? e = some i) (ao : Option Addr) (c : Nat)
    (hs : a.eval s = .slice none 0 0) (hx : a.eval x = .slice ao 0 c)
    (h : wpList P ops Q rest (a.put o.dst (.slice none 0 0)) w) : wpList P ops Q (o :: rest) a w := by
  refine wpList_plain hgd fun K hK => ?_
  have hrun := run_append_nothing (P := P) w t o.type e i ht hi ao c
  unfold Oper.wp
  simp [execOp, ho, resolve, invoke, builtin, hs, hx, hrun, Result.andThen]
  exact hK _ _ h
attribute [local go_sem ↓] Go.wp_at_zero Go.wp_at_succ

theorem set_far {w : World} {p a : Addr} {u v : Value} (h : w.cell? a = some v) (hne : a.block ≠ p.block) : (w.setCell p u).cell? a = some v := by
  have := World.cell?_of_block (w := w) (w' := w.setCell p u) (a := a) (Below.heap_setCell w p u a.block hne)
  exact this.trans h

set_option maxRecDepth 100000 in
set_option maxHeartbeats 3200000 in
theorem edges_any (x y k : Int) (w : World) (h : triB x y k = true) (hs : Steps w) :
    Calls Tryz.prog 107 #[.agg #[.int .i64 x, .int .i64 y, .int .i64 k]] w fun r w' => r = .returned (.agg #[
      .int .i64 (eA (2 * x + 1) (2 * y + 1) (c1x x k) (c1y y k)), .int .i64 (eB (2 * x + 1) (2 * y + 1) (c1x x k) (c1y y k)), .int .i64 (eC (2 * x + 1) (2 * y + 1) (c1x x k) (c1y y k)), .int .i64 (eD (2 * x + 1) (2 * y + 1) (c1x x k) (c1y y k)),
      .int .i64 (eA (c1x x k) (c1y y k) (c2x x k) (c2y y k)), .int .i64 (eB (c1x x k) (c1y y k) (c2x x k) (c2y y k)), .int .i64 (eC (c1x x k) (c1y y k) (c2x x k) (c2y y k)), .int .i64 (eD (c1x x k) (c1y y k) (c2x x k) (c2y y k)),
      .int .i64 (eA (c2x x k) (c2y y k) (2 * x + 1) (2 * y + 1)), .int .i64 (eB (c2x x k) (c2y y k) (2 * x + 1) (2 * y + 1)), .int .i64 (eC (c2x x k) (c2y y k) (2 * x + 1) (2 * y + 1)), .int .i64 (eD (c2x x k) (c2y y k) (2 * x + 1) (2 * y + 1))]) ∧ Below w.heap.size w w' := by
  have HS : Hid (Steps w) := hs
  clear hs
  go_enter Tryz.func107, Tryz.ntmps107
  go_wp2_with (go_at_call 116; refine (corners_any _ _ _ _ h (HS.out.kept (bl_alloc (bl_alloc (bl_refl _))))).mono ?_; rintro r w1 ⟨rfl, hb⟩; have r0 : w1.cell? ⟨w.heap.size + 1, 0, none⟩ = some (.int .i64 0) := cell_kept hb (by simp [go_sem]); have f0 : w1.frozen? ⟨w.heap.size + 1, 0, none⟩ = false := (hb.frozen (p := ⟨w.heap.size + 1, 0, none⟩) (by simp)).trans (by simp [go_sem]); have r1 : w1.cell? ⟨w.heap.size + 1, 1, none⟩ = some (.int .i64 0) := cell_kept hb (by simp [go_sem]); have f1 : w1.frozen? ⟨w.heap.size + 1, 1, none⟩ = false := (hb.frozen (p := ⟨w.heap.size + 1, 1, none⟩) (by simp)).trans (by simp [go_sem]); have r2 : w1.cell? ⟨w.heap.size + 1, 2, none⟩ = some (.int .i64 0) := cell_kept hb (by simp [go_sem]); have f2 : w1.frozen? ⟨w.heap.size + 1, 2, none⟩ = false := (hb.frozen (p := ⟨w.heap.size + 1, 2, none⟩) (by simp)).trans (by simp [go_sem]); have r3 : w1.cell? ⟨w.heap.size + 1, 3, none⟩ = some (.int .i64 0) := cell_kept hb (by simp [go_sem]); have f3 : w1.frozen? ⟨w.heap.size + 1, 3, none⟩ = false := (hb.frozen (p := ⟨w.heap.size + 1, 3, none⟩) (by simp)).trans (by simp [go_sem]); have r4 : w1.cell? ⟨w.heap.size + 1, 4, none⟩ = some (.int .i64 0) := cell_kept hb (by simp [go_sem]); have f4 : w1.frozen? ⟨w.heap.size + 1, 4, none⟩ = false := (hb.frozen (p := ⟨w.heap.size + 1, 4, none⟩) (by simp)).trans (by simp [go_sem]); have r5 : w1.cell? ⟨w.heap.size + 1, 5, none⟩ = some (.int .i64 0) := cell_kept hb (by simp [go_sem]); have f5 : w1.frozen? ⟨w.heap.size + 1, 5, none⟩ = false := (hb.frozen (p := ⟨w.heap.size + 1, 5, none⟩) (by simp)).trans (by simp [go_sem]); have r6 : w1.cell? ⟨w.heap.size + 1, 6, none⟩ = some (.int .i64 0) := cell_kept hb (by simp [go_sem]); have f6 : w1.frozen? ⟨w.heap.size + 1, 6, none⟩ = false := (hb.frozen (p := ⟨w.heap.size + 1, 6, none⟩) (by simp)).trans (by simp [go_sem]); have r7 : w1.cell? ⟨w.heap.size + 1, 7, none⟩ = some (.int .i64 0) := cell_kept hb (by simp [go_sem]); have f7 : w1.frozen? ⟨w.heap.size + 1, 7, none⟩ = false := (hb.frozen (p := ⟨w.heap.size + 1, 7, none⟩) (by simp)).trans (by simp [go_sem]); have r8 : w1.cell? ⟨w.heap.size + 1, 8, none⟩ = some (.int .i64 0) := cell_kept hb (by simp [go_sem]); have f8 : w1.frozen? ⟨w.heap.size + 1, 8, none⟩ = false := (hb.frozen (p := ⟨w.heap.size + 1, 8, none⟩) (by simp)).trans (by simp [go_sem]); have r9 : w1.cell? ⟨w.heap.size + 1, 9, none⟩ = some (.int .i64 0) := cell_kept hb (by simp [go_sem]); have f9 : w1.frozen? ⟨w.heap.size + 1, 9, none⟩ = false := (hb.frozen (p := ⟨w.heap.size + 1, 9, none⟩) (by simp)).trans (by simp [go_sem]); have r10 : w1.cell? ⟨w.heap.size + 1, 10, none⟩ = some (.int .i64 0) := cell_kept hb (by simp [go_sem]); have f10 : w1.frozen? ⟨w.heap.size + 1, 10, none⟩ = false := (hb.frozen (p := ⟨w.heap.size + 1, 10, none⟩) (by simp)).trans (by simp [go_sem]); have r11 : w1.cell? ⟨w.heap.size + 1, 11, none⟩ = some (.int .i64 0) := cell_kept hb (by simp [go_sem]); have f11 : w1.frozen? ⟨w.heap.size + 1, 11, none⟩ = false := (hb.frozen (p := ⟨w.heap.size + 1, 11, none⟩) (by simp)).trans (by simp [go_sem]); have z0 : w.heap.size + 1 < w1.heap.size := World.block_lt_of_cell? (w := w1) (a := ⟨w.heap.size + 1, 0, none⟩) r0; have z1 : w.heap.size + 1 < w1.heap.size + 1 := (by omega); have z2 : w.heap.size + 1 < w1.heap.size + 1 + 1 := (by omega); have z3 : w.heap.size + 1 < w1.heap.size + 1 + 1 + 1 := (by omega); have z4 : w.heap.size + 1 < w1.heap.size + 1 + 1 + 1 + 1 := (by omega); have z5 : w.heap.size + 1 < w1.heap.size + 1 + 1 + 1 + 1 + 1 := (by omega); have z6 : w.heap.size + 1 < w1.heap.size + 1 + 1 + 1 + 1 + 1 + 1 := (by omega); have z7 : w.heap.size + 1 < w1.heap.size + 1 + 1 + 1 + 1 + 1 + 1 + 1 := (by omega); have z8 : w.heap.size + 1 < w1.heap.size + 1 + 1 + 1 + 1 + 1 + 1 + 1 + 1 := (by omega); have z9 : w.heap.size + 1 < w1.heap.size + 1 + 1 + 1 + 1 + 1 + 1 + 1 + 1 + 1 := (by omega); have z10 : w.heap.size + 1 < w1.heap.size + 1 + 1 + 1 + 1 + 1 + 1 + 1 + 1 + 1 + 1 := (by omega); have z11 : w.heap.size + 1 < w1.heap.size + 1 + 1 + 1 + 1 + 1 + 1 + 1 + 1 + 1 + 1 + 1 := (by omega); have HB : Hid (Below w.heap.size w w1) := bl_via (bl_alloc (bl_alloc (bl_refl _))) hb; clear hb)
  go_region_held3 (fun w' => w'.cell? ⟨w1.heap.size, 0, none⟩ = some (.int .i64 (2 * x + 1)) ∧ w'.cell? ⟨w1.heap.size, 1, none⟩ = some (.int .i64 (2 * y + 1)) ∧ w'.cell? ⟨w1.heap.size, 2, none⟩ = some (.int .i64 (c1x x k)) ∧ w'.cell? ⟨w1.heap.size, 3, none⟩ = some (.int .i64 (c1y y k)) ∧ w'.cell? ⟨w1.heap.size, 4, none⟩ = some (.int .i64 (c2x x k)) ∧ w'.cell? ⟨w1.heap.size, 5, none⟩ = some (.int .i64 (c2y y k)))
    ((refine ⟨?_, ?_, ?_, ?_, ?_, ?_⟩ <;> (first | (simp [go_sem]; done) | (simp [go_sem, World.cell?_alloc_past]; done) | (repeat' (first | (with_reducible refine set_far ?_ ?_) | (dsimp only; omega) | (simp [go_sem, World.cell?_alloc_past]; done))))))
    (first | (go_at_call 117; refine (edge_num _ _ _ _ _).mono ?_; rintro r w2 ⟨rfl, o3, o4, o5, rfl⟩))
  go_wp2
  refine bodyPost_ret (v := .agg #[ .int .i64 (eA (2 * x + 1) (2 * y + 1) (c1x x k) (c1y y k)), .int .i64 (eB (2 * x + 1) (2 * y + 1) (c1x x k) (c1y y k)), .int .i64 (eC (2 * x + 1) (2 * y + 1) (c1x x k) (c1y y k)), .int .i64 (eD (2 * x + 1) (2 * y + 1) (c1x x k) (c1y y k)), .int .i64 (eA (c1x x k) (c1y y k) (c2x x k) (c2y y k)), .int .i64 (eB (c1x x k) (c1y y k) (c2x x k) (c2y y k)), .int .i64 (eC (c1x x k) (c1y y k) (c2x x k) (c2y y k)), .int .i64 (eD (c1x x k) (c1y y k) (c2x x k) (c2y y k)), .int .i64 (eA (c2x x k) (c2y y k) (2 * x + 1) (2 * y + 1)), .int .i64 (eB (c2x x k) (c2y y k) (2 * x + 1) (2 * y + 1)), .int .i64 (eC (c2x x k) (c2y y k) (2 * x + 1) (2 * y + 1)), .int .i64 (eD (c2x x k) (c2y y k) (2 * x + 1) (2 * y + 1))]) ?_ rfl ⟨rfl, ?_⟩
  · simp [results, Tryz.results107, go_sem, World.cell?_alloc_past, *]
  · with_reducible repeat' (first | exact HB.out | refine bl_set ?_ ?_ | refine bl_alloc ?_ | refine bl_drew ?_)
    all_goals (dsimp only; omega)

theorem make_func (fn : Fn) (first cap : Array Value) (w : World) : (Instr.makeFunc fn first cap).run Tryz.prog w = .ok (.func fn first cap) w := rfl


section
variable {P : Program} {ops : Array Oper} {Q : Exit → Act → World → Prop} {S : World → Prop} {late : Nat → Bool}

/-- Whatever comes up next: behind what is not late S holds. -/
def Lt (P : Program) (ops : Array Oper) (Q : Exit → Act → World → Prop) (S : World → Prop) (late : Nat → Bool) : Nat → Array Bool → Act → World → Prop
  | 0, L, a, w => Region.ready .any ops L = [] ∧ Q .normal a w
  | n + 1, L, a, w => (Region.ready .any ops L = [] → Q .normal a w) ∧ ∀ i, i ∈ Region.ready .any ops L → wpOp P ops Q i (fun a' w' => (late i = false → S w') ∧ Lt P ops Q S late n (L.setIfInBounds i true) a' w') a w
theorem Lt.any : ∀ (n : Nat) (L : Array Bool) (a : Act) (w : World), Lt P ops Q S late n L a w → wpAny P .any ops Q n L a w
  | 0, _, _, _, h => h
  | n + 1, L, _, _, h => ⟨h.1, fun i hi => wpOp_mono (fun a' w' k => Lt.any n (L.setIfInBounds i true) a' w' k.2) (h.2 i hi)⟩
/-- What has come up came up behind all that it waits for. -/
def Clo (ops : Array Oper) (L : Array Bool) : Prop := ∀ j o, ops[j]? = some o → L.getD j false = true → ∀ e ∈ o.after, Region.binds .any e = true → L.getD e.on false = true
def cloB (ops : Array Oper) (L : Array Bool) : Bool := (List.range ops.size).all fun j => !(L.getD j false) || match ops[j]? with | some o => o.after.toList.all fun e => !(Region.binds .any e) || L.getD e.on false | none => true
theorem clo_of {L : Array Bool} (h : cloB ops L = true) : Clo ops L := fun j o ho hj e he hb => by
  have hlt : j < ops.size := by
    rcases Nat.lt_or_ge j ops.size with k | k
    · exact k
    · rw [Array.getElem?_eq_none k] at ho
      cases ho
  have h1 := List.all_eq_true.1 h j (List.mem_range.2 hlt)
  rw [hj, ho] at h1
  simp only [Bool.not_true, Bool.false_or] at h1
  have h2 := List.all_eq_true.1 h1 e (by simpa using he)
  rw [hb] at h2
  simpa using h2
/-- Number j waits for number i, by n steps at the most. -/
def Wt (ops : Array Oper) (i : Nat) : Nat → Nat → Prop
  | 0, _ => False
  | n + 1, j => ∃ o, ops[j]? = some o ∧ ∃ e, e ∈ o.after ∧ Region.binds .any e = true ∧ (e.on = i ∨ Wt ops i n e.on)
def wtB (ops : Array Oper) (i : Nat) : Nat → Nat → Bool
  | 0, _ => false
  | n + 1, j => match ops[j]? with | some o => o.after.toList.any fun e => Region.binds .any e && (e.on == i || wtB ops i n e.on) | none => false
theorem wt_of {i : Nat} : ∀ (n j : Nat), wtB ops i n j = true → Wt ops i n j
  | 0, _, h => by cases h
  | n + 1, j, h => by
    unfold wtB at h
    cases ho : ops[j]? with
    | none => rw [ho] at h; cases h
    | some o =>
      rw [ho] at h
      obtain ⟨e, he, h2⟩ := List.any_eq_true.1 h
      rw [Bool.and_eq_true, Bool.or_eq_true] at h2
      refine ⟨o, ho, e, by simpa using he, h2.1, ?_⟩
      rcases h2.2 with h3 | h3
      · exact Or.inl (by simpa using h3)
      · exact Or.inr (wt_of n e.on h3)
theorem wt_came {i : Nat} {L : Array Bool} (hc : Clo ops L) : ∀ (n j : Nat), Wt ops i n j → (∀ o, ops[j]? = some o → ∀ e ∈ o.after, Region.binds .any e = true → L.getD e.on false = true) → L.getD i false = true
  | 0, _, h, _ => h.elim
  | n + 1, j, ⟨o, ho, e, he, hb, h⟩, hj => by
    have h1 := hj o ho e he hb
    rcases h with h | h
    · rw [h] at h1
      exact h1
    · exact wt_came hc n e.on h (fun o2 ho2 e2 he2 hb2 => hc e.on o2 ho2 h1 e2 he2 hb2)
/-- What is late waits for number i. -/
def Wts (ops : Array Oper) (late : Nat → Bool) (i : Nat) : Prop := ∀ j o, ops[j]? = some o → late j = true → Wt ops i 8 j
def wtsB (ops : Array Oper) (late : Nat → Bool) (i : Nat) : Bool := (List.range ops.size).all fun j => !(late j) || wtB ops i 8 j
theorem wts_of {i : Nat} (h : wtsB ops late i = true) : Wts ops late i := fun j o ho hj => by
  have hlt : j < ops.size := by
    rcases Nat.lt_or_ge j ops.size with k | k
    · exact k
    · rw [Array.getElem?_eq_none k] at ho
      cases ho
  have h1 := List.all_eq_true.1 h j (List.mem_range.2 hlt)
  rw [hj] at h1
  exact wt_of 8 j (by simpa using h1)
theorem getD_apart {L : Array Bool} {i : Nat} (h : L.getD i true = false) : L.getD i false = false := by
  rcases Nat.lt_or_ge i L.size with k | k
  · simp [k] at h ⊢
    exact h
  · simp [Array.getElem?_eq_none k] at h
theorem clo_set {L : Array Bool} (h : Clo ops L) {j : Nat} (hj : j ∈ Region.ready .any ops L) : Clo ops (L.setIfInBounds j true) := fun k o ho hk e he hb => by
  obtain ⟨_, oj, hoj, hall⟩ := mem_ready.1 hj
  refine getD_set_true ?_
  by_cases e1 : j = k
  · subst e1
    rw [hoj] at ho
    cases ho
    exact hall e he hb
  · rw [getD_set_ne false e1] at hk
    exact h k o ho hk e he hb
theorem Lt.first {i : Nat} {oi : Oper} {v : Value} (hi : ops[i]? = some oi) (hns : Region.noSelect ops = true) (hQ : ∀ c a w, Q (.panic c) (a.put oi.dst v) w → Q (.panic c) a w) (hw : Wts ops late i) (hli : late i = false) :
    ∀ (n : Nat) (L : Array Bool) (a : Act) (w : World), Clo ops L → (∀ j oj, ops[j]? = some oj → j ≠ i → L.getD j true = false → (∀ e ∈ oj.after, Region.binds .any e = true → e.on ≠ i) → oi.apart ops oj = true) →
      i ∈ Region.ready .any ops L → YieldsIf P ops S oi v a → S w → Lt P ops Q S late n (L.setIfInBounds i true) (a.put oi.dst v) w → Lt P ops Q S late (n + 1) L a w := by
  intro n
  induction n with
  | zero =>
    intro L a w _ _ hr hy hS H
    refine ⟨fun h0 => absurd hr (by rw [h0]; simp), fun j hj => ?_⟩
    by_cases e : j = i
    · subst e
      exact hy.wpOp hi hS ⟨fun _ => hS, H⟩
    · have h1 := ready_mono hj e
      rw [H.1] at h1
      cases h1
  | succ n ih =>
    intro L a w hc hf hr hy hS H
    refine ⟨fun h0 => absurd hr (by rw [h0]; simp), fun j hj => ?_⟩
    by_cases e : j = i
    · subst e
      exact hy.wpOp hi hS ⟨fun _ => hS, H⟩
    · obtain ⟨hun, oj, hoj, hall⟩ := mem_ready.1 hj
      have hiu := getD_apart (mem_ready.1 hr).1
      have hno : ∀ x ∈ oj.after, Region.binds .any x = true → x.on ≠ i := fun x hx hb hxi => by
        have := hall x hx hb
        rw [hxi, hiu] at this
        cases this
      have hlj : late j = false := by
        cases hl : late j with
        | false => rfl
        | true =>
          have := wt_came hc 8 j (hw j oj hoj hl) (fun o2 ho2 => by rw [hoj] at ho2; cases ho2; exact hall)
          rw [hiu] at this
          cases this
      have h2 := wpOp_putIf (S := S) hoj (hf j oj hoj e hun hno) (fun cs b => Region.noSelect_spec hns i oi cs b hi) (fun cs b => Region.noSelect_spec hns j oj cs b hoj) hQ hy (H.2 j (ready_mono hj e))
      refine wpOp_mono (fun a' w' h3 => ⟨fun _ => h3.2.1 hlj, ih (L.setIfInBounds j true) a' w' (clo_set hc hj) (fun k ok hk hki hun2 hno2 => hf k ok hk hki ?_ hno2) (ready_mono hr (Ne.symm e)) h3.1 (h3.2.1 hlj) ?_⟩) h2
      · by_cases ejk : j = k
        · subst ejk
          exact hun
        · rwa [getD_set_ne true ejk] at hun2
      · rw [Array.setIfInBounds_comm _ _ e]
        exact h3.2.2
theorem Lt.take {i : Nat} {oi : Oper} {v : Value} {n : Nat} {L : Array Bool} {a : Act} {w : World} (hi : ops[i]? = some oi) (hns : Region.noSelect ops = true) (hc : cloB ops L = true) (hw : wtsB ops late i = true) (hli : late i = false)
    (hf : Region.free .any ops L i = true) (hr : (Region.ready .any ops L).contains i = true) (hQ : ∀ c a w, Q (.panic c) (a.put oi.dst v) w → Q (.panic c) a w) (hy : YieldsIf P ops S oi v a) (hS : S w)
    (h : Lt P ops Q S late n (L.setIfInBounds i true) (a.put oi.dst v) w) : Lt P ops Q S late (n + 1) L a w :=
  Lt.first hi hns hQ (wts_of hw) hli n L a w (clo_of hc) (Region.free_spec hi hf) (by simpa using hr) hy hS h
/-- One alone may come up. -/
theorem Lt.one {i : Nat} {o : Oper} {n : Nat} {L : Array Bool} {a : Act} {w : World} (hr : Region.ready .any ops L = [i]) (hi : ops[i]? = some o) (hg : o.guard = none)
    (h : Oper.wp P o a w (fun a' w' => (late i = false → S w') ∧ Lt P ops Q S late n (L.setIfInBounds i true) a' w') Q) : Lt P ops Q S late (n + 1) L a w := by
  refine ⟨fun h0 => (by rw [hr] at h0; cases h0), fun j hj => ?_⟩
  rw [hr] at hj
  obtain rfl : j = i := by simpa using hj
  unfold wpOp
  simp only [hi]
  rw [if_pos (by simp [Region.wanted, hg])]
  exact Or.inl h
theorem Lt.done {n : Nat} {L : Array Bool} {a : Act} {w : World} (hr : Region.ready .any ops L = []) (h : Q .normal a w) : Lt P ops Q S late n L a w := by
  cases n with
  | zero => exact ⟨hr, h⟩
  | succ n => exact ⟨fun _ => h, fun i hi => (by rw [hr] at hi; cases hi)⟩
theorem wp_region_late {id : Nat} {a : Act} {w : World} (hm : P.follows .mixedOrders = true) (h : Lt P ops Q S late ops.size (Array.replicate ops.size false) a w.drew) : (Code.region id ops true).wp P Q a w :=
  wp_region_any hm (Lt.any _ _ _ _ h)
theorem call_step {o : Oper} {a : Act} {w : World} {K : Act → World → Prop} {R : Ending → World → Prop} (f : FuncId) (args : Array Value) (hrun : (execOp a.eval o).run P w = .ok (.enter f args) w) (hc : Calls P f args w R)
    (h : ∀ e w', R e w' → ∃ v, e = .returned v ∧ K (a.put o.dst v) w') : Oper.wp P o a w K Q := by
  unfold Oper.wp
  rw [hrun, Oper.upon_enter]
  refine hc.mono fun e w' hh => ?_
  obtain ⟨v, rfl, hk⟩ := h e w' hh
  exact hk
theorem skip_step {o : Oper} {a : Act} {w w' : World} {K : Act → World → Prop} (hrun : (execOp a.eval o).run P w = .ok .skip w') (h : K (a.put o.dst undef) w') : Oper.wp P o a w K Q := by
  unfold Oper.wp
  rw [hrun]
  exact h
end
end Go.Proofs.YtehmoacggikfmaaGreatDoor
