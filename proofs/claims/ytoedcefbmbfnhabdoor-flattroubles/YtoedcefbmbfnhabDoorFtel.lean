/- What the law FacesTell asks: lists of lists read, the two sides' answers in one form. -/
import Derived.Test.YtoedcefbmbfnhabDoorFcmp
namespace Go.Proofs.YtoedcefbmbfnhabDoor
open Go.RowKit Go.ChangeMaps

set_option maxRecDepth 100000 in
set_option maxHeartbeats 1600000 in
theorem sameTris_yes (a c : Option Addr) (ca cc : Nat) (L : List (Int × Int × Int)) (w : World) (hL : L.length ≤ 300) (ha : TRow w a L) (hc : TRow w c L) :
    Calls Tryd.prog 13 #[.slice a L.length ca, .slice c L.length cc] w fun e w' => e = .returned (.bool true) ∧ Below w.heap.size w w' := by
  have HA : Hid (TRow w a L) := ha
  have HC : Hid (TRow w c L) := hc
  clear ha hc
  go_enter Tryd.func13, Tryd.ntmps13
  go_wp2
  go_loopg [5] L.length (fun gk s5 wx => ∃ i : Nat, i ≤ L.length ∧ gk = L.length - i ∧ s5 = .int .i64 (i : Int) ∧ Below w.heap.size w wx)
  case atStart => exact ⟨0, by omega, rfl, rfl, bl_refl _⟩
  case round =>
    obtain ⟨i, hi, rfl, rfl, hB⟩ := hrel
    have HB : Hid (Below w.heap.size w wr) := hB
    clear hB
    by_cases h1 : i < L.length
    · have i1 : (i : Int) < (L.length : Int) := by omega
      have i0 : (0 : Int) ≤ (i : Int) := by omega
      obtain ⟨g, rfl, t0, t1, t2⟩ := (HA.out.kept HB.out) i h1
      obtain ⟨g', rfl, u0, u1, u2⟩ := (HC.out.kept HB.out) i h1
      have z1 : g < wr.heap.size := World.block_lt_of_cell? _ _ t0
      have z2 : g' < wr.heap.size := World.block_lt_of_cell? _ _ u0
      obtain ⟨x, hx⟩ : ∃ x, x = L[i].1 := ⟨_, rfl⟩
      obtain ⟨y, hy⟩ : ∃ y, y = L[i].2.1 := ⟨_, rfl⟩
      obtain ⟨k, hk⟩ : ∃ k, k = L[i].2.2 := ⟨_, rfl⟩
      rw [← hx] at t0 u0
      rw [← hy] at t1 u1
      rw [← hk] at t2 u2
      have hneq : ∀ w' : World, (binOp .neq 79 (.agg #[.int .i64 x, .int .i64 y, .int .i64 k]) (.agg #[.int .i64 x, .int .i64 y, .int .i64 k])).run Tryd.prog w' = .ok (.bool false) w' := fun w' => by
        have := neq23 x y k x y k w'
        simpa [sameT] using this
      clear hx hy hk
      have kc := Kin.cells wr
      have kn : Nonempty (Kin wr) := ⟨⟨wr, bl_refl _⟩⟩
      go_wp2
      refine wp_region_kin (by kernel_rfl) (by kernel_rfl) ?_
      repeat (go_big_quiet_step (fail))
      refine wpQuiet_nil ?_
      intro wq hw'
      obtain ⟨nq, hw''⟩ := hw'
      have hq : Below wr.heap.size wr wq := hw'' ▸ nq.h
      have HQ : Hid (Below w.heap.size w wq) := bl_via HB.out hq
      clear hw'' nq hq kc kn
      go_wp2
      go_roundg (L.length - (i + 1))
      case measure => omega
      case rel => exact ⟨i + 1, by omega, rfl, by go_num, HQ.out⟩
    · have i1 : ¬ (i : Int) < (L.length : Int) := by omega
      go_wp2
      go_ret
      exact ⟨rfl, HB.out⟩


/-- Lists of triangles in memory, as a slice of slices has them. -/
def NRd (w : World) (a : Option Addr) (F : List (List (Int × Int × Int))) : Prop := ∀ m (h : m < F.length), ∃ g a' c', a = some ⟨g, 0, none⟩ ∧ w.cell? ⟨g, m, none⟩ = some (.slice a' F[m].length c') ∧ TRow w a' F[m]
theorem NRd.kept {w wx : World} {a : Option Addr} {F : List (List (Int × Int × Int))} (h : NRd w a F) (hb : Below w.heap.size w wx) : NRd wx a F := fun m hm => by
  obtain ⟨g, a', c', e, h1, h2⟩ := h m hm
  exact ⟨g, a', c', e, cl_kept hb h1, h2.kept hb⟩
theorem Nest.read {w : World} {base : Nat} {v : Value} {F : List (List (Int × Int × Int))} (h : Nest w base v F) : ∃ a c, v = .slice a F.length c ∧ NRd w a F := by
  obtain ⟨vs, hv⟩ := h
  obtain ⟨a, c, rfl, hg⟩ := own_form hv.2.1
  refine ⟨a, c, rfl, fun m hm => ?_⟩
  obtain ⟨g, rfl⟩ := hg (by omega)
  have hm2 : m < vs.length := by rw [hv.1]; exact hm
  obtain ⟨a', c', e, hT⟩ := own_tris (hv.2.2.1 m hm2 hm)
  exact ⟨g, a', c', rfl, by rw [hv.2.1.cellAt m (by omega), List.getElem?_eq_getElem hm2, e], hT⟩
/-- In order, each once: there is such a list. -/
theorem ltP_trans {p q r : Int × Int} (h1 : ltP p q) (h2 : ltP q r) : ltP p r := by
  simp only [ltP] at *
  omega
theorem spt_is : ∀ Cs : List (Int × Int), ∃ pts, SPt pts Cs ∧ pts.length ≤ Cs.length
  | [] => ⟨[], ⟨by simp, by simp⟩, by simp⟩
  | c :: Cs => by
    obtain ⟨pts, ⟨h1, h2⟩, h3⟩ := spt_is Cs
    by_cases hc : c ∈ pts
    · refine ⟨pts, ⟨h1, fun p => ?_⟩, by simp; omega⟩
      rw [List.mem_cons, ← h2 p]
      constructor
      · exact Or.inr
      · rintro (rfl | h)
        · exact hc
        · exact h
    · refine ⟨pts.filter (fun p => lessB p.1 p.2 c.1 c.2) ++ c :: pts.filter (fun p => !lessB p.1 p.2 c.1 c.2), ⟨?_, fun p => ?_⟩, ?_⟩
      · rw [List.pairwise_append]
        refine ⟨h1.filter _, ?_, ?_⟩
        · rw [List.pairwise_cons]
          refine ⟨fun q hq => ?_, h1.filter _⟩
          obtain ⟨q1, q2⟩ := List.mem_filter.1 hq
          have q3 : ¬ ltP q c := fun h => by
            have := (lessB_iff q.1 q.2 c.1 c.2).2 h
            rw [this] at q2
            simp at q2
          have q4 : q ≠ c := fun e => hc (e ▸ q1)
          obtain ⟨x, y⟩ := q
          obtain ⟨u, v⟩ := c
          simp only [ltP] at *
          simp only [ne_eq, Prod.mk.injEq] at q4
          omega
        · intro p hp q hq
          obtain ⟨p1, p2⟩ := List.mem_filter.1 hp
          have p3 : ltP p c := (lessB_iff p.1 p.2 c.1 c.2).1 p2
          rcases List.mem_cons.1 hq with rfl | hq
          · exact p3
          · obtain ⟨q1, q2⟩ := List.mem_filter.1 hq
            have q3 : ¬ ltP q c := fun h => by
              have := (lessB_iff q.1 q.2 c.1 c.2).2 h
              rw [this] at q2
              simp at q2
            have q4 : q ≠ c := fun e => hc (e ▸ q1)
            refine ltP_trans p3 ?_
            obtain ⟨x, y⟩ := q
            obtain ⟨u, v⟩ := c
            simp only [ltP] at *
            simp only [ne_eq, Prod.mk.injEq] at q4
            omega
      · rw [List.mem_append, List.mem_cons, List.mem_filter, List.mem_filter, List.mem_cons, ← h2 p]
        cases lessB p.1 p.2 c.1 c.2 <;> simp [or_comm]
      · rw [List.length_append, List.length_cons, List.length_cons]
        have : ∀ (l : List (Int × Int)) (f : Int × Int → Bool), (l.filter f).length + (l.filter (fun p => !f p)).length = l.length := fun l f => by
          induction l with
          | nil => rfl
          | cons a l ih =>
            cases h : f a
            · simp [h]
              omega
            · simp [h]
              omega
        have := this pts (fun p => lessB p.1 p.2 c.1 c.2)
        omega
end Go.Proofs.YtoedcefbmbfnhabDoor
