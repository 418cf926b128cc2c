/- A map whose keys are edges, as it lies in memory. -/
import Derived.Test.YtehmoacggikfmaaDoorQlbj
import Derived.Laws.AppendOwn
import Derived.ChangeMaps5
namespace Go.Proofs.YtehmoacggikfmaaDoor
open Go.RowKit Go.ChangeMaps

/-- The map's object. -/
def EM (w : World) (r : Nat) (ls : List ((Int × Int × Int × Int) × Value × Nat)) (clock : Nat) : Prop := w.heap[r]? = some (.map (ls.map toE).toArray clock)
/-- Each key once, each stamp once, all of them old. -/
def Good (ls : List ((Int × Int × Int × Int) × Value × Nat)) (clock : Nat) : Prop := (ls.map (fun x => x.1)).Nodup ∧ (ls.map (fun x => x.2.2)).Nodup ∧ ∀ x ∈ ls, x.2.2 < clock
/-- What is at a key. -/
def lk : List ((Int × Int × Int × Int) × Value × Nat) → Int × Int × Int × Int → Option Value
  | [], _ => none
  | x :: r, k => if x.1 = k then some x.2.1 else lk r k
theorem lk_not {k : Int × Int × Int × Int} : ∀ {ls : List ((Int × Int × Int × Int) × Value × Nat)}, (∀ x ∈ ls, x.1 ≠ k) → lk ls k = none
  | [], _ => rfl
  | x :: r, h => by simp [lk, h x (by simp), lk_not (ls := r) (fun y hy => h y (by simp [hy]))]
theorem lk_none {k : Int × Int × Int × Int} : ∀ {ls : List ((Int × Int × Int × Int) × Value × Nat)}, lk ls k = none → ∀ x ∈ ls, x.1 ≠ k
  | [], _ => by simp
  | x :: r, h => by
    unfold lk at h
    split at h
    · cases h
    · rename_i hx
      intro y hy
      rcases List.mem_cons.1 hy with rfl | hy
      · exact hx
      · exact lk_none h y hy
theorem lk_at {k : Int × Int × Int × Int} : ∀ {ls : List ((Int × Int × Int × Int) × Value × Nat)} {j : Nat} {x : (Int × Int × Int × Int) × Value × Nat}, (ls.map (fun x => x.1)).Nodup → ls[j]? = some x → x.1 = k → lk ls k = some x.2.1
  | [], _, _, _, h, _ => by simp at h
  | y :: r, 0, x, _, h, hk => by
    simp at h
    subst h
    simp [lk, hk]
  | y :: r, j + 1, x, hn, h, hk => by
    simp only [List.getElem?_cons_succ] at h
    simp only [List.map_cons, List.nodup_cons] at hn
    have hne : y.1 ≠ k := fun e => hn.1 (List.mem_map.2 ⟨x, List.mem_of_getElem? h, hk.trans e.symm⟩)
    simp [lk, hne, lk_at hn.2 h hk]
theorem lk_mem {k : Int × Int × Int × Int} {v : Value} : ∀ {ls : List ((Int × Int × Int × Int) × Value × Nat)}, lk ls k = some v → ∃ b, (k, v, b) ∈ ls
  | [], h => by simp [lk] at h
  | y :: r, h => by
    unfold lk at h
    split at h
    · rename_i e
      simp at h
      subst h
      subst e
      exact ⟨y.2.2, by simp⟩
    · obtain ⟨b, hb⟩ := lk_mem h
      exact ⟨b, by simp [hb]⟩
theorem lk_push {ls : List ((Int × Int × Int × Int) × Value × Nat)} {k j : Int × Int × Int × Int} {v : Value} {c : Nat} (h : ∀ x ∈ ls, x.1 ≠ k) : lk (ls ++ [(k, v, c)]) j = if j = k then some v else lk ls j := by
  induction ls with
  | nil =>
    by_cases e : j = k
    · simp [lk, e]
    · have e' : ¬ k = j := fun h => e h.symm
      simp [lk, e, e']
  | cons y r ih =>
    have ih := ih (fun x hx => h x (by simp [hx]))
    simp only [List.cons_append, lk, ih]
    by_cases e : j = k
    · subst e
      simp [h y (by simp)]
    · simp [e]
theorem lk_set : ∀ {ls : List ((Int × Int × Int × Int) × Value × Nat)} {i : Nat} {x : (Int × Int × Int × Int) × Value × Nat} {k j : Int × Int × Int × Int} {v : Value}, (ls.map (fun x => x.1)).Nodup → ls[i]? = some x → x.1 = k → lk (ls.set i (k, v, x.2.2)) j = if j = k then some v else lk ls j
  | [], _, _, _, _, _, _, h, _ => by simp at h
  | y :: r, 0, x, k, j, v, _, h, hk => by
    simp at h
    subst h
    by_cases e : j = k
    · simp [lk, e]
    · have e' : ¬ k = j := fun h => e h.symm
      simp [lk, e, hk, e']
  | y :: r, i + 1, x, k, j, v, hn, h, hk => by
    simp only [List.getElem?_cons_succ] at h
    simp only [List.map_cons, List.nodup_cons] at hn
    have hne : y.1 ≠ k := fun e => hn.1 (List.mem_map.2 ⟨x, List.mem_of_getElem? h, hk.trans e.symm⟩)
    have ih := lk_set (j := j) (v := v) hn.2 h hk
    simp only [List.set_cons_succ, lk, ih]
    by_cases e : j = k
    · subst e
      simp [hne]
    · simp [e]
theorem set_keys {ls : List ((Int × Int × Int × Int) × Value × Nat)} {i : Nat} {x : (Int × Int × Int × Int) × Value × Nat} (h : ls[i]? = some x) (v : Value) : (ls.set i (x.1, v, x.2.2)).map (fun x => x.1) = ls.map (fun x => x.1) ∧ (ls.set i (x.1, v, x.2.2)).map (fun x => x.2.2) = ls.map (fun x => x.2.2) := by
  constructor
  · rw [List.map_set]
    exact WideElems.set_self _ _ _ (by simp [h])
  · rw [List.map_set]
    exact WideElems.set_self _ _ _ (by simp [h])
theorem good_push {ls : List ((Int × Int × Int × Int) × Value × Nat)} {clock : Nat} {k : Int × Int × Int × Int} {v : Value} (hg : Good ls clock) (h : ∀ x ∈ ls, x.1 ≠ k) : Good (ls ++ [(k, v, clock)]) (clock + 1) := by
  obtain ⟨g1, g2, g3⟩ := hg
  refine ⟨?_, ?_, ?_⟩
  · rw [List.map_append, List.nodup_append]
    refine ⟨g1, by simp, fun a ha b hb => ?_⟩
    obtain ⟨x, hx, rfl⟩ := List.mem_map.1 ha
    simp at hb
    subst hb
    exact h x hx
  · rw [List.map_append, List.nodup_append]
    refine ⟨g2, by simp, fun a ha b hb => ?_⟩
    obtain ⟨x, hx, rfl⟩ := List.mem_map.1 ha
    simp at hb
    subst hb
    have := g3 x hx
    omega
  · intro x hx
    rcases List.mem_append.1 hx with hx | hx
    · have := g3 x hx
      omega
    · simp at hx
      subst hx
      simp
theorem good_set {ls : List ((Int × Int × Int × Int) × Value × Nat)} {clock i : Nat} {x : (Int × Int × Int × Int) × Value × Nat} (hg : Good ls clock) (h : ls[i]? = some x) (v : Value) : Good (ls.set i (x.1, v, x.2.2)) clock := by
  obtain ⟨g1, g2, g3⟩ := hg
  have hk := set_keys h v
  refine ⟨hk.1 ▸ g1, hk.2 ▸ g2, fun y hy => ?_⟩
  have : y.2.2 ∈ (ls.set i (x.1, v, x.2.2)).map (fun x => x.2.2) := List.mem_map.2 ⟨y, hy, rfl⟩
  rw [hk.2] at this
  obtain ⟨z, hz, e⟩ := List.mem_map.1 this
  have := g3 z hz
  omega

theorem findKey27 (x : Value) (es : List MapEntry) (w : World) : (Instr.findKey 46 x es).run Tryd.prog w = (Instr.findAsking 46 x es).run Tryd.prog w := by
  cases es with
  | nil => simp [Instr.findKey, run_underlying Tryd.underlying46, Instr.findNow, Instr.findAsking]
  | cons e es => simp [Instr.findKey, run_underlying Tryd.underlying46, Instr.findNow, Instr.sameNow]

theorem lookup27 {T E : TypeId} {z : Value} (ht : Tryd.prog.underlying T = some (.map 46 E)) (hz : ∀ u : World, (zeroValue E).run Tryd.prog u = .ok z u) {w : World} {r : Nat} {ls : List ((Int × Int × Int × Int) × Value × Nat)} {clock : Nat} (h : EM w r ls clock) (hg : Good ls clock) (k : Int × Int × Int × Int) :
    (Instr.lookup T (.map (some r)) (ek k) false).run Tryd.prog w = .ok ((lk ls k).getD z) w := by
  unfold EM at h
  have hf := fun em => check27 em k w
  rcases find27 k w ls 0 with ⟨h1, h2⟩ | ⟨j, x, h1, h2, h3⟩
  · rw [lk_not h2]
    have h1' : (Instr.findKey 46 (ek k) (ls.map toE)).run Tryd.prog w = .ok none w := (findKey27 _ _ _).trans h1
    simp [Instr.lookup, run_underlying ht, MapKept.run_getObj_map h, hf, h1', hz, Result.andThen]
  · rw [lk_at hg.1 h2 h3]
    have h1' : (Instr.findKey 46 (ek k) (ls.map toE)).run Tryd.prog w = .ok (some (j, x.2.1)) w := (findKey27 _ _ _).trans (by simpa using h1)
    simp [Instr.lookup, run_underlying ht, MapKept.run_getObj_map h, hf, h1', Result.andThen]

theorem grown_set {w : World} {r : Nat} {es : Array MapEntry} {c : Nat} (h : w.heap[r]? = some (.map es c)) (o : Obj) : w.grownBy (setBlock w r o) (some r) :=
  ⟨rfl, rfl, rfl, by simp [setBlock], fun _ _ hi => heap_setBlock_other h _ (fun e1 => hi (by rw [e1]))⟩

/-- m[k] = f(m[k]): the entry, and the store into it. -/
theorem entry27 {T E : TypeId} {z : Value} (ht : Tryd.prog.underlying T = some (.map 46 E)) (hz : ∀ u : World, (zeroValue E).run Tryd.prog u = .ok z u) {w : World} {r : Nat} {ls : List ((Int × Int × Int × Int) × Value × Nat)} {clock : Nat} (h : EM w r ls clock) (hg : Good ls clock) (k : Int × Int × Int × Int) :
    ∃ st ls1 clock1, (Instr.mapEntry T (.map (some r)) (ek k)).run Tryd.prog w = .ok (.tuple #[(lk ls k).getD z, goInt st]) (setBlock w r (.map (ls1.map toE).toArray clock1)) ∧
      ∀ val, ∃ ls' clock', Good ls' clock' ∧ (∀ j, lk ls' j = if j = k then some val else lk ls j) ∧ (ls'.length = ls.length + if lk ls k = none then 1 else 0) ∧
        ∀ w2, EM w2 r ls1 clock1 → (Instr.entryStore T (.map (some r)) (goInt st) val).run Tryd.prog w2 = .ok () (setBlock w2 r (.map (ls'.map toE).toArray clock')) := by
  have hb := h
  unfold EM at hb
  have hf := fun em => check27 em k w
  rcases find27 k w ls 0 with ⟨h1, h2⟩ | ⟨j, x, h1, h2, h3⟩
  · have h1' : (Instr.findKey 46 (ek k) (ls.map toE)).run Tryd.prog w = .ok none w := (findKey27 _ _ _).trans h1
    refine ⟨clock, ls ++ [(k, z, clock)], clock + 1, ?_, fun val => ⟨ls ++ [(k, val, clock)], clock + 1, good_push hg h2, fun j => lk_push h2, by simp [lk_not h2], fun w2 hw2 => ?_⟩⟩
    · rw [lk_not h2]
      simp [Instr.mapEntry, run_underlying ht, MapKept.run_getObj_map hb, hf, h1', hz, MapKept.run_setObj_map _ hb, Result.andThen, setBlock, toE]
    · unfold EM at hw2
      have hidx : ((ls ++ [(k, z, clock)]).map toE).toArray.findIdx? (fun e => ((e.born : Nat) : Int) == ((clock : Nat) : Int)) = some ls.length := by
        rw [WideElems.findIdx_arr]
        have hn : (((ls ++ [(k, z, clock)]).map toE).map (fun e => e.born)).Nodup := by
          have := (good_push (v := z) hg h2).2.1
          rw [List.map_map]
          exact this
        exact WideElems.findIdx_born hn (j := ls.length) (e0 := toE (k, z, clock)) (by simp)
      have hmod : ((ls ++ [(k, z, clock)]).map toE).toArray.modify ls.length (fun e => { e with val := val }) = ((ls ++ [(k, val, clock)]).map toE).toArray := by
        apply Array.ext'
        rw [Array.toList_modify]
        have := WideElems.modify_last (fun e : MapEntry => { e with val := val }) (toE (k, z, clock)) (ls.map toE)
        rw [List.length_map] at this
        simpa [toE] using this
      simp only [Instr.entryStore, Sem.run_bind, MapKept.run_getObj_map hw2, Result.andThen, asInt, asIntOf, goInt, Sem.run_pure, hidx, hmod, MapKept.run_setObj_map _ hw2, setBlock]
  · have h1' : (Instr.findKey 46 (ek k) (ls.map toE)).run Tryd.prog w = .ok (some (j, x.2.1)) w := (findKey27 _ _ _).trans (by simpa using h1)
    have hj : ((ls.map toE).toArray)[j]? = some (toE x) := by simp [h2]
    have hjl : (ls.map toE)[j]? = some (toE x) := by simp [h2]
    have hkx : (toE x).key = ek k := by simp [toE, h3]
    have hsame : (ls.map toE).toArray.modify j (fun e => { e with key := ek k }) = (ls.map toE).toArray := by
      apply Array.ext'
      rw [Array.toList_modify]
      show (ls.map toE).modify j _ = ls.map toE
      rw [modify_eq_set _ _ _ _ hjl]
      have : ({ toE x with key := ek k } : MapEntry) = toE x := by rw [← hkx]
      rw [this]
      exact WideElems.set_self _ _ _ hjl
    have hst := stays27 k w
    have e1 : lk ls k = some x.2.1 := lk_at hg.1 h2 h3
    refine ⟨x.2.2, ls, clock, ?_, fun val => ⟨ls.set j (x.1, val, x.2.2), clock, good_set hg h2 val, fun i => by have := lk_set (j := i) (v := val) hg.1 h2 h3; rwa [← h3] at this ⊢, by simp [e1], fun w2 hw2 => ?_⟩⟩
    · rw [e1]
      have hb0 : (toE x).born = x.2.2 := rfl
      simp only [Instr.mapEntry, Sem.run_bind, run_underlying ht, MapKept.run_getObj_map hb, hf, h1', Result.andThen, hj, Option.map_some, Option.getD_some, hkx, hst, hsame, MapKept.run_setObj_map _ hb, Sem.run_pure, hb0, setBlock]
    · unfold EM at hw2
      have hidx : (ls.map toE).toArray.findIdx? (fun e => ((e.born : Nat) : Int) == ((x.2.2 : Nat) : Int)) = some j := by
        rw [WideElems.findIdx_arr]
        have hn : ((ls.map toE).map (fun e => e.born)).Nodup := by
          rw [List.map_map]
          exact hg.2.1
        exact WideElems.findIdx_born hn (j := j) (e0 := toE x) hjl
      have hmod : (ls.map toE).toArray.modify j (fun e => { e with val := val }) = ((ls.set j (x.1, val, x.2.2)).map toE).toArray := by
        apply Array.ext'
        rw [Array.toList_modify]
        show (ls.map toE).modify j _ = (ls.set j (x.1, val, x.2.2)).map toE
        rw [modify_eq_set _ _ _ _ hjl, List.map_set]
        rfl
      simp only [Instr.entryStore, Sem.run_bind, MapKept.run_getObj_map hw2, Result.andThen, asInt, asIntOf, goInt, Sem.run_pure, hidx, hmod, MapKept.run_setObj_map _ hw2, setBlock]

/-- m[k] = v. -/
theorem update27 {T E : TypeId} (ht : Tryd.prog.underlying T = some (.map 46 E)) {w : World} {r : Nat} {ls : List ((Int × Int × Int × Int) × Value × Nat)} {clock : Nat} (h : EM w r ls clock) (hg : Good ls clock) (k : Int × Int × Int × Int) (val : Value) :
    ∃ ls' clock', (Instr.mapUpdate T (.map (some r)) (ek k) val).run Tryd.prog w = .ok () (setBlock w r (.map (ls'.map toE).toArray clock')) ∧ Good ls' clock' ∧ (∀ j, lk ls' j = if j = k then some val else lk ls j) ∧ (ls'.length = ls.length + if lk ls k = none then 1 else 0) := by
  have hb := h
  unfold EM at hb
  have hf := fun em => check27 em k w
  rcases find27 k w ls 0 with ⟨h1, h2⟩ | ⟨j, x, h1, h2, h3⟩
  · have h1' : (Instr.findKey 46 (ek k) (ls.map toE)).run Tryd.prog w = .ok none w := (findKey27 _ _ _).trans h1
    refine ⟨ls ++ [(k, val, clock)], clock + 1, ?_, good_push hg h2, fun j => lk_push h2, by simp [lk_not h2]⟩
    simp [Instr.mapUpdate, run_underlying ht, MapKept.run_getObj_map hb, hf, h1', MapKept.run_setObj_map _ hb, Result.andThen, setBlock, toE]
  · have h1' : (Instr.findKey 46 (ek k) (ls.map toE)).run Tryd.prog w = .ok (some (j, x.2.1)) w := (findKey27 _ _ _).trans (by simpa using h1)
    have hj : ((ls.map toE).toArray)[j]? = some (toE x) := by simp [h2]
    have hjl : (ls.map toE)[j]? = some (toE x) := by simp [h2]
    have hkx : (toE x).key = ek k := by simp [toE, h3]
    have e1 : lk ls k = some x.2.1 := lk_at hg.1 h2 h3
    have hmod : (ls.map toE).toArray.modify j (fun e => { e with key := ek k, val := val }) = ((ls.set j (x.1, val, x.2.2)).map toE).toArray := by
      apply Array.ext'
      rw [Array.toList_modify]
      show (ls.map toE).modify j _ = (ls.set j (x.1, val, x.2.2)).map toE
      rw [modify_eq_set _ _ _ _ hjl, List.map_set, ← hkx]
      rfl
    have hst := stays27 k w
    refine ⟨ls.set j (x.1, val, x.2.2), clock, ?_, good_set hg h2 val, fun i => by have := lk_set (j := i) (v := val) hg.1 h2 h3; rwa [← h3] at this ⊢, by simp [e1]⟩
    simp only [Instr.mapUpdate, Sem.run_bind, run_underlying ht, MapKept.run_getObj_map hb, hf, h1', Result.andThen, hj, Option.map_some, Option.getD_some, hkx, hst, hmod, MapKept.run_setObj_map _ hb, setBlock]
theorem em_made (w : World) : EM (w.alloc (.map #[] 0)) w.heap.size [] 0 := (MapKept.heap_alloc w _).1
theorem good_nil : Good [] 0 := ⟨by simp, by simp, by simp⟩
end Go.Proofs.YtehmoacggikfmaaDoor
