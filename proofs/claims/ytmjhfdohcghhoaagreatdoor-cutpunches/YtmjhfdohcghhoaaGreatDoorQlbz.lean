/- A part of the proof of cutPunches_holds. -/
import Derived.Test.YtmjhfdohcghhoaaGreatDoorQlai
import Derived.Test.YtmjhfdohcghhoaaGreatDoorQlbt
import Derived.Test.YtmjhfdohcghhoaaGreatDoorQlby
import Derived.Test.YtmjhfdohcghhoaaGreatDoorQlbu
import Derived.Test.YtmjhfdohcghhoaaGreatDoorQlbg
import Derived.Deep.Strs
namespace Go.Proofs.YtmjhfdohcghhoaaGreatDoor
open Go.ChangeShapes Go.WideShapes Go.ChangeAt Go.WideMaps Go.WideElems Go.RowKit Go.Joins Go.Deep

theorem four9 {cs : List Value} (h : cs.length = 4) : ∃ a0 a1 a2 a3, cs = [a0, a1, a2, a3] := by
  match cs, h with
  | [a0, a1, a2, a3], _ => exact ⟨a0, a1, a2, a3, rfl⟩
theorem three9 {cs : List Value} (h : cs.length = 3) : ∃ a0 a1 a2, cs = [a0, a1, a2] := by
  match cs, h with
  | [a0, a1, a2], _ => exact ⟨a0, a1, a2, rfl⟩
theorem six9 {cs : List Value} (h : cs.length = 6) : ∃ a0 a1 a2 a3 a4 a5, cs = [a0, a1, a2, a3, a4, a5] := by
  match cs, h with
  | [a0, a1, a2, a3, a4, a5], _ => exact ⟨a0, a1, a2, a3, a4, a5, rfl⟩
theorem c43 : Tryz.prog.cellsOf 43 = 3 := by kernel_rfl
theorem c44 : Tryz.prog.cellsOf 44 = 1 := by kernel_rfl
theorem c26 : Tryz.prog.cellsOf 26 = 1 := by kernel_rfl
theorem c27s : Tryz.prog.cellsOf 27 = 1 := by kernel_rfl
theorem c29 : Tryz.prog.cellsOf 29 = 6 := by kernel_rfl
theorem c87 : Tryz.prog.cellsOf 87 = 4 := by kernel_rfl
theorem c95 : Tryz.prog.cellsOf 95 = 6 := by kernel_rfl
theorem by43 : Tryz.prog.bytesOf 43 = 24 := by kernel_rfl
theorem by87 : Tryz.prog.bytesOf 87 = 48 := by kernel_rfl
theorem by95 : Tryz.prog.bytesOf 95 = 48 := by kernel_rfl
theorem weightsAll_mem {H : Type} {P : Program} {e : TypeId} : ∀ {ds : List (DataW H)} {d : DataW H}, d ∈ ds → ∀ n ∈ d.weights P e, n ∈ DataW.weightsAll P e ds
  | d' :: r, d, h, n, hn => by
    rcases List.mem_cons.1 h with rfl | h
    · simp [DataW.weightsAll, hn]
    · simp only [DataW.weightsAll, List.mem_append]
      exact Or.inr (weightsAll_mem h n hn)
set_option maxRecDepth 100000 in
/-- A sheet's cells. -/
theorem sheet_cells {H : Type} {enc : TypeId × Value → H} {W : World} {fuel : Nat} {e0 e1 e2 e3 : Value} {x : DataW H × List MemPlace}
    (hf : DataW.trod enc Tryz.prog W 0 (fun _ => true) true fuel 25 [e0, e1, e2, e3] = some x) (hk : ∀ n ∈ x.1.weights Tryz.prog 25, n ≤ reachBytes) :
    ∃ (X Y : Int) (a c : Option Addr) (ca cc n : Nat) (zs ks : List Int), [e0, e1, e2, e3] = [.int .i64 X, .int .i64 Y, .slice a zs.length ca, .slice c n cc] ∧ Row W a zs ∧ Row W c ks ∧ ks.length = n * 5 ∧ zs.length ≤ 17592186044416 ∧ n ≤ 3518437208883 := by
  obtain ⟨d, p⟩ := x
  obtain ⟨y0, y1, y2, y3, n, hx, _, t0, t1, t2, t3⟩ := trod_struct4 Tryz.underlying25 hf
  simp only [Prod.mk.injEq] at hx
  obtain ⟨rfl, _⟩ := hx
  rw [weights_sheet] at hk
  simp [c3, c70, c72] at t0 t1 t2 t3
  obtain ⟨X, r0, _, _⟩ := DataW.trod_int Tryz.underlying3 t0
  obtain ⟨Y, r1, _, _⟩ := DataW.trod_int Tryz.underlying3 t1
  simp at r0 r1
  subst r0 r1
  obtain ⟨c, m, cc, ks, r3, hn, hrow, hlen⟩ := creases_of t3
  simp at r3
  subst r3
  have hm : m ≤ 3518437208883 := by
    rcases hlen with rfl | ⟨es, rs, rfl, e⟩
    · omega
    · have := hk ((es.length + rs.length) * Tryz.prog.bytesOf 124) (DataW.weights_mem_each (j := 3) (t := 23) (d := y3.1) rfl rfl _ (by rw [e]; simp [DataW.weights, Tryz.underlying23]))
      rw [by110] at this
      unfold reachBytes at this
      omega
  rcases open_ints Tryz.underlying22 Tryz.underlying3 c3 t2 with ⟨r2, _⟩ | ⟨x, l, cap, zs, r2, _, hl, _, hz, hy, hcell, _⟩
  · simp at r2
    subst r2
    exact ⟨X, Y, none, c, 0, cc, m, [], ks, rfl, fun i hi => absurd hi (by simp), hrow, hn, by simp, hm⟩
  · simp at r2
    subst r2
    have hz' : zs.length = cap := by simpa using hz
    have hlz : (zs.take l).length = l := by rw [List.length_take]; omega
    refine ⟨X, Y, some x, c, cap, cc, m, zs.take l, ks, by rw [hlz], ?_, hrow, hn, ?_, hm⟩
    · intro i hi
      rw [hlz] at hi
      obtain ⟨b, off, rfl, hc'⟩ := ints_at hcell (by omega)
      refine ⟨b, off, rfl, ?_⟩
      rw [hc' i (by omega), List.getElem_take, List.getD_eq_getElem?_getD, List.getElem?_eq_getElem (by omega)]
      rfl
    · have := hk (((lits (H := H) .i64 (zs.take l)).length + (lits (H := H) .i64 (zs.drop l)).length) * Tryz.prog.bytesOf 3) (DataW.weights_mem_each (j := 2) (t := 22) (d := y2.1) rfl rfl _ (by rw [hy]; simp [DataW.weights, Tryz.underlying22]))
      rw [by3, show (lits (H := H) .i64 (zs.take l)).length = (zs.take l).length by simp [lits]] at this
      unfold reachBytes at this
      omega
set_option maxRecDepth 100000 in
theorem tri_came {H : Type} {enc : TypeId × Value → H} {W : World} {base : Nat} {sp : Nat → Bool} {hd : Bool} {m : Nat} {cs : List Value} {y : DataW H × List MemPlace}
    (h : DataW.trod enc Tryz.prog W base sp hd m 43 cs = some y) : ∃ t : Int × Int × Int, cs = [.int .i64 t.1, .int .i64 t.2.1, .int .i64 t.2.2] := by
  obtain ⟨y0, y1, y2, n, _, hl, h0, h1, h2⟩ := trod_struct3 Tryz.underlying43 h
  rw [c43] at hl
  obtain ⟨a0, a1, a2, rfl⟩ := three9 hl
  simp [c3] at h0 h1 h2
  obtain ⟨x0, r0, _, _⟩ := DataW.trod_int Tryz.underlying3 h0
  obtain ⟨x1, r1, _, _⟩ := DataW.trod_int Tryz.underlying3 h1
  obtain ⟨x2, r2, _, _⟩ := DataW.trod_int Tryz.underlying3 h2
  simp at r0 r1 r2
  exact ⟨(x0, x1, x2), by rw [r0, r1, r2]⟩
theorem spot9 {W : World} {a : Addr} {v : Value} (h : W.cell? (a.add 0) = some v) : ∃ b off, a = ⟨b, off, none⟩ := by
  obtain ⟨b, off, spot⟩ := a
  have hspot : spot = none := by simpa [Addr.add] using World.cell?_spot h
  subst hspot
  exact ⟨b, off, rfl⟩
set_option maxRecDepth 100000 in
/-- A row of triangles that came in. -/
theorem tris_cells {H : Type} {enc : TypeId × Value → H} {W : World} {fuel : Nat} {v : Value} {x : DataW H × List MemPlace}
    (h : DataW.trod enc Tryz.prog W 0 (fun _ => true) true fuel 44 [v] = some x) (hk : ∀ n ∈ x.1.weights Tryz.prog 44, n ≤ reachBytes) :
    ∃ (a : Option Addr) (c : Nat) (l : List (Int × Int × Int)), v = .slice a l.length c ∧ l.length ≤ c ∧ TRowG W a l ∧ l.length ≤ 5864062014805 := by
  rcases DataW.trod_slice Tryz.underlying44 h with ⟨e, _⟩ | ⟨a, len, cap, elems, rest, n, _, e, rfl, hb, hl, hm, hlen, hel, hsp, hns⟩
  · simp at e
    subst e
    exact ⟨none, 0, [], rfl, Nat.le_refl _, fun i hi => by simp at hi, by simp⟩
  · simp at e
    subst e
    rw [c43] at hel
    have each : ∀ i, i < len → ∃ t : Int × Int × Int, ∀ j, j < 3 → W.cell? ((a.add (i * 3)).add j) = [Value.int .i64 t.1, .int .i64 t.2.1, .int .i64 t.2.2][j]? := fun i hi => by
      have e := hel i hi
      rw [List.getElem?_eq_getElem (by omega), Option.bind_eq_some_iff] at e
      obtain ⟨cs', hcs, hy'⟩ := e
      obtain ⟨t, rfl⟩ := tri_came hy'
      exact ⟨t, (World.cells?_some hcs).2.2⟩
    have hbd : len ≤ 5864062014805 := by
      have := hk (((elems.map (·.1)).length + (rest.map (·.1)).length) * Tryz.prog.bytesOf 43) (by simp [DataW.weights, Tryz.underlying44])
      rw [by43, List.length_map, List.length_map, hlen] at this
      unfold reachBytes at this
      omega
    have hex : ∃ F : Nat → Int × Int × Int, ∀ i, i < len → ∀ j, j < 3 → W.cell? ((a.add (i * 3)).add j) = [Value.int .i64 (F i).1, .int .i64 (F i).2.1, .int .i64 (F i).2.2][j]? := by
      refine ⟨fun i => if h : i < len then Classical.choose (each i h) else (0, 0, 0), fun i hi => ?_⟩
      simp only [dif_pos hi]
      exact Classical.choose_spec (each i hi)
    obtain ⟨F, hF⟩ := hex
    refine ⟨some a, cap, (List.range len).map F, by simp, by simpa using hl, fun i hi => ?_, by simpa using hbd⟩
    have hi' : i < len := by simpa using hi
    have g0 := hF i hi' 0 (by omega)
    have g1 := hF i hi' 1 (by omega)
    have g2 := hF i hi' 2 (by omega)
    have gz := hF 0 (by omega) 0 (by omega)
    rw [Nat.zero_mul] at gz
    obtain ⟨b, off, rfl⟩ : ∃ b off, a = ⟨b, off, none⟩ := by
      have : W.cell? (a.add 0) = some (.int .i64 (F 0).1) := by
        rw [show (a.add 0).add 0 = a.add 0 by cases a with | mk b o s => cases s <;> simp [Addr.add]] at gz
        simpa using gz
      exact spot9 this
    rw [add_plain, add_plain] at g0 g1 g2
    simp only [List.getElem_map, List.getElem_range]
    exact ⟨b, off, rfl, by simpa using g0, by simpa using g1, by simpa using g2⟩
set_option maxRecDepth 100000 in
theorem map_cells {H : Type} {enc : TypeId × Value → H} {W : World} {base : Nat} {sp : Nat → Bool} {hd : Bool} {m : Nat} {cs : List Value} {y : DataW H × List MemPlace}
    (h : DataW.trod enc Tryz.prog W base sp hd m 95 cs = some y) : ∃ t : M6, cs = [.int .i64 t.1, .int .i64 t.2.1, .int .i64 t.2.2.1, .int .i64 t.2.2.2.1, .int .i64 t.2.2.2.2.1, .int .i64 t.2.2.2.2.2] := by
  obtain ⟨xs, n, _, _, hl, hxs, hel⟩ := DataW.trod_struct Tryz.underlying95 h
  rw [c95] at hl
  obtain ⟨a0, a1, a2, a3, a4, a5, rfl⟩ := six9 hl
  have hxs6 : xs.length = 6 := hxs
  have k0 := hel 0 _ rfl
  have k1 := hel 1 _ rfl
  have k2 := hel 2 _ rfl
  have k3 := hel 3 _ rfl
  have k4 := hel 4 _ rfl
  have k5 := hel 5 _ rfl
  rw [List.getElem?_eq_getElem (by omega)] at k0 k1 k2 k3 k4 k5
  simp [c3] at k0 k1 k2 k3 k4 k5
  obtain ⟨x0, r0, _, _⟩ := DataW.trod_int Tryz.underlying3 k0
  obtain ⟨x1, r1, _, _⟩ := DataW.trod_int Tryz.underlying3 k1
  obtain ⟨x2, r2, _, _⟩ := DataW.trod_int Tryz.underlying3 k2
  obtain ⟨x3, r3, _, _⟩ := DataW.trod_int Tryz.underlying3 k3
  obtain ⟨x4, r4, _, _⟩ := DataW.trod_int Tryz.underlying3 k4
  obtain ⟨x5, r5, _, _⟩ := DataW.trod_int Tryz.underlying3 k5
  simp at r0 r1 r2 r3 r4 r5
  exact ⟨(x0, x1, x2, x3, x4, x5), by rw [r0, r1, r2, r3, r4, r5]⟩
set_option maxRecDepth 100000 in
/-- A row of maps that came in. -/
theorem maps_cells {H : Type} {enc : TypeId × Value → H} {W : World} {fuel : Nat} {v : Value} {x : DataW H × List MemPlace}
    (h : DataW.trod enc Tryz.prog W 0 (fun _ => true) true fuel 26 [v] = some x) (hk : ∀ n ∈ x.1.weights Tryz.prog 26, n ≤ reachBytes) :
    ∃ (a : Option Addr) (n c : Nat) (M : Nat → M6), v = .slice a n c ∧ MRowG W a n M ∧ n ≤ 2932031007402 := by
  rcases DataW.trod_slice Tryz.underlying26 h with ⟨e, _⟩ | ⟨a, len, cap, elems, rest, n, _, e, rfl, hb, hl, hm, hlen, hel, hsp, hns⟩
  · simp at e
    subst e
    exact ⟨none, 0, 0, fun _ => noM, rfl, fun i hi => by omega, by omega⟩
  · simp at e
    subst e
    rw [c95] at hel
    have each : ∀ i, i < len → ∃ t : M6, ∀ j, j < 6 → W.cell? ((a.add (i * 6)).add j) = [Value.int .i64 t.1, .int .i64 t.2.1, .int .i64 t.2.2.1, .int .i64 t.2.2.2.1, .int .i64 t.2.2.2.2.1, .int .i64 t.2.2.2.2.2][j]? := fun i hi => by
      have e := hel i hi
      rw [List.getElem?_eq_getElem (by omega), Option.bind_eq_some_iff] at e
      obtain ⟨cs', hcs, hy'⟩ := e
      obtain ⟨t, rfl⟩ := map_cells hy'
      exact ⟨t, (World.cells?_some hcs).2.2⟩
    have hbd : len ≤ 2932031007402 := by
      have := hk (((elems.map (·.1)).length + (rest.map (·.1)).length) * Tryz.prog.bytesOf 95) (by simp [DataW.weights, Tryz.underlying26])
      rw [by95, List.length_map, List.length_map, hlen] at this
      unfold reachBytes at this
      omega
    have hex : ∃ F : Nat → M6, ∀ i, i < len → ∀ j, j < 6 → W.cell? ((a.add (i * 6)).add j) = [Value.int .i64 (F i).1, .int .i64 (F i).2.1, .int .i64 (F i).2.2.1, .int .i64 (F i).2.2.2.1, .int .i64 (F i).2.2.2.2.1, .int .i64 (F i).2.2.2.2.2][j]? := by
      refine ⟨fun i => if h : i < len then Classical.choose (each i h) else noM, fun i hi => ?_⟩
      simp only [dif_pos hi]
      exact Classical.choose_spec (each i hi)
    obtain ⟨F, hF⟩ := hex
    refine ⟨some a, len, cap, F, rfl, fun i hi => ?_, hbd⟩
    have g0 := hF i hi 0 (by omega)
    have g1 := hF i hi 1 (by omega)
    have g2 := hF i hi 2 (by omega)
    have g3 := hF i hi 3 (by omega)
    have g4 := hF i hi 4 (by omega)
    have g5 := hF i hi 5 (by omega)
    have gz := hF 0 (by omega) 0 (by omega)
    rw [Nat.zero_mul] at gz
    obtain ⟨b, off, rfl⟩ : ∃ b off, a = ⟨b, off, none⟩ := by
      have : W.cell? (a.add 0) = some (.int .i64 (F 0).1) := by
        rw [show (a.add 0).add 0 = a.add 0 by cases a with | mk b o s => cases s <;> simp [Addr.add]] at gz
        simpa using gz
      exact spot9 this
    rw [add_plain, add_plain] at g0 g1 g2 g3 g4 g5
    exact ⟨b, off, rfl, by simpa using g0, by simpa using g1, by simpa using g2, by simpa using g3, by simpa using g4, by simpa using g5⟩
set_option maxRecDepth 100000 in
theorem stack_cells {H : Type} {enc : TypeId × Value → H} {W : World} {m : Nat} {cs : List Value} {y : DataW H × List MemPlace}
    (h : DataW.trod enc Tryz.prog W 0 (fun _ => true) true m 87 cs = some y) (hk : ∀ n ∈ y.1.weights Tryz.prog 87, n ≤ reachBytes) : ∃ (t : Int × Int × Int) (a : Option Addr) (c : Nat) (l : List (Int × Int × Int)), cs = [.int .i64 t.1, .int .i64 t.2.1, .int .i64 t.2.2, .slice a l.length c] ∧ l.length ≤ c ∧ TRowG W a l ∧ l.length ≤ 5864062014805 := by
  obtain ⟨y0, y1, n, hx, hl, h0, h1⟩ := trod_struct2 Tryz.underlying87 h
  rw [c87] at hl
  obtain ⟨a0, a1, a2, a3, rfl⟩ := four9 hl
  simp [c43, c44] at h0 h1
  obtain ⟨t, e⟩ := tri_came h0
  simp at e
  obtain ⟨rfl, rfl, rfl⟩ := e
  obtain ⟨a, c, l, rfl, hc, hT, hb⟩ := tris_cells h1 (fun q hq => hk q (by
    rw [hx]
    unfold DataW.weights
    rw [Tryz.underlying87]
    exact DataW.weights_mem_each (j := 1) (t := 44) (d := y1.1) rfl rfl q hq))
  exact ⟨t, a, c, l, rfl, hc, hT, hb⟩
set_option maxRecDepth 100000 in
/-- Stacks that came in. -/
theorem stacks_cells {H : Type} {enc : TypeId × Value → H} {W : World} {fuel : Nat} {v : Value} {x : DataW H × List MemPlace}
    (h : DataW.trod enc Tryz.prog W 0 (fun _ => true) true fuel 27 [v] = some x) (hk : ∀ n ∈ x.1.weights Tryz.prog 27, n ≤ reachBytes) :
    ∃ (a : Option Addr) (c : Nat) (S : List ((Int × Int × Int) × List (Int × Int × Int))), v = .slice a S.length c ∧ SRowG W a S ∧ S.length ≤ 2932031007402 ∧ ∀ s ∈ S, s.2.length ≤ 5864062014805 := by
  rcases DataW.trod_slice Tryz.underlying27 h with ⟨e, _⟩ | ⟨a, len, cap, elems, rest, n, _, e, rfl, hb, hl, hm, hlen, hel, hsp, hns⟩
  · simp at e
    subst e
    exact ⟨none, 0, [], rfl, fun i hi => by simp at hi, by simp, fun s hs => by simp at hs⟩
  · simp at e
    subst e
    rw [c87] at hel
    have each : ∀ i, i < len → ∃ s : (Int × Int × Int) × List (Int × Int × Int), ∃ (sa : Option Addr) (sc : Nat), (∀ j, j < 4 → W.cell? ((a.add (i * 4)).add j) = [Value.int .i64 s.1.1, .int .i64 s.1.2.1, .int .i64 s.1.2.2, .slice sa s.2.length sc][j]?) ∧ s.2.length ≤ sc ∧ TRowG W sa s.2 ∧ s.2.length ≤ 5864062014805 := fun i hi => by
      have e := hel i hi
      rw [List.getElem?_eq_getElem (by omega), Option.bind_eq_some_iff] at e
      obtain ⟨cs', hcs, hy'⟩ := e
      obtain ⟨t, sa, sc, l, rfl, hc, hT, hb⟩ := stack_cells hy' (fun q hq => hk q (by
        simp only [DataW.weights, Tryz.underlying27]
        refine List.mem_cons_of_mem _ (List.mem_append_left _ (weightsAll_mem (d := (elems[i]'(by omega)).1) ?_ q hq))
        exact List.mem_map_of_mem (List.getElem_mem _)))
      exact ⟨(t, l), sa, sc, (World.cells?_some hcs).2.2, hc, hT, hb⟩
    have hbd : len ≤ 2932031007402 := by
      have := hk (((elems.map (·.1)).length + (rest.map (·.1)).length) * Tryz.prog.bytesOf 87) (by simp [DataW.weights, Tryz.underlying27])
      rw [by87, List.length_map, List.length_map, hlen] at this
      unfold reachBytes at this
      omega
    have hex : ∃ F : Nat → (Int × Int × Int) × List (Int × Int × Int), ∀ i, i < len → ∃ (sa : Option Addr) (sc : Nat), (∀ j, j < 4 → W.cell? ((a.add (i * 4)).add j) = [Value.int .i64 (F i).1.1, .int .i64 (F i).1.2.1, .int .i64 (F i).1.2.2, .slice sa (F i).2.length sc][j]?) ∧ (F i).2.length ≤ sc ∧ TRowG W sa (F i).2 ∧ (F i).2.length ≤ 5864062014805 := by
      refine ⟨fun i => if h : i < len then Classical.choose (each i h) else ((0, 0, 0), []), fun i hi => ?_⟩
      simp only [dif_pos hi]
      exact Classical.choose_spec (each i hi)
    obtain ⟨F, hF⟩ := hex
    refine ⟨some a, cap, (List.range len).map F, by simp, fun i hi => ?_, by simpa using hbd, fun s hs => ?_⟩
    · have hi' : i < len := by simpa using hi
      obtain ⟨sa, sc, hc4, h1, h2, _⟩ := hF i hi'
      obtain ⟨_, _, hz4, _⟩ := hF 0 (by omega)
      have g0 := hc4 0 (by omega)
      have g1 := hc4 1 (by omega)
      have g2 := hc4 2 (by omega)
      have g3 := hc4 3 (by omega)
      have gz := hz4 0 (by omega)
      rw [Nat.zero_mul] at gz
      obtain ⟨b, off, rfl⟩ : ∃ b off, a = ⟨b, off, none⟩ := by
        have : W.cell? (a.add 0) = some (.int .i64 (F 0).1.1) := by
          rw [show (a.add 0).add 0 = a.add 0 by cases a with | mk b o s => cases s <;> simp [Addr.add]] at gz
          simpa using gz
        exact spot9 this
      rw [add_plain, add_plain] at g0 g1 g2 g3
      simp only [List.getElem_map, List.getElem_range]
      exact ⟨b, off, sa, sc, rfl, by simpa using g0, by simpa using g1, by simpa using g2, by simpa using g3, h1, h2⟩
    · rw [List.mem_map] at hs
      obtain ⟨i, hi, rfl⟩ := hs
      rw [List.mem_range] at hi
      obtain ⟨_, _, _, _, _, h⟩ := hF i hi
      exact h
set_option maxRecDepth 100000 in
/-- A state that came in, opened. -/
theorem state_of {H : Type} {enc : TypeId × Value → H} {W : World} {base : Nat} {v : Value} {d : DataW H} {p : List MemPlace} (hv : Value.okWide Tryz.prog W .any base 29 v)
    (h : DataW.Trod enc Tryz.prog W 0 (fun _ => true) true 29 v d p) (hk : ∀ n ∈ d.weights Tryz.prog 29, n ≤ reachBytes) :
    ∃ (X Y : Int) (a c mp sp : Option Addr) (ca cc n mn mc sc : Nat) (zs ks : List Int) (M : Nat → M6) (S : List ((Int × Int × Int) × List (Int × Int × Int))), v = .agg #[.int .i64 X, .int .i64 Y, .slice a zs.length ca, .slice c n cc, .slice mp mn mc, .slice sp S.length sc] ∧ Row W a zs ∧ Row W c ks ∧ ks.length = n * 5 ∧ zs.length ≤ 17592186044416 ∧ n ≤ 3518437208883 ∧ MRowG W mp mn M ∧ mn ≤ 2932031007402 ∧ SRowG W sp S ∧ S.length ≤ 2932031007402 ∧ ∀ s ∈ S, s.2.length ≤ 5864062014805 := by
  obtain ⟨cs, rfl, hsz⟩ := okWide_struct Tryz.underlying29 hv
  obtain ⟨l⟩ := cs
  obtain ⟨e0, e1, e2, e3, e4, e5, rfl⟩ := six9 (cs := l) (by have := hsz.trans c29; simpa using this)
  obtain ⟨fuel, hf⟩ := h
  obtain ⟨y0, y1, y2, n, hx, _, t0, t1, t2⟩ := trod_struct3 Tryz.underlying29 hf
  simp only [Prod.mk.injEq] at hx
  obtain ⟨rfl, _⟩ := hx
  have hw : DataW.weights Tryz.prog 29 (.agg [y0.1, y1.1, y2.1]) = DataW.weightsEach Tryz.prog [25, 26, 27] [y0.1, y1.1, y2.1] := by
    unfold DataW.weights
    rw [Tryz.underlying29]
    rfl
  rw [hw] at hk
  simp [Value.cells, c74, c26, c27s] at t0 t1 t2
  obtain ⟨X, Y, a, c, ca, cc, m, zs, ks, e, r1, r2, r3, r4, r5⟩ := sheet_cells t0 (fun q hq => hk q (DataW.weights_mem_each (j := 0) (t := 25) (d := y0.1) rfl rfl q hq))
  simp at e
  obtain ⟨rfl, rfl, rfl, rfl⟩ := e
  obtain ⟨mp, mn, mc, M, rfl, r6, r7⟩ := maps_cells t1 (fun q hq => hk q (DataW.weights_mem_each (j := 1) (t := 26) (d := y1.1) rfl rfl q hq))
  obtain ⟨sp, sc, S, rfl, r8, r9, r10⟩ := stacks_cells t2 (fun q hq => hk q (DataW.weights_mem_each (j := 2) (t := 27) (d := y2.1) rfl rfl q hq))
  exact ⟨X, Y, a, c, mp, sp, ca, cc, m, mn, mc, sc, zs, ks, M, S, rfl, r1, r2, r3, r4, r5, r6, r7, r8, r9, r10⟩
end Go.Proofs.YtmjhfdohcghhoaaGreatDoor
namespace Go.Proofs.YtmjhfdohcghhoaaGreatDoor
open Go.RowKit

theorem kp_filter (F : List (List (Int × Int × Int))) (q : List (Int × Int × Int) → Bool) : ∀ i, i ≤ F.length → ((kpI (fun k => q (F.getD k [])) i).map fun k => F.getD k []) = (F.take i).filter fun f => !(q f)
  | 0, _ => by simp [kpI]
  | i + 1, h => by
    have hi : i < F.length := by omega
    have e1 : F.getD i [] = F[i] := by rw [List.getD_eq_getElem?_getD, List.getElem?_eq_getElem hi]; rfl
    rw [List.take_add_one, List.getElem?_eq_getElem hi, List.filter_append, ← kp_filter F q i (by omega)]
    cases e : q F[i]
    · rw [kpI_no (by rw [e1]; exact e), List.map_append]
      simp [e, hi]
    · rw [kpI_yes (by rw [e1]; exact e)]
      simp [e]
theorem rfs_filter (L : List (Int × Int × Int)) (th : Nat → Bool) (who : Nat → Nat) (g : List (Int × Int × Int) → Bool) (hg : ∀ i, i < L.length → who i = i → g (sel L who i L.length) = th i) : ∀ i, i ≤ L.length → (rfs L who i).filter g = rfsT L th who i
  | 0, _ => by simp [rfs, rfsT]
  | i + 1, h => by
    have ih := rfs_filter L th who g hg i (by omega)
    unfold rfs rfsT
    by_cases e : who i = i
    · have e2 := hg i (by omega) e
      cases e3 : th i
      · rw [if_pos e, if_neg (by simp), List.filter_append, ih]
        simp [e2, e3]
      · rw [if_pos e, if_pos ⟨e, by simp⟩, List.filter_append, ih]
        simp [e2, e3]
    · rw [if_neg e, if_neg (fun q => e q.1), ih]
theorem sel_low (L : List (Int × Int × Int)) (who : Nat → Nat) (i : Nat) (hw : ∀ a, a < L.length → who a ≤ a) : ∀ k, k ≤ i → k ≤ L.length → sel L who i k = []
  | 0, _, _ => rfl
  | k + 1, h1, h2 => by
    have := hw k (by omega)
    unfold sel
    rw [if_neg (by omega), sel_low L who i hw k (by omega) (by omega)]
theorem sel_first (L : List (Int × Int × Int)) (who : Nat → Nat) (i : Nat) (hw : ∀ a, a < L.length → who a ≤ a) (hi : who i = i) : ∀ m, i + 1 + m ≤ L.length → ∃ r, sel L who i (i + 1 + m) = L.getD i (0, 0, 0) :: r
  | 0, h => by
    refine ⟨[], ?_⟩
    show sel L who i (i + 1) = _
    unfold sel
    rw [if_pos hi, sel_low L who i hw i (Nat.le_refl _) (by omega)]
    rfl
  | m + 1, h => by
    obtain ⟨r, e⟩ := sel_first L who i hw hi m (by omega)
    show ∃ r, sel L who i (i + 1 + m + 1) = _
    unfold sel
    rw [e]
    by_cases q : who (i + 1 + m) = i
    · rw [if_pos q]
      exact ⟨_, rfl⟩
    · rw [if_neg q]
      exact ⟨_, rfl⟩
theorem sel_head {L : List (Int × Int × Int)} {who : Nat → Nat} {i : Nat} (hw : ∀ a, a < L.length → who a ≤ a) (hl : i < L.length) (hi : who i = i) : (sel L who i L.length).getD 0 (0, 0, 0) = L.getD i (0, 0, 0) := by
  obtain ⟨r, e⟩ := sel_first L who i hw hi (L.length - (i + 1)) (by omega)
  rw [show i + 1 + (L.length - (i + 1)) = L.length by omega] at e
  rw [e]
  rfl
theorem lyL_mem {L pl : List (Int × Int × Int)} {p : Int × Int × Int} {i : Nat} (hnd : L.Nodup) (hi : i < L.length) : L.getD i (0, 0, 0) ∈ lyL L pl p L.length ↔ pl.getD i (0, 0, 0) = p := by
  have gd : ∀ k (h : k < L.length), L.getD k (0, 0, 0) = L[k] := fun k h => by rw [List.getD_eq_getElem?_getD, List.getElem?_eq_getElem h]; rfl
  unfold lyL
  rw [List.mem_flatMap]
  constructor
  · rintro ⟨j, hj, hm⟩
    rw [List.mem_range] at hj
    split at hm
    · rename_i hp
      rw [List.mem_singleton, gd i hi, gd j hj] at hm
      have : i = j := nodup_atH hnd hi hj hm
      rw [this]
      exact hp
    · cases hm
  · intro h
    exact ⟨i, List.mem_range.2 hi, by rw [if_pos h]; exact List.mem_singleton.2 rfl⟩
theorem th_same {L pl : List (Int × Int × Int)} {p : Int × Int × Int} {i : Nat} (hnd : L.Nodup) (hi : i < L.length) : thO L (lyL L pl p L.length) i = thP pl p i := by
  unfold thO thP
  rw [decide_eq_decide.2 (lyL_mem hnd hi)]
/-- What the code leaves is what the reference leaves. -/
theorem left_same {L pl : List (Int × Int × Int)} {p : Int × Int × Int} {part : Nat → Int} {who : Nat → Nat} (hnd : L.Nodup) (hk : ∀ t ∈ L, Kd t) (hP : PartsOk (crS L (sdT (thO L (lyL L pl p L.length)) (fun _ => 0))) L part) (hI : InvC (crS L (sdT (thP pl p) (fun _ => 0))) L who) (hO : ∀ i e, i < L.length → e < 3 → OkC (crS L (sdT (thP pl p) (fun _ => 0))) L who i e) :
    ((kpI (delF (fcs L part L.length) (lyL L pl p L.length)) (fcs L part L.length).length).map fun k => (fcs L part L.length).getD k []) = rfsT L (thP pl p) who L.length := by
  have hc : crS L (sdT (thO L (lyL L pl p L.length)) (fun _ => 0)) = crS L (sdT (thP pl p) (fun _ => 0)) := crS_same fun a b ha hb => by
    unfold sdT
    rw [th_same hnd ha, th_same hnd hb]
  rw [hc] at hP
  rw [faces_same hnd hk hP hI hO]
  have hw : ∀ a, a < L.length → who a ≤ a := fun a ha => (hI a ha).1
  have h1 := kp_filter (rfs L who L.length) (fun f => decide (f.getD 0 (0, 0, 0) ∈ lyL L pl p L.length)) (rfs L who L.length).length (Nat.le_refl _)
  rw [List.take_length] at h1
  have h2 := rfs_filter L (thP pl p) who (fun f => !(decide (f.getD 0 (0, 0, 0) ∈ lyL L pl p L.length))) (fun i hi e => by
    show (!(decide ((sel L who i L.length).getD 0 (0, 0, 0) ∈ lyL L pl p L.length))) = _
    rw [sel_head hw hi e]
    exact th_same hnd hi) L.length (Nat.le_refl _)
  exact h1.trans h2
theorem rfsT_lens (L : List (Int × Int × Int)) (th : Nat → Bool) (who : Nat → Nat) : ∀ i, ∀ f ∈ rfsT L th who i, f.length ≤ L.length
  | 0, f, h => by simp [rfsT] at h
  | i + 1, f, h => by
    unfold rfsT at h
    split at h
    · rcases List.mem_append.1 h with h | h
      · exact rfsT_lens L th who i f h
      · simp at h
        rw [h]
        exact sel_le L who i L.length
    · exact rfsT_lens L th who i f h
theorem cutPunches_any (W H x y t : Int) (a c mp sp : Option Addr) (ca cc n mn mc sc : Nat) (zs ks : List Int) (M : Nat → M6) (S : List ((Int × Int × Int) × List (Int × Int × Int))) (w : World) (hz : Row w a zs) (hk : Row w c ks) (hn : ks.length = n * 5) (h1 : zs.length ≤ 17592186044416) (h2 : n ≤ 3518437208883) (hM : MRowG w mp mn M) (hmn : mn ≤ 2932031007402) (hS : SRowG w sp S) (hSl : S.length ≤ 2932031007402) (hSe : ∀ s ∈ S, s.2.length ≤ 5864062014805) (hs0 : Steps w) :
    Calls Tryz.prog 4 #[.agg #[.int .i64 W, .int .i64 H, .slice a zs.length ca, .slice c n cc, .slice mp mn mc, .slice sp S.length sc], .agg #[.int .i64 x, .int .i64 y, .int .i64 t]] w fun e w' => e = .returned (.bool true) ∧ Below w.heap.size w w' := by
  have hcopy := state_copy W H a c mp sp ca cc n mn mc sc zs ks M S w hz hk hn h1 h2 hM hmn hS hSl hSe hs0
  rcases state_either W H a c mp sp ca cc n mn mc sc zs ks M S w hz hk hn h1 h2 hM hmn hS hSl hSe hs0 with ⟨q8, q22⟩ | ⟨Wn, Hn, b, off, rfl, rfl, rfl, hW, hH, hl, hm, hJ, hC, hok, q8, q22⟩
  · refine pun_no W H x y t a c mp sp zs.length ca n cc mn mc S.length sc w (fun V hV => (hcopy V hV).mono fun e w' ⟨a', ca', b', cb', ma, mc', tt, u, he, hc, hb⟩ => ⟨_, he, hb, fun V2 hV2 => ?_⟩) q8
    exact punch_no W H x y t a' b' ma tt zs.length ca' n cb' mn mc' S.length u V2 (fun V3 hV3 => q22 V3 a' b' ma tt ca' cb' mc' u (bl_via hV (bl_via hb (bl_via hV2 hV3))) (hc.kept (bl_via hV2 hV3)))
  · have hlen : (ty zs Wn Hn).length ≤ 256 := by have := ty_len zs Wn Hn hW.2; omega
    have hnd := ty_nodup zs Wn Hn
    have hbd := ty_bd (zs := zs) hW.2 hH.2
    have hkd : ∀ t ∈ ty zs Wn Hn, Kd t := fun t ht => (hbd t ht).2.2
    have q22' : ∀ (V : World) (a' b' ma tt : Option Addr) (ca' cb' mc' u : Nat), Below w.heap.size w V → CopyAt V mn zs ks M S a' b' ma tt → Calls Tryz.prog 22 #[.agg #[.int .i64 (Wn : Int), .int .i64 (Hn : Int), .slice a' zs.length ca', .slice b' n cb', .slice ma mn mc', .slice tt S.length u]] V fun e w' => ∃ M' ad k ra rk gm cm pa pc f, e = .returned (.tuple #[.agg #[.slice ad (ty zs Wn Hn).length k, .map (some ra), .map (some rk), .slice (some ⟨gm, 0, none⟩) (ty zs Wn Hn).length cm, .slice pa (ty zs Wn Hn).length pc], f, .bool true]) ∧ PileAt w' ad k ra rk gm cm pa pc (ty zs Wn Hn) (kdn ks n) M' ∧ M' = M ∧ Below V.heap.size V w' := fun V a' b' ma tt ca' cb' mc' u hV hc => (q22 V a' b' ma tt ca' cb' mc' u hV hc).mono fun e w' ⟨ad, k, ra, rk, gm, cm, pa, pc, f, he, hp, hB⟩ => ⟨M, ad, k, ra, rk, gm, cm, pa, pc, f, he, hp, rfl, hB⟩
    cases hln : triB x y t
    · refine pun_place (Wn : Int) (Hn : Int) x y t (some ⟨b, off, none⟩) c mp sp zs.length ca n cc mn mc S.length sc w (fun V hV => (hcopy V hV).mono fun e w' ⟨a', ca', b', cb', ma, mc', tt, u, he, hc, hb⟩ => ⟨_, he, hb, fun V2 hV2 => ?_⟩) q8 hln
      exact punch_place (Wn : Int) (Hn : Int) x y t a' b' ma tt zs.length ca' n cb' mn mc' S.length u (ty zs Wn Hn).length (ty zs Wn Hn) (kdn ks n) (fun M' => M' = M) V2 hln (fun V3 hV3 => q22' V3 a' b' ma tt ca' cb' mc' u (bl_via hV (bl_via hb (bl_via hV2 hV3))) (hc.kept (bl_via hV2 hV3)))
    · obtain ⟨hmnL, hmok, hst⟩ := hok
      subst hmnL
      refine pun_ok (Wn : Int) (Hn : Int) x y t (some ⟨b, off, none⟩) c mp sp zs.length ca n cc _ mc S.length sc (fun V pa pl pb pm => ∃ part, PartsOk (crS (ty zs Wn Hn) (sdT (thO (ty zs Wn Hn) (lyL (ty zs Wn Hn) (pls (ty zs Wn Hn) M (ty zs Wn Hn).length) (x, y, t) (ty zs Wn Hn).length)) (fun _ => 0))) (ty zs Wn Hn) part ∧ pl = (lyL (ty zs Wn Hn) (pls (ty zs Wn Hn) M (ty zs Wn Hn).length) (x, y, t) (ty zs Wn Hn).length).length ∧ TRow V pa (lyL (ty zs Wn Hn) (pls (ty zs Wn Hn) M (ty zs Wn Hn).length) (x, y, t) (ty zs Wn Hn).length) ∧ pm = ((kpI (delF (fcs (ty zs Wn Hn) part (ty zs Wn Hn).length) (lyL (ty zs Wn Hn) (pls (ty zs Wn Hn) M (ty zs Wn Hn).length) (x, y, t) (ty zs Wn Hn).length)) (fcs (ty zs Wn Hn) part (ty zs Wn Hn).length).length).map fun k => (fcs (ty zs Wn Hn) part (ty zs Wn Hn).length).getD k []).length ∧ NRe V pb ((kpI (delF (fcs (ty zs Wn Hn) part (ty zs Wn Hn).length) (lyL (ty zs Wn Hn) (pls (ty zs Wn Hn) M (ty zs Wn Hn).length) (x, y, t) (ty zs Wn Hn).length)) (fcs (ty zs Wn Hn) part (ty zs Wn Hn).length).length).map fun k => (fcs (ty zs Wn Hn) part (ty zs Wn Hn).length).getD k [])) (fun V qa ql qb qm => ∃ who, (InvC (crS (ty zs Wn Hn) (sdT (thP (pls (ty zs Wn Hn) M (ty zs Wn Hn).length) (x, y, t)) (fun _ => 0))) (ty zs Wn Hn) who ∧ ∀ i e, i < (ty zs Wn Hn).length → e < 3 → OkC (crS (ty zs Wn Hn) (sdT (thP (pls (ty zs Wn Hn) M (ty zs Wn Hn).length) (x, y, t)) (fun _ => 0))) (ty zs Wn Hn) who i e) ∧ ql = (lyL (ty zs Wn Hn) (pls (ty zs Wn Hn) M (ty zs Wn Hn).length) (x, y, t) (ty zs Wn Hn).length).length ∧ TRow V qa (lyL (ty zs Wn Hn) (pls (ty zs Wn Hn) M (ty zs Wn Hn).length) (x, y, t) (ty zs Wn Hn).length) ∧ qm = (rfsT (ty zs Wn Hn) (thP (pls (ty zs Wn Hn) M (ty zs Wn Hn).length) (x, y, t)) who (ty zs Wn Hn).length).length ∧ NRe V qb (rfsT (ty zs Wn Hn) (thP (pls (ty zs Wn Hn) M (ty zs Wn Hn).length) (x, y, t)) who (ty zs Wn Hn).length)) w (fun V hV => (hcopy V hV).mono fun e w' ⟨a', ca', b', cb', ma, mc', tt, u, he, hc, hb⟩ => ⟨_, he, hb, fun V2 hV2 => ?_⟩) q8 hln (fun V hV => ?_) (fun pa pl pb pm V V2 ⟨part, hp, e1, h1, e2, h2⟩ hb => ⟨part, hp, e1, h1.kept hb, e2, h2.kept hb⟩) (fun pa pl pb pm V V2 ⟨who, hp, e1, h1, e2, h2⟩ hb => ⟨who, hp, e1, h1.kept hb, e2, h2.kept hb⟩) (fun V pa qa pb qb pl ql pm qm pc qc hp hq => ?_) (fun V pa qa pb qb pl ql pm qm pd qd hp hq => ?_)
      · refine (punch_ok (Wn : Int) (Hn : Int) x y t a' b' ma tt zs.length ca' n cb' _ mc' S.length u (ty zs Wn Hn).length (ty zs Wn Hn) (kdn ks n) (fun M' => M' = M) V2 rfl hJ.1 (by omega) hln (hs0.kept (bl_via hV (bl_via hb hV2))) hnd hbd (fun V3 hV3 => q22' V3 a' b' ma tt ca' cb' mc' u (bl_via hV (bl_via hb (bl_via hV2 hV3))) (hc.kept (bl_via hV2 hV3)))).mono fun e2 w2 h => ?_
        obtain ⟨M', a1, c1, a2, c2, part, rfl, he2, hT, hp, hne, hb2⟩ := h
        exact ⟨a1, _, c1, a2, _, c2, he2, ⟨part, hp, rfl, hT, by rw [List.length_map], hne⟩, hb2⟩
      · have := punchOf_any (Wn : Int) (Hn : Int) x y t (some ⟨b, off, none⟩) c mp sp zs.length ca n cc mc S.length sc (ty zs Wn Hn).length V (ty zs Wn Hn) M (fun V2 hV2 => (trisOf_any Wn Hn b off ca zs (.slice c n cc) V2 (hz.kept (bl_via hV hV2)) hW hH hl hm).mono fun e w' ⟨v, he, ho, hb⟩ => by
            obtain ⟨a9, c9, rfl, hT⟩ := own_tris ho
            exact ⟨a9, c9, he, hT, hb⟩) (fun V2 gt gd th sd hV2 h3 h4 => piecesOf_any Wn Hn b off ca n cc gt (ty zs Wn Hn).length gd (ty zs Wn Hn).length c zs th sd V2 (hz.kept (bl_via hV hV2)) hW hH hl hm h3 h4) (hM.kept hV) hmok.1 rfl hJ.1 hlen hbd
        refine this.mono fun e w' h => ?_
        obtain ⟨a1, c1, a2, c2, who, he, hT, hio, hne, hb⟩ := h
        exact ⟨a1, _, c1, a2, _, c2, he, ⟨who, hio, rfl, hT, rfl, hne⟩, hb⟩
      · obtain ⟨part, hpo, rfl, hT1, _⟩ := hp
        obtain ⟨who, hio, rfl, hT2, _⟩ := hq
        exact sameTris_yes pa qa pc qc _ V (by have := lyL_len (ty zs Wn Hn) (pls (ty zs Wn Hn) M (ty zs Wn Hn).length) (x, y, t) (ty zs Wn Hn).length; omega) hT1 hT2
      · obtain ⟨part, hpo, _, _, rfl, hnp⟩ := hp
        obtain ⟨who, hio, _, _, rfl, hnq⟩ := hq
        rw [left_same hnd hkd hpo hio.1 hio.2] at hnp ⊢
        exact samePieces_yes pb qb pd qd _ V (by have := rfsT_le (ty zs Wn Hn) (thP (pls (ty zs Wn Hn) M (ty zs Wn Hn).length) (x, y, t)) who (ty zs Wn Hn).length; omega) (fun f hf => by have := rfsT_lens (ty zs Wn Hn) (thP (pls (ty zs Wn Hn) M (ty zs Wn Hn).length) (x, y, t)) who _ f hf; omega) hnp hnq
end Go.Proofs.YtmjhfdohcghhoaaGreatDoor
