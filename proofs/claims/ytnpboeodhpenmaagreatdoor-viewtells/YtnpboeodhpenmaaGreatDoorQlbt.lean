/- A part of the proof of viewTells_holds. -/
import Derived.Test.YtnpboeodhpenmaaGreatDoorQlah
import Derived.Test.YtnpboeodhpenmaaGreatDoorQlbs
import Derived.Deep.Strs
namespace Go.Proofs.YtnpboeodhpenmaaGreatDoor
open Go.ChangeShapes Go.WideShapes Go.ChangeAt Go.WideMaps Go.WideElems Go.RowKit Go.Joins Go.Deep

theorem four9 {cs : List Value} (h : cs.length = 4) : ∃ a0 a1 a2 a3, cs = [a0, a1, a2, a3] := by
  match cs, h with
  | [a0, a1, a2, a3], _ => exact ⟨a0, a1, a2, a3, rfl⟩
theorem three9 {cs : List Value} (h : cs.length = 3) : ∃ a0 a1 a2, cs = [a0, a1, a2] := by
  match cs, h with
  | [a0, a1, a2], _ => exact ⟨a0, a1, a2, rfl⟩
theorem six9 {cs : List Value} (h : cs.length = 6) : ∃ a0 a1 a2 a3 a4 a5, cs = [a0, a1, a2, a3, a4, a5] := by
  match cs, h with
  | [a0, a1, a2, a3, a4, a5], _ => exact ⟨a0, a1, a2, a3, a4, a5, rfl⟩
theorem c43 : Tryz.prog.cellsOf 51 = 3 := by kernel_rfl
theorem c44 : Tryz.prog.cellsOf 55 = 1 := by kernel_rfl
theorem c26 : Tryz.prog.cellsOf 26 = 1 := by kernel_rfl
theorem c27s : Tryz.prog.cellsOf 27 = 1 := by kernel_rfl
theorem c29 : Tryz.prog.cellsOf 29 = 6 := by kernel_rfl
theorem c87 : Tryz.prog.cellsOf 107 = 4 := by kernel_rfl
theorem c95 : Tryz.prog.cellsOf 91 = 6 := by kernel_rfl
theorem by43 : Tryz.prog.bytesOf 51 = 24 := by kernel_rfl
theorem by87 : Tryz.prog.bytesOf 107 = 48 := by kernel_rfl
theorem by95 : Tryz.prog.bytesOf 91 = 48 := by kernel_rfl
theorem weightsAll_mem {H : Type} {P : Program} {e : TypeId} : ∀ {ds : List (DataW H)} {d : DataW H}, d ∈ ds → ∀ n ∈ d.weights P e, n ∈ DataW.weightsAll P e ds
  | d' :: r, d, h, n, hn => by
    rcases List.mem_cons.1 h with rfl | h
    · simp [DataW.weightsAll, hn]
    · simp only [DataW.weightsAll, List.mem_append]
      exact Or.inr (weightsAll_mem h n hn)
set_option maxRecDepth 100000 in
/-- A sheet's cells. -/
theorem sheet_cells {H : Type} {enc : TypeId × Value → H} {W : World} {fuel : Nat} {e0 e1 e2 e3 : Value} {x : DataW H × List MemPlace}
    (hf : DataW.trod enc Tryz.prog W 0 (fun _ => true) true fuel 25 [e0, e1, e2, e3] = some x) (hk : ∀ n ∈ x.1.weights Tryz.prog 25, n ≤ reachBytes) :
    ∃ (X Y : Int) (a c : Option Addr) (ca cc n : Nat) (zs ks : List Int), [e0, e1, e2, e3] = [.int .i64 X, .int .i64 Y, .slice a zs.length ca, .slice c n cc] ∧ Row W a zs ∧ Row W c ks ∧ ks.length = n * 5 ∧ zs.length ≤ 17592186044416 ∧ n ≤ 3518437208883 := by
  obtain ⟨d, p⟩ := x
  obtain ⟨y0, y1, y2, y3, n, hx, _, t0, t1, t2, t3⟩ := trod_struct4 Tryz.underlying25 hf
  simp only [Prod.mk.injEq] at hx
  obtain ⟨rfl, _⟩ := hx
  rw [weights_sheet] at hk
  simp [c3, c70, c72] at t0 t1 t2 t3
  obtain ⟨X, r0, _, _⟩ := DataW.trod_int Tryz.underlying3 t0
  obtain ⟨Y, r1, _, _⟩ := DataW.trod_int Tryz.underlying3 t1
  simp at r0 r1
  subst r0 r1
  obtain ⟨c, m, cc, ks, r3, hn, hrow, hlen⟩ := creases_of t3
  simp at r3
  subst r3
  have hm : m ≤ 3518437208883 := by
    rcases hlen with rfl | ⟨es, rs, rfl, e⟩
    · omega
    · have := hk ((es.length + rs.length) * Tryz.prog.bytesOf 80) (DataW.weights_mem_each (j := 3) (t := 23) (d := y3.1) rfl rfl _ (by rw [e]; simp [DataW.weights, Tryz.underlying23]))
      rw [by110] at this
      unfold reachBytes at this
      omega
  rcases open_ints Tryz.underlying22 Tryz.underlying3 c3 t2 with ⟨r2, _⟩ | ⟨x, l, cap, zs, r2, _, hl, _, hz, hy, hcell, _⟩
  · simp at r2
    subst r2
    exact ⟨X, Y, none, c, 0, cc, m, [], ks, rfl, fun i hi => absurd hi (by simp), hrow, hn, by simp, hm⟩
  · simp at r2
    subst r2
    have hz' : zs.length = cap := by simpa using hz
    have hlz : (zs.take l).length = l := by rw [List.length_take]; omega
    refine ⟨X, Y, some x, c, cap, cc, m, zs.take l, ks, by rw [hlz], ?_, hrow, hn, ?_, hm⟩
    · intro i hi
      rw [hlz] at hi
      obtain ⟨b, off, rfl, hc'⟩ := ints_at hcell (by omega)
      refine ⟨b, off, rfl, ?_⟩
      rw [hc' i (by omega), List.getElem_take, List.getD_eq_getElem?_getD, List.getElem?_eq_getElem (by omega)]
      rfl
    · have := hk (((lits (H := H) .i64 (zs.take l)).length + (lits (H := H) .i64 (zs.drop l)).length) * Tryz.prog.bytesOf 3) (DataW.weights_mem_each (j := 2) (t := 22) (d := y2.1) rfl rfl _ (by rw [hy]; simp [DataW.weights, Tryz.underlying22]))
      rw [by3, show (lits (H := H) .i64 (zs.take l)).length = (zs.take l).length by simp [lits]] at this
      unfold reachBytes at this
      omega
set_option maxRecDepth 100000 in
theorem tri_came {H : Type} {enc : TypeId × Value → H} {W : World} {base : Nat} {sp : Nat → Bool} {hd : Bool} {m : Nat} {cs : List Value} {y : DataW H × List MemPlace}
    (h : DataW.trod enc Tryz.prog W base sp hd m 51 cs = some y) : ∃ t : Int × Int × Int, cs = [.int .i64 t.1, .int .i64 t.2.1, .int .i64 t.2.2] := by
  obtain ⟨y0, y1, y2, n, _, hl, h0, h1, h2⟩ := trod_struct3 Tryz.underlying51 h
  rw [c43] at hl
  obtain ⟨a0, a1, a2, rfl⟩ := three9 hl
  simp [c3] at h0 h1 h2
  obtain ⟨x0, r0, _, _⟩ := DataW.trod_int Tryz.underlying3 h0
  obtain ⟨x1, r1, _, _⟩ := DataW.trod_int Tryz.underlying3 h1
  obtain ⟨x2, r2, _, _⟩ := DataW.trod_int Tryz.underlying3 h2
  simp at r0 r1 r2
  exact ⟨(x0, x1, x2), by rw [r0, r1, r2]⟩
theorem spot9 {W : World} {a : Addr} {v : Value} (h : W.cell? (a.add 0) = some v) : ∃ b off, a = ⟨b, off, none⟩ := by
  obtain ⟨b, off, spot⟩ := a
  have hspot : spot = none := by simpa [Addr.add] using World.cell?_spot h
  subst hspot
  exact ⟨b, off, rfl⟩
set_option maxRecDepth 100000 in
/-- A row of triangles that came in. -/
theorem tris_cells {H : Type} {enc : TypeId × Value → H} {W : World} {fuel : Nat} {v : Value} {x : DataW H × List MemPlace}
    (h : DataW.trod enc Tryz.prog W 0 (fun _ => true) true fuel 55 [v] = some x) (hk : ∀ n ∈ x.1.weights Tryz.prog 55, n ≤ reachBytes) :
    ∃ (a : Option Addr) (c : Nat) (l : List (Int × Int × Int)), v = .slice a l.length c ∧ l.length ≤ c ∧ TRowG W a l ∧ l.length ≤ 5864062014805 := by
  rcases DataW.trod_slice Tryz.underlying55 h with ⟨e, _⟩ | ⟨a, len, cap, elems, rest, n, _, e, rfl, hb, hl, hm, hlen, hel, hsp, hns⟩
  · simp at e
    subst e
    exact ⟨none, 0, [], rfl, Nat.le_refl _, fun i hi => by simp at hi, by simp⟩
  · simp at e
    subst e
    rw [c43] at hel
    have each : ∀ i, i < len → ∃ t : Int × Int × Int, ∀ j, j < 3 → W.cell? ((a.add (i * 3)).add j) = [Value.int .i64 t.1, .int .i64 t.2.1, .int .i64 t.2.2][j]? := fun i hi => by
      have e := hel i hi
      rw [List.getElem?_eq_getElem (by omega), Option.bind_eq_some_iff] at e
      obtain ⟨cs', hcs, hy'⟩ := e
      obtain ⟨t, rfl⟩ := tri_came hy'
      exact ⟨t, (World.cells?_some hcs).2.2⟩
    have hbd : len ≤ 5864062014805 := by
      have := hk (((elems.map (·.1)).length + (rest.map (·.1)).length) * Tryz.prog.bytesOf 51) (by simp [DataW.weights, Tryz.underlying55])
      rw [by43, List.length_map, List.length_map, hlen] at this
      unfold reachBytes at this
      omega
    have hex : ∃ F : Nat → Int × Int × Int, ∀ i, i < len → ∀ j, j < 3 → W.cell? ((a.add (i * 3)).add j) = [Value.int .i64 (F i).1, .int .i64 (F i).2.1, .int .i64 (F i).2.2][j]? := by
      refine ⟨fun i => if h : i < len then Classical.choose (each i h) else (0, 0, 0), fun i hi => ?_⟩
      simp only [dif_pos hi]
      exact Classical.choose_spec (each i hi)
    obtain ⟨F, hF⟩ := hex
    refine ⟨some a, cap, (List.range len).map F, by simp, by simpa using hl, fun i hi => ?_, by simpa using hbd⟩
    have hi' : i < len := by simpa using hi
    have g0 := hF i hi' 0 (by omega)
    have g1 := hF i hi' 1 (by omega)
    have g2 := hF i hi' 2 (by omega)
    have gz := hF 0 (by omega) 0 (by omega)
    rw [Nat.zero_mul] at gz
    obtain ⟨b, off, rfl⟩ : ∃ b off, a = ⟨b, off, none⟩ := by
      have : W.cell? (a.add 0) = some (.int .i64 (F 0).1) := by
        rw [show (a.add 0).add 0 = a.add 0 by cases a with | mk b o s => cases s <;> simp [Addr.add]] at gz
        simpa using gz
      exact spot9 this
    rw [add_plain, add_plain] at g0 g1 g2
    simp only [List.getElem_map, List.getElem_range]
    exact ⟨b, off, rfl, by simpa using g0, by simpa using g1, by simpa using g2⟩
set_option maxRecDepth 100000 in
theorem map_cells {H : Type} {enc : TypeId × Value → H} {W : World} {base : Nat} {sp : Nat → Bool} {hd : Bool} {m : Nat} {cs : List Value} {y : DataW H × List MemPlace}
    (h : DataW.trod enc Tryz.prog W base sp hd m 91 cs = some y) : ∃ t : M6, cs = [.int .i64 t.1, .int .i64 t.2.1, .int .i64 t.2.2.1, .int .i64 t.2.2.2.1, .int .i64 t.2.2.2.2.1, .int .i64 t.2.2.2.2.2] := by
  obtain ⟨xs, n, _, _, hl, hxs, hel⟩ := DataW.trod_struct Tryz.underlying91 h
  rw [c95] at hl
  obtain ⟨a0, a1, a2, a3, a4, a5, rfl⟩ := six9 hl
  have hxs6 : xs.length = 6 := hxs
  have k0 := hel 0 _ rfl
  have k1 := hel 1 _ rfl
  have k2 := hel 2 _ rfl
  have k3 := hel 3 _ rfl
  have k4 := hel 4 _ rfl
  have k5 := hel 5 _ rfl
  rw [List.getElem?_eq_getElem (by omega)] at k0 k1 k2 k3 k4 k5
  simp [c3] at k0 k1 k2 k3 k4 k5
  obtain ⟨x0, r0, _, _⟩ := DataW.trod_int Tryz.underlying3 k0
  obtain ⟨x1, r1, _, _⟩ := DataW.trod_int Tryz.underlying3 k1
  obtain ⟨x2, r2, _, _⟩ := DataW.trod_int Tryz.underlying3 k2
  obtain ⟨x3, r3, _, _⟩ := DataW.trod_int Tryz.underlying3 k3
  obtain ⟨x4, r4, _, _⟩ := DataW.trod_int Tryz.underlying3 k4
  obtain ⟨x5, r5, _, _⟩ := DataW.trod_int Tryz.underlying3 k5
  simp at r0 r1 r2 r3 r4 r5
  exact ⟨(x0, x1, x2, x3, x4, x5), by rw [r0, r1, r2, r3, r4, r5]⟩
set_option maxRecDepth 100000 in
/-- A row of maps that came in. -/
theorem maps_cells {H : Type} {enc : TypeId × Value → H} {W : World} {fuel : Nat} {v : Value} {x : DataW H × List MemPlace}
    (h : DataW.trod enc Tryz.prog W 0 (fun _ => true) true fuel 26 [v] = some x) (hk : ∀ n ∈ x.1.weights Tryz.prog 26, n ≤ reachBytes) :
    ∃ (a : Option Addr) (n c : Nat) (M : Nat → M6), v = .slice a n c ∧ MRowG W a n M ∧ n ≤ 2932031007402 := by
  rcases DataW.trod_slice Tryz.underlying26 h with ⟨e, _⟩ | ⟨a, len, cap, elems, rest, n, _, e, rfl, hb, hl, hm, hlen, hel, hsp, hns⟩
  · simp at e
    subst e
    exact ⟨none, 0, 0, fun _ => noM, rfl, fun i hi => by omega, by omega⟩
  · simp at e
    subst e
    rw [c95] at hel
    have each : ∀ i, i < len → ∃ t : M6, ∀ j, j < 6 → W.cell? ((a.add (i * 6)).add j) = [Value.int .i64 t.1, .int .i64 t.2.1, .int .i64 t.2.2.1, .int .i64 t.2.2.2.1, .int .i64 t.2.2.2.2.1, .int .i64 t.2.2.2.2.2][j]? := fun i hi => by
      have e := hel i hi
      rw [List.getElem?_eq_getElem (by omega), Option.bind_eq_some_iff] at e
      obtain ⟨cs', hcs, hy'⟩ := e
      obtain ⟨t, rfl⟩ := map_cells hy'
      exact ⟨t, (World.cells?_some hcs).2.2⟩
    have hbd : len ≤ 2932031007402 := by
      have := hk (((elems.map (·.1)).length + (rest.map (·.1)).length) * Tryz.prog.bytesOf 91) (by simp [DataW.weights, Tryz.underlying26])
      rw [by95, List.length_map, List.length_map, hlen] at this
      unfold reachBytes at this
      omega
    have hex : ∃ F : Nat → M6, ∀ i, i < len → ∀ j, j < 6 → W.cell? ((a.add (i * 6)).add j) = [Value.int .i64 (F i).1, .int .i64 (F i).2.1, .int .i64 (F i).2.2.1, .int .i64 (F i).2.2.2.1, .int .i64 (F i).2.2.2.2.1, .int .i64 (F i).2.2.2.2.2][j]? := by
      refine ⟨fun i => if h : i < len then Classical.choose (each i h) else noM, fun i hi => ?_⟩
      simp only [dif_pos hi]
      exact Classical.choose_spec (each i hi)
    obtain ⟨F, hF⟩ := hex
    refine ⟨some a, len, cap, F, rfl, fun i hi => ?_, hbd⟩
    have g0 := hF i hi 0 (by omega)
    have g1 := hF i hi 1 (by omega)
    have g2 := hF i hi 2 (by omega)
    have g3 := hF i hi 3 (by omega)
    have g4 := hF i hi 4 (by omega)
    have g5 := hF i hi 5 (by omega)
    have gz := hF 0 (by omega) 0 (by omega)
    rw [Nat.zero_mul] at gz
    obtain ⟨b, off, rfl⟩ : ∃ b off, a = ⟨b, off, none⟩ := by
      have : W.cell? (a.add 0) = some (.int .i64 (F 0).1) := by
        rw [show (a.add 0).add 0 = a.add 0 by cases a with | mk b o s => cases s <;> simp [Addr.add]] at gz
        simpa using gz
      exact spot9 this
    rw [add_plain, add_plain] at g0 g1 g2 g3 g4 g5
    exact ⟨b, off, rfl, by simpa using g0, by simpa using g1, by simpa using g2, by simpa using g3, by simpa using g4, by simpa using g5⟩
set_option maxRecDepth 100000 in
theorem stack_cells {H : Type} {enc : TypeId × Value → H} {W : World} {m : Nat} {cs : List Value} {y : DataW H × List MemPlace}
    (h : DataW.trod enc Tryz.prog W 0 (fun _ => true) true m 107 cs = some y) (hk : ∀ n ∈ y.1.weights Tryz.prog 107, n ≤ reachBytes) : ∃ (t : Int × Int × Int) (a : Option Addr) (c : Nat) (l : List (Int × Int × Int)), cs = [.int .i64 t.1, .int .i64 t.2.1, .int .i64 t.2.2, .slice a l.length c] ∧ l.length ≤ c ∧ TRowG W a l ∧ l.length ≤ 5864062014805 := by
  obtain ⟨y0, y1, n, hx, hl, h0, h1⟩ := trod_struct2 Tryz.underlying107 h
  rw [c87] at hl
  obtain ⟨a0, a1, a2, a3, rfl⟩ := four9 hl
  simp [c43, c44] at h0 h1
  obtain ⟨t, e⟩ := tri_came h0
  simp at e
  obtain ⟨rfl, rfl, rfl⟩ := e
  obtain ⟨a, c, l, rfl, hc, hT, hb⟩ := tris_cells h1 (fun q hq => hk q (by
    rw [hx]
    unfold DataW.weights
    rw [Tryz.underlying107]
    exact DataW.weights_mem_each (j := 1) (t := 55) (d := y1.1) rfl rfl q hq))
  exact ⟨t, a, c, l, rfl, hc, hT, hb⟩
set_option maxRecDepth 100000 in
/-- Stacks that came in. -/
theorem stacks_cells {H : Type} {enc : TypeId × Value → H} {W : World} {fuel : Nat} {v : Value} {x : DataW H × List MemPlace}
    (h : DataW.trod enc Tryz.prog W 0 (fun _ => true) true fuel 27 [v] = some x) (hk : ∀ n ∈ x.1.weights Tryz.prog 27, n ≤ reachBytes) :
    ∃ (a : Option Addr) (c : Nat) (S : List ((Int × Int × Int) × List (Int × Int × Int))), v = .slice a S.length c ∧ SRowG W a S ∧ S.length ≤ 2932031007402 ∧ ∀ s ∈ S, s.2.length ≤ 5864062014805 := by
  rcases DataW.trod_slice Tryz.underlying27 h with ⟨e, _⟩ | ⟨a, len, cap, elems, rest, n, _, e, rfl, hb, hl, hm, hlen, hel, hsp, hns⟩
  · simp at e
    subst e
    exact ⟨none, 0, [], rfl, fun i hi => by simp at hi, by simp, fun s hs => by simp at hs⟩
  · simp at e
    subst e
    rw [c87] at hel
    have each : ∀ i, i < len → ∃ s : (Int × Int × Int) × List (Int × Int × Int), ∃ (sa : Option Addr) (sc : Nat), (∀ j, j < 4 → W.cell? ((a.add (i * 4)).add j) = [Value.int .i64 s.1.1, .int .i64 s.1.2.1, .int .i64 s.1.2.2, .slice sa s.2.length sc][j]?) ∧ s.2.length ≤ sc ∧ TRowG W sa s.2 ∧ s.2.length ≤ 5864062014805 := fun i hi => by
      have e := hel i hi
      rw [List.getElem?_eq_getElem (by omega), Option.bind_eq_some_iff] at e
      obtain ⟨cs', hcs, hy'⟩ := e
      obtain ⟨t, sa, sc, l, rfl, hc, hT, hb⟩ := stack_cells hy' (fun q hq => hk q (by
        simp only [DataW.weights, Tryz.underlying27]
        refine List.mem_cons_of_mem _ (List.mem_append_left _ (weightsAll_mem (d := (elems[i]'(by omega)).1) ?_ q hq))
        exact List.mem_map_of_mem (List.getElem_mem _)))
      exact ⟨(t, l), sa, sc, (World.cells?_some hcs).2.2, hc, hT, hb⟩
    have hbd : len ≤ 2932031007402 := by
      have := hk (((elems.map (·.1)).length + (rest.map (·.1)).length) * Tryz.prog.bytesOf 107) (by simp [DataW.weights, Tryz.underlying27])
      rw [by87, List.length_map, List.length_map, hlen] at this
      unfold reachBytes at this
      omega
    have hex : ∃ F : Nat → (Int × Int × Int) × List (Int × Int × Int), ∀ i, i < len → ∃ (sa : Option Addr) (sc : Nat), (∀ j, j < 4 → W.cell? ((a.add (i * 4)).add j) = [Value.int .i64 (F i).1.1, .int .i64 (F i).1.2.1, .int .i64 (F i).1.2.2, .slice sa (F i).2.length sc][j]?) ∧ (F i).2.length ≤ sc ∧ TRowG W sa (F i).2 ∧ (F i).2.length ≤ 5864062014805 := by
      refine ⟨fun i => if h : i < len then Classical.choose (each i h) else ((0, 0, 0), []), fun i hi => ?_⟩
      simp only [dif_pos hi]
      exact Classical.choose_spec (each i hi)
    obtain ⟨F, hF⟩ := hex
    refine ⟨some a, cap, (List.range len).map F, by simp, fun i hi => ?_, by simpa using hbd, fun s hs => ?_⟩
    · have hi' : i < len := by simpa using hi
      obtain ⟨sa, sc, hc4, h1, h2, _⟩ := hF i hi'
      obtain ⟨_, _, hz4, _⟩ := hF 0 (by omega)
      have g0 := hc4 0 (by omega)
      have g1 := hc4 1 (by omega)
      have g2 := hc4 2 (by omega)
      have g3 := hc4 3 (by omega)
      have gz := hz4 0 (by omega)
      rw [Nat.zero_mul] at gz
      obtain ⟨b, off, rfl⟩ : ∃ b off, a = ⟨b, off, none⟩ := by
        have : W.cell? (a.add 0) = some (.int .i64 (F 0).1.1) := by
          rw [show (a.add 0).add 0 = a.add 0 by cases a with | mk b o s => cases s <;> simp [Addr.add]] at gz
          simpa using gz
        exact spot9 this
      rw [add_plain, add_plain] at g0 g1 g2 g3
      simp only [List.getElem_map, List.getElem_range]
      exact ⟨b, off, sa, sc, rfl, by simpa using g0, by simpa using g1, by simpa using g2, by simpa using g3, h1, h2⟩
    · rw [List.mem_map] at hs
      obtain ⟨i, hi, rfl⟩ := hs
      rw [List.mem_range] at hi
      obtain ⟨_, _, _, _, _, h⟩ := hF i hi
      exact h
set_option maxRecDepth 100000 in
/-- A state that came in, opened. -/
theorem state_of {H : Type} {enc : TypeId × Value → H} {W : World} {base : Nat} {v : Value} {d : DataW H} {p : List MemPlace} (hv : Value.okWide Tryz.prog W .any base 29 v)
    (h : DataW.Trod enc Tryz.prog W 0 (fun _ => true) true 29 v d p) (hk : ∀ n ∈ d.weights Tryz.prog 29, n ≤ reachBytes) :
    ∃ (X Y : Int) (a c mp sp : Option Addr) (ca cc n mn mc sc : Nat) (zs ks : List Int) (M : Nat → M6) (S : List ((Int × Int × Int) × List (Int × Int × Int))), v = .agg #[.int .i64 X, .int .i64 Y, .slice a zs.length ca, .slice c n cc, .slice mp mn mc, .slice sp S.length sc] ∧ Row W a zs ∧ Row W c ks ∧ ks.length = n * 5 ∧ zs.length ≤ 17592186044416 ∧ n ≤ 3518437208883 ∧ MRowG W mp mn M ∧ mn ≤ 2932031007402 ∧ SRowG W sp S ∧ S.length ≤ 2932031007402 ∧ ∀ s ∈ S, s.2.length ≤ 5864062014805 := by
  obtain ⟨cs, rfl, hsz⟩ := okWide_struct Tryz.underlying29 hv
  obtain ⟨l⟩ := cs
  obtain ⟨e0, e1, e2, e3, e4, e5, rfl⟩ := six9 (cs := l) (by have := hsz.trans c29; simpa using this)
  obtain ⟨fuel, hf⟩ := h
  obtain ⟨y0, y1, y2, n, hx, _, t0, t1, t2⟩ := trod_struct3 Tryz.underlying29 hf
  simp only [Prod.mk.injEq] at hx
  obtain ⟨rfl, _⟩ := hx
  have hw : DataW.weights Tryz.prog 29 (.agg [y0.1, y1.1, y2.1]) = DataW.weightsEach Tryz.prog [25, 26, 27] [y0.1, y1.1, y2.1] := by
    unfold DataW.weights
    rw [Tryz.underlying29]
    rfl
  rw [hw] at hk
  simp [Value.cells, c74, c26, c27s] at t0 t1 t2
  obtain ⟨X, Y, a, c, ca, cc, m, zs, ks, e, r1, r2, r3, r4, r5⟩ := sheet_cells t0 (fun q hq => hk q (DataW.weights_mem_each (j := 0) (t := 25) (d := y0.1) rfl rfl q hq))
  simp at e
  obtain ⟨rfl, rfl, rfl, rfl⟩ := e
  obtain ⟨mp, mn, mc, M, rfl, r6, r7⟩ := maps_cells t1 (fun q hq => hk q (DataW.weights_mem_each (j := 1) (t := 26) (d := y1.1) rfl rfl q hq))
  obtain ⟨sp, sc, S, rfl, r8, r9, r10⟩ := stacks_cells t2 (fun q hq => hk q (DataW.weights_mem_each (j := 2) (t := 27) (d := y2.1) rfl rfl q hq))
  exact ⟨X, Y, a, c, mp, sp, ca, cc, m, mn, mc, sc, zs, ks, M, S, rfl, r1, r2, r3, r4, r5, r6, r7, r8, r9, r10⟩
end Go.Proofs.YtnpboeodhpenmaaGreatDoor
namespace Go.Proofs.YtnpboeodhpenmaaGreatDoor
open Go.RowKit

/-- The thickest of the first stacks. -/
def thk (S : List ((Int × Int × Int) × List (Int × Int × Int))) : Nat → Nat
  | 0 => 0
  | i + 1 => if thk S i < (S.getD i ((0, 0, 0), [])).2.length then (S.getD i ((0, 0, 0), [])).2.length else thk S i
set_option maxRecDepth 100000 in
set_option maxHeartbeats 3200000 in
theorem thickOf_any (W H : Int) (a c mp sp : Option Addr) (zl ca n cc mn mc sl sc : Nat) (S : List ((Int × Int × Int) × List (Int × Int × Int))) (w : World) (hS : SRowG w sp S) (hsl : sl = S.length) (hb : sl ≤ 2932031007402) :
    Calls Tryz.prog 25 #[.agg #[.int .i64 W, .int .i64 H, .slice a zl ca, .slice c n cc, .slice mp mn mc, .slice sp sl sc]] w fun e w' => e = .returned (.int .i64 (thk S sl : Int)) ∧ Below w.heap.size w w' := by
  have HS : Hid (SRowG w sp S ∧ sl = S.length) := ⟨hS, hsl⟩
  clear hS hsl
  go_enter Tryz.func25, Tryz.ntmps25
  go_upto_region 1 with fail
  refine wp_named (fun W0 hW0 => ?_)
  have hw0 : Below w.heap.size w W0 := by rw [hW0]; exact bl_alloc (bl_refl _)
  have x0 : W0.cell? ⟨w.heap.size, 0, none⟩ = some (.int .i64 W) := by rw [hW0]; simp [go_sem]
  have x1 : W0.cell? ⟨w.heap.size, 1, none⟩ = some (.int .i64 H) := by rw [hW0]; simp [go_sem]
  have x2 : W0.cell? ⟨w.heap.size, 2, none⟩ = some (.slice a zl ca) := by rw [hW0]; simp [go_sem]
  have x3 : W0.cell? ⟨w.heap.size, 3, none⟩ = some (.slice c n cc) := by rw [hW0]; simp [go_sem]
  have x4 : W0.cell? ⟨w.heap.size, 4, none⟩ = some (.slice mp mn mc) := by rw [hW0]; simp [go_sem]
  have x5 : W0.cell? ⟨w.heap.size, 5, none⟩ = some (.slice sp sl sc) := by rw [hW0]; simp [go_sem]
  have HW : Hid (Below w.heap.size w W0) := hw0
  clear hW0 hw0
  clear x0 x1 x2 x3 x4
  go_wp2
  go_loopg [3, 4] sl (fun gk s3 s4 wx => ∃ i : Nat, i ≤ sl ∧ gk = sl - i ∧ s3 = .int .i64 (thk S i : Int) ∧ s4 = .int .i64 (i : Int) ∧ Below W0.heap.size W0 wx)
  case atStart => exact ⟨0, by omega, rfl, rfl, rfl, bl_refl _⟩
  case round =>
    obtain ⟨i, hi, rfl, rfl, rfl, hB⟩ := hrel
    have HB : Hid (Below W0.heap.size W0 wr) := hB
    replace x5 := cl_kept hB x5
    have zb : w.heap.size < wr.heap.size := World.block_lt_of_cell? _ _ x5
    by_cases h1 : i < sl
    · have i1 : (i : Int) < (sl : Int) := by omega
      have i0 : (0 : Int) ≤ (i : Int) := by omega
      have hiS : i < S.length := by rw [← HS.out.2]; exact h1
      obtain ⟨g, o, sa, sd, e1, n0, n1, n2, c3, n3, n4⟩ := (HS.out.1.kept (bl_via HW.out hB)) i hiS
      subst e1
      have ed : S.getD i ((0, 0, 0), []) = S[i] := by rw [List.getD_eq_getElem?_getD, List.getElem?_eq_getElem hiS]; rfl
      obtain ⟨m, hm⟩ : ∃ m, m = S[i].2.length := ⟨_, rfl⟩
      rw [← hm] at c3
      have HN : Hid (thk S (i + 1) = if thk S i < m then m else thk S i) := by
        show thk S (i + 1) = if thk S i < m then m else thk S i
        rw [hm, ← ed]
        rfl
      obtain ⟨q, hq⟩ : ∃ q, q = thk S i := ⟨_, rfl⟩
      rw [← hq] at HN ⊢
      have zg : g < wr.heap.size := World.block_lt_of_cell? _ _ c3
      clear n0 n1 n2 n3 n4
      clear hB ed hm hq hiS
      by_cases h2 : q < m
      · have h2' : (q : Int) < (m : Int) := by omega
        rw [if_pos h2] at HN
        go_wp2
        go_roundg (sl - (i + 1))
        case measure => omega
        case rel => exact ⟨i + 1, by omega, rfl, by rw [HN.out], by go_num, HB.out⟩
      · have h2' : ¬ (q : Int) < (m : Int) := by omega
        rw [if_neg h2] at HN
        go_wp2
        go_roundg (sl - (i + 1))
        case measure => omega
        case rel => exact ⟨i + 1, by omega, rfl, by rw [HN.out], by go_num, HB.out⟩
    · have i1 : ¬ (i : Int) < (sl : Int) := by omega
      obtain rfl : i = sl := by omega
      clear hB
      go_wp2
      go_ret
      exact ⟨rfl, bl_via HW.out HB.out⟩
set_option maxRecDepth 100000 in
set_option maxHeartbeats 3200000 in
theorem thick_no (W H : Int) (a c mp sp : Option Addr) (zl ca n cc mn mc sl sc : Nat) (w : World) (CO : Hid (∀ V : World, Below w.heap.size w V → Calls Tryz.prog 36 #[.agg #[.int .i64 W, .int .i64 H, .slice a zl ca, .slice c n cc, .slice mp mn mc, .slice sp sl sc]] V fun e w' => ∃ z0 k0 d0 m1 m2 z3 k3 d3 z4 k4 d4 f, e = .returned (.tuple #[.agg #[.slice z0 k0 d0, .map m1, .map m2, .slice z3 k3 d3, .slice z4 k4 d4], f, .bool false]) ∧ Below V.heap.size V w')) :
    Calls Tryz.prog 22 #[.agg #[.int .i64 W, .int .i64 H, .slice a zl ca, .slice c n cc, .slice mp mn mc, .slice sp sl sc]] w fun e w' => e = .returned (.tuple #[.int .i64 0, .int .i64 0, .int .i64 10]) ∧ Below w.heap.size w w' := by
  go_enter Tryz.func22, Tryz.ntmps22
  go_upto_region 1 with fail
  refine wp_named (fun W0 hW0 => ?_)
  have hw0 : Below w.heap.size w W0 := by rw [hW0]; exact bl_alloc (bl_refl _)
  have x0 : W0.cell? ⟨w.heap.size, 0, none⟩ = some (.int .i64 W) := by rw [hW0]; simp [go_sem]
  have x1 : W0.cell? ⟨w.heap.size, 1, none⟩ = some (.int .i64 H) := by rw [hW0]; simp [go_sem]
  have x2 : W0.cell? ⟨w.heap.size, 2, none⟩ = some (.slice a zl ca) := by rw [hW0]; simp [go_sem]
  have x3 : W0.cell? ⟨w.heap.size, 3, none⟩ = some (.slice c n cc) := by rw [hW0]; simp [go_sem]
  have x4 : W0.cell? ⟨w.heap.size, 4, none⟩ = some (.slice mp mn mc) := by rw [hW0]; simp [go_sem]
  have x5 : W0.cell? ⟨w.heap.size, 5, none⟩ = some (.slice sp sl sc) := by rw [hW0]; simp [go_sem]
  have HW : Hid (Below w.heap.size w W0) := hw0
  clear hW0 hw0
  go_wp2_with (go_at_call 36; refine (CO.out _ HW.out).mono ?_; rintro e w1 ⟨z0, k0, d0, m1, m2, z3, k3, d3, z4, k4, d4, f, rfl, hb1⟩; have HB1 : Hid (Below w.heap.size w w1) := bl_via HW.out hb1; clear hb1)
  refine bodyPost_ret (v := .tuple #[.int .i64 0, .int .i64 0, .int .i64 10]) (by simp [results, Tryz.results22, go_sem]) rfl ⟨rfl, ?_⟩
  have := HB1.out.size
  with_reducible repeat (first | exact HB1.out | refine bl_alloc ?_ | refine bl_set ?_ ?_)
  all_goals first | exact HB1.out | (dsimp only; omega)
set_option maxRecDepth 100000 in
set_option maxHeartbeats 3200000 in
theorem thick_ok (W H : Int) (a c mp sp : Option Addr) (zl ca n cc mn mc sl sc : Nat) (S : List ((Int × Int × Int) × List (Int × Int × Int))) (w : World) (hS : SRow w sp S) (hsl : sl = S.length) (hb : sl ≤ 2932031007402) (CO : Hid (∀ V : World, Below w.heap.size w V → Calls Tryz.prog 36 #[.agg #[.int .i64 W, .int .i64 H, .slice a zl ca, .slice c n cc, .slice mp mn mc, .slice sp sl sc]] V fun e w' => ∃ z0 k0 d0 m1 m2 z3 k3 d3 z4 k4 d4 f, e = .returned (.tuple #[.agg #[.slice z0 k0 d0, .map m1, .map m2, .slice z3 k3 d3, .slice z4 k4 d4], f, .bool true]) ∧ Below V.heap.size V w')) :
    Calls Tryz.prog 22 #[.agg #[.int .i64 W, .int .i64 H, .slice a zl ca, .slice c n cc, .slice mp mn mc, .slice sp sl sc]] w fun e w' => e = .returned (.tuple #[.int .i64 (thk S sl : Int), .int .i64 (sl : Int), .int .i64 0]) ∧ Below w.heap.size w w' := by
  have HS : Hid (SRow w sp S ∧ sl = S.length) := ⟨hS, hsl⟩
  clear hS hsl
  go_enter Tryz.func22, Tryz.ntmps22
  go_upto_region 1 with fail
  refine wp_named (fun W0 hW0 => ?_)
  have hw0 : Below w.heap.size w W0 := by rw [hW0]; exact bl_alloc (bl_refl _)
  have x0 : W0.cell? ⟨w.heap.size, 0, none⟩ = some (.int .i64 W) := by rw [hW0]; simp [go_sem]
  have x1 : W0.cell? ⟨w.heap.size, 1, none⟩ = some (.int .i64 H) := by rw [hW0]; simp [go_sem]
  have x2 : W0.cell? ⟨w.heap.size, 2, none⟩ = some (.slice a zl ca) := by rw [hW0]; simp [go_sem]
  have x3 : W0.cell? ⟨w.heap.size, 3, none⟩ = some (.slice c n cc) := by rw [hW0]; simp [go_sem]
  have x4 : W0.cell? ⟨w.heap.size, 4, none⟩ = some (.slice mp mn mc) := by rw [hW0]; simp [go_sem]
  have x5 : W0.cell? ⟨w.heap.size, 5, none⟩ = some (.slice sp sl sc) := by rw [hW0]; simp [go_sem]
  have HW : Hid (Below w.heap.size w W0) := hw0
  clear hW0 hw0
  go_upto_region 2 with (go_at_call 36; refine (CO.out _ HW.out).mono ?_; rintro e w1 ⟨z0, k0, d0, m1, m2, z3, k3, d3, z4, k4, d4, f, rfl, hb1⟩; have HB1 : Hid (Below w.heap.size w w1 ∧ Below W0.heap.size W0 w1) := ⟨bl_via HW.out hb1, hb1⟩; replace x5 := cl_kept hb1 x5; have z1 : w.heap.size < w1.heap.size := World.block_lt_of_cell? _ _ x5; clear hb1)
  refine wp_named (fun W2 hW2 => ?_)
  have hb2 : Below w1.heap.size w1 W2 := by
    rw [hW2]
    with_reducible repeat (first | exact bl_refl _ | refine bl_alloc ?_ | refine bl_set ?_ ?_)
    all_goals (dsimp only; omega)
  replace x5 := cl_kept hb2 x5
  have HB2 : Hid (Below w.heap.size w W2) := bl_via HB1.out.1 hb2
  have z2 : w.heap.size < W2.heap.size := World.block_lt_of_cell? _ _ x5
  clear hW2 hb2 HB1 x0 x1 x2 x3 x4 z1
  go_wp2
  go_loopg [8, 22] sl (fun gk s8 s22 wx => ∃ i : Nat, i ≤ sl ∧ gk = sl - i ∧ s8 = .int .i64 (thk S i : Int) ∧ s22 = .int .i64 (i : Int) ∧ Below W2.heap.size W2 wx)
  case atStart => exact ⟨0, by omega, rfl, rfl, rfl, bl_refl _⟩
  case round =>
    obtain ⟨i, hi, rfl, rfl, rfl, hB⟩ := hrel
    have HB : Hid (Below W2.heap.size W2 wr) := hB
    replace x5 := cl_kept hB x5
    have zb : w.heap.size < wr.heap.size := World.block_lt_of_cell? _ _ x5
    by_cases h1 : i < sl
    · have i1 : (i : Int) < (sl : Int) := by omega
      have i0 : (0 : Int) ≤ (i : Int) := by omega
      have hiS : i < S.length := by rw [← HS.out.2]; exact h1
      obtain ⟨g, sa, sd, e1, c0, c1, c2, c3, n4⟩ := (HS.out.1.kept (bl_via HB2.out hB)) i hiS
      subst e1
      have ed : S.getD i ((0, 0, 0), []) = S[i] := by rw [List.getD_eq_getElem?_getD, List.getElem?_eq_getElem hiS]; rfl
      obtain ⟨m, hm⟩ : ∃ m, m = S[i].2.length := ⟨_, rfl⟩
      obtain ⟨X, Y, K, hk⟩ : ∃ X Y K, S[i].1 = (X, Y, K) := ⟨_, _, _, rfl⟩
      rw [hk] at c0 c1 c2
      dsimp only at c0 c1 c2
      rw [← hm] at c3
      have HN : Hid (thk S (i + 1) = if thk S i < m then m else thk S i) := by
        show thk S (i + 1) = if thk S i < m then m else thk S i
        rw [hm, ← ed]
        rfl
      obtain ⟨q, hq⟩ : ∃ q, q = thk S i := ⟨_, rfl⟩
      rw [← hq] at HN ⊢
      have zg : g < wr.heap.size := World.block_lt_of_cell? _ _ c3
      clear n4
      clear hB ed hm hq hk hiS
      by_cases h2 : q < m
      · have h2' : (q : Int) < (m : Int) := by omega
        rw [if_pos h2] at HN
        go_wp2
        all_goals
          go_roundg (sl - (i + 1))
          case measure => omega
          case rel => exact ⟨i + 1, by omega, rfl, by rw [HN.out]; congr 1; omega, by go_num, bl_alloc HB.out⟩
      · have h2' : ¬ (q : Int) < (m : Int) := by omega
        rw [if_neg h2] at HN
        go_wp2
        all_goals
          go_roundg (sl - (i + 1))
          case measure => omega
          case rel => exact ⟨i + 1, by omega, rfl, by rw [HN.out]; congr 1; omega, by go_num, bl_alloc HB.out⟩
    · have i1 : ¬ (i : Int) < (sl : Int) := by omega
      obtain rfl : i = sl := by omega
      clear hB
      go_upto_region 10 with fail
      have kc := Kin.cells wr
      have kn : Nonempty (Kin wr) := ⟨⟨wr, bl_refl _⟩⟩
      refine wp_region_kin (by kernel_rfl) (by kernel_rfl) ?_
      repeat (go_big_quiet_step (fail))
      refine wpQuiet_nil ?_
      intro wq hw'
      obtain ⟨nq, hw''⟩ := hw'
      have hq : Below wr.heap.size wr wq := hw'' ▸ nq.h
      clear hw'' nq kc kn x5
      go_wp2
      exact bodyPost_ret (v := .tuple #[.int .i64 (thk S i : Int), .int .i64 (i : Int), .int .i64 0]) (by simp [results, Tryz.results22, go_sem]) rfl ⟨rfl, bl_via HB2.out (bl_via HB.out hq)⟩
end Go.Proofs.YtnpboeodhpenmaaGreatDoor
