/- A part of the proof of a law on sheets. -/
import Derived.Test.YtmjneoaciopioaaDoorRows
import Derived.Test.YtmjneoaciopioaaDoorQmab
import Derived.Test.YtmjneoaciopioaaDoorQmac
import Derived.ProofKit
import Derived.LaidMore
import Derived.OpenShut
import Derived.Stop.Joined
import Derived.Lib.SmallJoins
import Derived.Test.YtmjneoaciopioaaDoorCards
import Derived.Test.YtmjneoaciopioaaDoorTie
import Derived.SizedLaws
import Derived.WalkKit
import Derived.Deep.DeepHandedRow
import Derived.Lib.LaidTab
import Derived.ChangeOld
import Derived.Test.YtmjneoaciopioaaDoorQmag
import Derived.Deep.DeepCutAuto
namespace Go.Proofs.YtmjneoaciopioaaDoor
open Go.ChangeShapes Go.WideShapes Go.ChangeAt Go.WideMaps Go.WideElems Go.RowKit Go.Joins

theorem Tryd.own : ownKnob Tryd.prog.godebug = none := by kernel_rfl
theorem gSteps : Tryd.prog.globalNamed "pleat/grid.steps" = some 0 := by kernel_rfl
theorem tSteps : (Tryd.prog.globals[0]?).map (·.type) = some 159 := by kernel_rfl
theorem c3 : Tryd.prog.cellsOf 3 = 1 := by kernel_rfl
theorem c25 : Tryd.prog.cellsOf 43 = 2 := by kernel_rfl
theorem c27 : Tryd.prog.cellsOf 72 = 4 := by kernel_rfl
theorem c70 : Tryd.prog.cellsOf 22 = 1 := by kernel_rfl
theorem c72 : Tryd.prog.cellsOf 23 = 1 := by kernel_rfl
theorem c74 : Tryd.prog.cellsOf 25 = 4 := by kernel_rfl
theorem c110 : Tryd.prog.cellsOf 74 = 5 := by kernel_rfl
theorem c119 : Tryd.prog.cellsOf 159 = 8 := by kernel_rfl

/-- A point's two numbers, read. -/
theorem point_of {H : Type} {enc : TypeId × Value → H} {W : World} {base : Nat} {sp : Nat → Bool} {hd : Bool} {m : Nat} {u v : Value} {d0 d1 : Int} {ps : List MemPlace}
    (h : DataW.trod enc Tryd.prog W base sp hd m 43 [u, v] = some (.agg [.lit (.int .i64 d0), .lit (.int .i64 d1)], ps)) : u = .int .i64 d0 ∧ v = .int .i64 d1 := by
  obtain ⟨y0, y1, n, hx, _, h0, h1⟩ := trod_struct2 Tryd.underlying43 h
  simp only [Prod.mk.injEq, DataW.agg.injEq, List.cons.injEq, and_true] at hx
  obtain ⟨⟨e0, e1⟩, _⟩ := hx
  simp [c3] at h0 h1
  obtain ⟨a, ha, hy0, _⟩ := DataW.trod_int Tryd.underlying3 h0
  obtain ⟨b, hb, hy1, _⟩ := DataW.trod_int Tryd.underlying3 h1
  subst hy0 hy1
  simp at e0 e1 ha hb
  subst e0 e1 ha hb
  exact ⟨rfl, rfl⟩


set_option maxRecDepth 100000 in
theorem steps_of {W : World} (h : laidMetH Tryd.prog [("pleat/grid.steps", Rows.laid_pleat_grid_steps)] W) : Steps W := by
  rw [MakeChecks.laidMetH_plain _ _ _ (by kernel_rfl)] at h
  obtain ⟨ps, ⟨g0, t0, cs0, f0, p0, q0, hg0, ht0, hv0, hd0, _, _⟩, _, _⟩ := h
  obtain rfl := Option.some.inj (gSteps.symm.trans hg0)
  obtain rfl := Option.some.inj (tSteps.symm.trans ht0)
  have hc := World.var?_cell hg0 hv0
  obtain ⟨xs, m1, rfl, hx1, hlen, hn4, hel⟩ := DataW.trod_array Tryd.underlying159 hd0
  rw [c119] at hlen
  simp only [Prod.mk.injEq, Rows.laid_pleat_grid_steps, DataW.agg.injEq] at hx1
  obtain ⟨hx1, _⟩ := hx1
  obtain ⟨l⟩ := cs0
  match xs, hn4 with
  | [x0, x1, x2, x3], _ =>
    match l, hlen with
    | [a0, a1, a2, a3, a4, a5, a6, a7], _ =>
      simp only [List.map_cons, List.map_nil, List.cons.injEq, and_true] at hx1
      obtain ⟨e0, e1, e2, e3⟩ := hx1
      have k0 := hel 0 (by decide)
      have k1 := hel 1 (by decide)
      have k2 := hel 2 (by decide)
      have k3 := hel 3 (by decide)
      obtain ⟨x0a, x0b⟩ := x0
      obtain ⟨x1a, x1b⟩ := x1
      obtain ⟨x2a, x2b⟩ := x2
      obtain ⟨x3a, x3b⟩ := x3
      simp at e0 e1 e2 e3
      subst e0 e1 e2 e3
      simp [c25] at k0 k1 k2 k3
      obtain ⟨r0, r1⟩ := point_of k0
      obtain ⟨r2, r3⟩ := point_of k1
      obtain ⟨r4, r5⟩ := point_of k2
      obtain ⟨r6, r7⟩ := point_of k3
      subst r0 r1 r2 r3 r4 r5 r6 r7
      exact ⟨by simpa using hc 0, by simpa using hc 1, by simpa using hc 2, by simpa using hc 3, by simpa using hc 4, by simpa using hc 5, by simpa using hc 6, by simpa using hc 7⟩



theorem five {cs : List Value} (h : cs.length = 5) : ∃ a0 a1 a2 a3 a4, cs = [a0, a1, a2, a3, a4] := by
  match cs, h with
  | [a0, a1, a2, a3, a4], _ => exact ⟨a0, a1, a2, a3, a4, rfl⟩

set_option maxRecDepth 100000 in
/-- A crease's five cells hold numbers. -/
theorem crease_of {H : Type} {enc : TypeId × Value → H} {W : World} {base : Nat} {sp : Nat → Bool} {hd : Bool} {m : Nat} {cs : List Value} {y : DataW H × List MemPlace}
    (h : DataW.trod enc Tryd.prog W base sp hd m 74 cs = some y) : ∃ n0 n1 n2 n3 n4 : Int, cs = [.int .i64 n0, .int .i64 n1, .int .i64 n2, .int .i64 n3, .int .i64 n4] := by
  obtain ⟨y0, y1, n, _, hl, h0, h1⟩ := trod_struct2 Tryd.underlying74 h
  rw [c110] at hl
  obtain ⟨a0, a1, a2, a3, a4, rfl⟩ := five hl
  · simp [c27, c3] at h0 h1
    obtain ⟨e4, r4, _, _⟩ := DataW.trod_int Tryd.underlying3 h1
    obtain ⟨z0, z1, _, _, _, k0, k1⟩ := trod_struct2 Tryd.underlying72 h0
    simp [c25] at k0 k1
    obtain ⟨_, _, _, _, _, l0, l1⟩ := trod_struct2 Tryd.underlying43 k0
    obtain ⟨_, _, _, _, _, l2, l3⟩ := trod_struct2 Tryd.underlying43 k1
    simp [c3] at l0 l1 l2 l3
    obtain ⟨e0, r0, _, _⟩ := DataW.trod_int Tryd.underlying3 l0
    obtain ⟨e1, r1, _, _⟩ := DataW.trod_int Tryd.underlying3 l1
    obtain ⟨e2, r2, _, _⟩ := DataW.trod_int Tryd.underlying3 l2
    obtain ⟨e3, r3, _, _⟩ := DataW.trod_int Tryd.underlying3 l3
    simp at r0 r1 r2 r3 r4
    exact ⟨e0, e1, e2, e3, e4, by rw [r0, r1, r2, r3, r4]⟩

/-- A crease list that came in: five numbers a crease. -/
theorem creases_of {H : Type} {enc : TypeId × Value → H} {W : World} {base : Nat} {sp : Nat → Bool} {hd : Bool} {m : Nat} {cs : List Value} {y : DataW H × List MemPlace}
    (h : DataW.trod enc Tryd.prog W base sp hd m 23 cs = some y) : ∃ (c : Option Addr) (n cap : Nat) (ks : List Int), cs = [.slice c n cap] ∧ ks.length = n * 5 ∧ Row W c ks ∧
      (n = 0 ∨ ∃ es rs : List (DataW H), es.length = n ∧ y.1 = .slice es rs) := by
  rcases DataW.trod_slice Tryd.underlying23 h with ⟨rfl, _⟩ | ⟨a, len, cap, elems, rest, n, _, rfl, rfl, hb, hl, hm, hlen, hel, hsp, hns⟩
  · exact ⟨none, 0, 0, [], rfl, rfl, fun i hi => absurd hi (by simp), .inl rfl⟩
  rw [c110] at hel
  have each : ∀ i, i < len → ∃ n0 n1 n2 n3 n4 : Int, ∀ j, j < 5 → W.cell? ((a.add (i * 5)).add j) = [Value.int .i64 n0, .int .i64 n1, .int .i64 n2, .int .i64 n3, .int .i64 n4][j]? := by
    intro i hi
    have e := hel i hi
    rw [List.getElem?_eq_getElem (by omega), Option.bind_eq_some_iff] at e
    obtain ⟨cs', hcs, hy'⟩ := e
    obtain ⟨n0, n1, n2, n3, n4, rfl⟩ := crease_of hy'
    exact ⟨n0, n1, n2, n3, n4, (World.cells?_some hcs).2.2⟩
  have num : ∀ i, i < len * 5 → ∃ z : Int, W.cell? ((a.add (i / 5 * 5)).add (i % 5)) = some (.int .i64 z) := by
    intro i hi
    obtain ⟨n0, n1, n2, n3, n4, hc⟩ := each (i / 5) (by omega)
    have hj : i % 5 < 5 := Nat.mod_lt _ (by omega)
    have := hc (i % 5) hj
    generalize i % 5 = j at this hj ⊢
    match j, hj with
    | 0, _ => exact ⟨n0, this⟩
    | 1, _ => exact ⟨n1, this⟩
    | 2, _ => exact ⟨n2, this⟩
    | 3, _ => exact ⟨n3, this⟩
    | 4, _ => exact ⟨n4, this⟩
  by_cases h0 : len = 0
  · subst h0
    exact ⟨_, 0, cap, [], rfl, rfl, fun i hi => absurd hi (by simp), .inl rfl⟩
  obtain ⟨b, off, rfl⟩ : ∃ b off, a = ⟨b, off, none⟩ := by
    obtain ⟨b, off, spot⟩ := a
    obtain ⟨z, hz⟩ := num 0 (by omega)
    have hspot : spot = none := by simpa [Addr.add] using World.cell?_spot hz
    subst hspot
    exact ⟨b, off, rfl⟩
  have num' : ∀ i, i < len * 5 → ∃ z : Int, W.cell? ⟨b, off + i, none⟩ = some (.int .i64 z) := by
    intro i hi
    obtain ⟨z, hz⟩ := num i hi
    rw [add_plain, add_plain, Nat.add_assoc, Nat.div_add_mod' i 5] at hz
    exact ⟨z, hz⟩
  refine ⟨_, len, cap, (List.range (len * 5)).map fun i => match W.cell? ⟨b, off + i, none⟩ with | some (.int _ z) => z | _ => 0, rfl, by simp, ?_, .inr ⟨elems.map (·.1), rest.map (·.1), by simpa using hlen, rfl⟩⟩
  intro i hi
  simp only [List.length_map, List.length_range] at hi
  obtain ⟨z, hz⟩ := num' i hi
  refine ⟨b, off, rfl, ?_⟩
  simp [hz]


theorem laidOut : laidOutB Tryd.prog = true := by kernel_rfl

theorem by3 : Tryd.prog.bytesOf 3 = 8 := by kernel_rfl
theorem by110 : Tryd.prog.bytesOf 74 = 40 := by kernel_rfl
set_option maxRecDepth 100000 in
theorem weights_sheet {H : Type} (a b c d : DataW H) : DataW.weights Tryd.prog 25 (.agg [a, b, c, d]) = DataW.weightsEach Tryd.prog [3, 3, 22, 23] [a, b, c, d] := by
  unfold DataW.weights
  rw [Tryd.underlying25]
  rfl

set_option maxRecDepth 100000 in
/-- A sheet that came in, opened. -/
theorem sheet_of {H : Type} {enc : TypeId × Value → H} {W : World} {base : Nat} {v : Value} {d : DataW H} {p : List MemPlace} (hv : Value.okWide Tryd.prog W .any base 25 v)
    (h : DataW.Trod enc Tryd.prog W 0 (fun _ => true) true 25 v d p) (hk : ∀ n ∈ d.weights Tryd.prog 25, n ≤ reachBytes) :
    ∃ (X Y : Int) (a c : Option Addr) (ca cc n : Nat) (zs ks : List Int), v = .agg #[.int .i64 X, .int .i64 Y, .slice a zs.length ca, .slice c n cc] ∧ Row W a zs ∧ Row W c ks ∧ ks.length = n * 5 ∧ zs.length ≤ 17592186044416 ∧ n ≤ 3518437208883 := by
  obtain ⟨cs, rfl, hsz⟩ := okWide_struct Tryd.underlying25 hv
  obtain ⟨e0, e1, e2, e3, rfl⟩ := array4 (hsz.trans c74)
  obtain ⟨fuel, hf⟩ := h
  obtain ⟨y0, y1, y2, y3, n, hx, _, t0, t1, t2, t3⟩ := trod_struct4 Tryd.underlying25 hf
  simp only [Prod.mk.injEq] at hx
  obtain ⟨rfl, _⟩ := hx
  rw [weights_sheet] at hk
  simp [Value.cells, c3, c70, c72] at t0 t1 t2 t3
  obtain ⟨X, r0, _, _⟩ := DataW.trod_int Tryd.underlying3 t0
  obtain ⟨Y, r1, _, _⟩ := DataW.trod_int Tryd.underlying3 t1
  simp at r0 r1
  subst r0 r1
  obtain ⟨c, m, cc, ks, r3, hn, hrow, hlen⟩ := creases_of t3
  simp at r3
  subst r3
  have hm : m ≤ 3518437208883 := by
    rcases hlen with rfl | ⟨es, rs, rfl, e⟩
    · omega
    · have := hk ((es.length + rs.length) * Tryd.prog.bytesOf 74) (DataW.weights_mem_each (j := 3) (t := 23) (d := y3.1) rfl rfl _ (by rw [e]; simp [DataW.weights, Tryd.underlying23]))
      rw [by110] at this
      unfold reachBytes at this
      omega
  rcases open_ints Tryd.underlying22 Tryd.underlying3 c3 t2 with ⟨r2, _⟩ | ⟨x, l, cap, zs, r2, _, hl, _, hz, hy, hcell, _⟩
  · simp at r2
    subst r2
    exact ⟨X, Y, none, c, 0, cc, m, [], ks, rfl, fun i hi => absurd hi (by simp), hrow, hn, by simp, hm⟩
  · simp at r2
    subst r2
    have hz' : zs.length = cap := by simpa using hz
    have hlz : (zs.take l).length = l := by rw [List.length_take]; omega
    refine ⟨X, Y, some x, c, cap, cc, m, zs.take l, ks, by rw [hlz], ?_, hrow, hn, ?_, hm⟩
    · intro i hi
      rw [hlz] at hi
      obtain ⟨b, off, rfl, hc'⟩ := ints_at hcell (by omega)
      refine ⟨b, off, rfl, ?_⟩
      rw [hc' i (by omega), List.getElem_take, List.getD_eq_getElem?_getD, List.getElem?_eq_getElem (by omega)]
      rfl
    · have := hk (((lits (H := H) .i64 (zs.take l)).length + (lits (H := H) .i64 (zs.drop l)).length) * Tryd.prog.bytesOf 3) (DataW.weights_mem_each (j := 2) (t := 22) (d := y2.1) rfl rfl _ (by rw [hy]; simp [DataW.weights, Tryd.underlying22]))
      rw [by3, show (lits (H := H) .i64 (zs.take l)).length = (zs.take l).length by simp [lits]] at this
      unfold reachBytes at this
      omega
end Go.Proofs.YtmjneoaciopioaaDoor
namespace Go.Proofs.YtmjneoaciopioaaDoor
open Go.RowKit
attribute [local go_sem ↓] Go.wp_at_zero Go.wp_at_succ


set_option maxHeartbeats 3200000 in
theorem afterOf_any (a b c d e f A B C D E F : Int) (w : World) (hs : Sm a b c d) (hS : Sm A B C D) (he : Ef e f) (hE : Ef E F) :
    Calls Tryd.prog 45 #[.agg #[.int .i64 a, .int .i64 b, .int .i64 c, .int .i64 d, .int .i64 e, .int .i64 f], .agg #[.int .i64 A, .int .i64 B, .int .i64 C, .int .i64 D, .int .i64 E, .int .i64 F]] w fun r w' =>
      r = .returned (.agg #[.int .i64 (dot A B a c), .int .i64 (dot A B b d), .int .i64 (dot C D a c), .int .i64 (dot C D b d), .int .i64 (dot A B e f + E), .int .i64 (dot C D e f + F)]) ∧ Below w.heap.size w w' := by
  have HS1 : Hid (Sm a b c d) := hs
  have HE1 : Hid (Ef e f) := he
  have HS : Hid (Sm A B C D) := hS
  have HE : Hid (Ef E F) := hE
  have q0 : (-1000010 ≤ dot a b 0 0 + e ∧ dot a b 0 0 + e ≤ 1000010) ∧ (-1000010 ≤ dot c d 0 0 + f ∧ dot c d 0 0 + f ≤ 1000010) := by obtain ⟨⟨_, _⟩, ⟨_, _⟩⟩ := he; simp [dot]; omega
  have q1 : (-1000010 ≤ dot a b 1 0 + e ∧ dot a b 1 0 + e ≤ 1000010) ∧ (-1000010 ≤ dot c d 1 0 + f ∧ dot c d 1 0 + f ≤ 1000010) := by obtain ⟨⟨_, _⟩, ⟨_, _⟩⟩ := he; obtain ⟨⟨_, _⟩, ⟨_, _⟩, ⟨_, _⟩, ⟨_, _⟩⟩ := hs; simp [dot]; omega
  have q2 : (-1000010 ≤ dot a b 0 1 + e ∧ dot a b 0 1 + e ≤ 1000010) ∧ (-1000010 ≤ dot c d 0 1 + f ∧ dot c d 0 1 + f ≤ 1000010) := by obtain ⟨⟨_, _⟩, ⟨_, _⟩⟩ := he; obtain ⟨⟨_, _⟩, ⟨_, _⟩, ⟨_, _⟩, ⟨_, _⟩⟩ := hs; simp [dot]; omega
  obtain ⟨⟨q01, q02⟩, ⟨q03, q04⟩⟩ := q0
  obtain ⟨⟨q11, q12⟩, ⟨q13, q14⟩⟩ := q1
  obtain ⟨⟨q21, q22⟩, ⟨q23, q24⟩⟩ := q2
  have r1 := dot_bd hS.1.1 hS.1.2 hS.2.1.1 hS.2.1.2 q01 q02 q03 q04
  have r2 := dot_bd hS.2.2.1.1 hS.2.2.1.2 hS.2.2.2.1 hS.2.2.2.2 q01 q02 q03 q04
  have r3 := dot_bd hS.1.1 hS.1.2 hS.2.1.1 hS.2.1.2 q11 q12 q13 q14
  have r4 := dot_bd hS.2.2.1.1 hS.2.2.1.2 hS.2.2.2.1 hS.2.2.2.2 q11 q12 q13 q14
  have r5 := dot_bd hS.1.1 hS.1.2 hS.2.1.1 hS.2.1.2 q21 q22 q23 q24
  have r6 := dot_bd hS.2.2.1.1 hS.2.2.1.2 hS.2.2.2.1 hS.2.2.2.2 q21 q22 q23 q24
  obtain ⟨⟨E1, E2⟩, ⟨F1, F2⟩⟩ := hE
  clear hs hS he
  go_enter Tryd.func45, Tryd.ntmps45
  go_wp2
  go_cut [5] (fun s5 wx => ∃ g5 : Nat, s5 = .pointer (some ⟨g5, 0, none⟩) ∧ Pt wx g5 (dot A B (dot a b 0 0 + e) (dot c d 0 0 + f) + E) (dot C D (dot a b 0 0 + e) (dot c d 0 0 + f) + F) ∧ Below w.heap.size w wx ∧ Mp wx w.heap.size a b c d e f ∧ Mp wx (w.heap.size + 1) A B C D E F ∧ Mp wx (w.heap.size + 1 + 1) 0 0 0 0 0 0 ∧ Fr wx (w.heap.size + 1 + 1))
  case first =>
    go_region_held3 (fun w' => (w'.cell? ⟨w.heap.size, 0, none⟩ = some (.int .i64 a) ∧ w'.cell? ⟨w.heap.size, 1, none⟩ = some (.int .i64 b) ∧ w'.cell? ⟨w.heap.size, 2, none⟩ = some (.int .i64 c) ∧ w'.cell? ⟨w.heap.size, 3, none⟩ = some (.int .i64 d) ∧ w'.cell? ⟨w.heap.size, 4, none⟩ = some (.int .i64 e) ∧ w'.cell? ⟨w.heap.size, 5, none⟩ = some (.int .i64 f)) ∧ (w'.cell? ⟨w.heap.size + 1, 0, none⟩ = some (.int .i64 A) ∧ w'.cell? ⟨w.heap.size + 1, 1, none⟩ = some (.int .i64 B) ∧ w'.cell? ⟨w.heap.size + 1, 2, none⟩ = some (.int .i64 C) ∧ w'.cell? ⟨w.heap.size + 1, 3, none⟩ = some (.int .i64 D) ∧ w'.cell? ⟨w.heap.size + 1, 4, none⟩ = some (.int .i64 E) ∧ w'.cell? ⟨w.heap.size + 1, 5, none⟩ = some (.int .i64 F)))
      ((refine ⟨⟨?_, ?_, ?_, ?_, ?_, ?_⟩, ?_, ?_, ?_, ?_, ?_, ?_⟩ <;> (first | (with_reducible (repeat (first | assumption | refine al_old ?_ | refine dr_old ?_)); done) | (simp [go_sem]; done))))
      (first | (go_at_call 71; refine (pointOf_any _ _ _ _ _ _ _ _ _ (by first | exact HS1.out | exact HS.out) (by first | exact HE1.out.1 | exact HE.out.1) (by first | exact HE1.out.2 | exact HE.out.2) (by omega) (by omega) (by omega) (by omega)).mono ?_; rintro e w2 ⟨rfl, o3, o4, o5, rfl⟩))
    all_goals
      go_wp2
      go_meet
      case rel =>
        refine ⟨_, rfl, ?_, ?_, ?_, ?_, ?_, ?_⟩
        · simp [Pt, go_sem, World.cell?_alloc_past]
        · with_reducible repeat (first | refine bl_alloc ?_ | refine bl_drew ?_ | exact bl_refl _)
        · simp [Mp, go_sem, World.cell?_alloc_past]
        · simp [Mp, go_sem, World.cell?_alloc_past]
        · simp [Mp, go_sem, World.cell?_alloc_past]
        · simp [Fr, go_sem]
  case rest =>
    obtain ⟨g5, rfl, p5, hB, hM, hN, hR, hF⟩ := hcut
    have hz : w.heap.size ≤ wc.heap.size := hB.size
    obtain ⟨m0, m1, m2, m3, m4, m5⟩ := id hM
    obtain ⟨n0, n1, n2, n3, n4, n5⟩ := id hN
    have hP : Hid (Pt wc g5 (dot A B (dot a b 0 0 + e) (dot c d 0 0 + f) + E) (dot C D (dot a b 0 0 + e) (dot c d 0 0 + f) + F) ∧ Below w.heap.size w wc ∧ Mp wc w.heap.size a b c d e f ∧ Mp wc (w.heap.size + 1) A B C D E F ∧ Mp wc (w.heap.size + 1 + 1) 0 0 0 0 0 0 ∧ Fr wc (w.heap.size + 1 + 1)) := ⟨p5, hB, hM, hN, hR, hF⟩
    clear hB hM hN hR hF p5
    go_wp2
    go_cut [5, 6] (fun s5 s6 wx => ∃ g5 g6 : Nat, s5 = .pointer (some ⟨g5, 0, none⟩) ∧ s6 = .pointer (some ⟨g6, 0, none⟩) ∧ Pt wx g5 (dot A B (dot a b 0 0 + e) (dot c d 0 0 + f) + E) (dot C D (dot a b 0 0 + e) (dot c d 0 0 + f) + F) ∧ Pt wx g6 (dot A B (dot a b 1 0 + e) (dot c d 1 0 + f) + E) (dot C D (dot a b 1 0 + e) (dot c d 1 0 + f) + F) ∧ Below w.heap.size w wx ∧ Mp wx w.heap.size a b c d e f ∧ Mp wx (w.heap.size + 1) A B C D E F ∧ Mp wx (w.heap.size + 1 + 1) 0 0 0 0 0 0 ∧ Fr wx (w.heap.size + 1 + 1))
    case first =>
      go_region_held3 (fun w' => (w'.cell? ⟨w.heap.size, 0, none⟩ = some (.int .i64 a) ∧ w'.cell? ⟨w.heap.size, 1, none⟩ = some (.int .i64 b) ∧ w'.cell? ⟨w.heap.size, 2, none⟩ = some (.int .i64 c) ∧ w'.cell? ⟨w.heap.size, 3, none⟩ = some (.int .i64 d) ∧ w'.cell? ⟨w.heap.size, 4, none⟩ = some (.int .i64 e) ∧ w'.cell? ⟨w.heap.size, 5, none⟩ = some (.int .i64 f)) ∧ (w'.cell? ⟨w.heap.size + 1, 0, none⟩ = some (.int .i64 A) ∧ w'.cell? ⟨w.heap.size + 1, 1, none⟩ = some (.int .i64 B) ∧ w'.cell? ⟨w.heap.size + 1, 2, none⟩ = some (.int .i64 C) ∧ w'.cell? ⟨w.heap.size + 1, 3, none⟩ = some (.int .i64 D) ∧ w'.cell? ⟨w.heap.size + 1, 4, none⟩ = some (.int .i64 E) ∧ w'.cell? ⟨w.heap.size + 1, 5, none⟩ = some (.int .i64 F)))
        ((refine ⟨⟨?_, ?_, ?_, ?_, ?_, ?_⟩, ?_, ?_, ?_, ?_, ?_, ?_⟩ <;> (first | (with_reducible (repeat (first | assumption | refine al_old ?_ | refine dr_old ?_)); done) | (simp [go_sem]; done))))
        (first | (go_at_call 71; refine (pointOf_any _ _ _ _ _ _ _ _ _ (by first | exact HS1.out | exact HS.out) (by first | exact HE1.out.1 | exact HE.out.1) (by first | exact HE1.out.2 | exact HE.out.2) (by omega) (by omega) (by omega) (by omega)).mono ?_; rintro e w2 ⟨rfl, o3, o4, o5, rfl⟩))
      all_goals
        go_wp2
        go_meet
        case rel =>
          obtain ⟨p5, hB, hM, hN, hR, hF⟩ := hP.out
          refine ⟨_, _, rfl, rfl, p5.kept (by with_reducible repeat (first | refine bl_alloc ?_ | refine bl_drew ?_ | exact bl_refl _)), ?_, bl_via hB (by with_reducible repeat (first | refine bl_alloc ?_ | refine bl_drew ?_ | exact bl_refl _)), hM.kept (by with_reducible repeat (first | refine bl_alloc ?_ | refine bl_drew ?_ | exact bl_refl _)), hN.kept (by with_reducible repeat (first | refine bl_alloc ?_ | refine bl_drew ?_ | exact bl_refl _)), hR.kept (by with_reducible repeat (first | refine bl_alloc ?_ | refine bl_drew ?_ | exact bl_refl _)), hF.kept hR.lt (by with_reducible repeat (first | refine bl_alloc ?_ | refine bl_drew ?_ | exact bl_refl _))⟩
          simp [Pt, go_sem, World.cell?_alloc_past]
    case rest =>
      clear hP hz m0 m1 m2 m3 m4 m5 n0 n1 n2 n3 n4 n5
      obtain ⟨g5, g6, rfl, rfl, p5, p6, hB, hM, hN, hR, hF⟩ := hcut
      have hz : w.heap.size ≤ wc.heap.size := hB.size
      obtain ⟨m0, m1, m2, m3, m4, m5⟩ := id hM
      obtain ⟨n0, n1, n2, n3, n4, n5⟩ := id hN
      have hP : Hid (Pt wc g5 (dot A B (dot a b 0 0 + e) (dot c d 0 0 + f) + E) (dot C D (dot a b 0 0 + e) (dot c d 0 0 + f) + F) ∧ Pt wc g6 (dot A B (dot a b 1 0 + e) (dot c d 1 0 + f) + E) (dot C D (dot a b 1 0 + e) (dot c d 1 0 + f) + F) ∧ Below w.heap.size w wc ∧ Mp wc w.heap.size a b c d e f ∧ Mp wc (w.heap.size + 1) A B C D E F ∧ Mp wc (w.heap.size + 1 + 1) 0 0 0 0 0 0 ∧ Fr wc (w.heap.size + 1 + 1)) := ⟨p5, p6, hB, hM, hN, hR, hF⟩
      clear hB hM hN hR hF p5 p6
      go_wp2
      go_cut [5, 6, 7] (fun s5 s6 s7 wx => ∃ g5 g6 g7 : Nat, s5 = .pointer (some ⟨g5, 0, none⟩) ∧ s6 = .pointer (some ⟨g6, 0, none⟩) ∧ s7 = .pointer (some ⟨g7, 0, none⟩) ∧ Pt wx g5 (dot A B (dot a b 0 0 + e) (dot c d 0 0 + f) + E) (dot C D (dot a b 0 0 + e) (dot c d 0 0 + f) + F) ∧ Pt wx g6 (dot A B (dot a b 1 0 + e) (dot c d 1 0 + f) + E) (dot C D (dot a b 1 0 + e) (dot c d 1 0 + f) + F) ∧ Pt wx g7 (dot A B (dot a b 0 1 + e) (dot c d 0 1 + f) + E) (dot C D (dot a b 0 1 + e) (dot c d 0 1 + f) + F) ∧ Below w.heap.size w wx ∧ Mp wx w.heap.size a b c d e f ∧ Mp wx (w.heap.size + 1) A B C D E F ∧ Mp wx (w.heap.size + 1 + 1) 0 0 0 0 0 0 ∧ Fr wx (w.heap.size + 1 + 1))
      case first =>
        go_region_held3 (fun w' => (w'.cell? ⟨w.heap.size, 0, none⟩ = some (.int .i64 a) ∧ w'.cell? ⟨w.heap.size, 1, none⟩ = some (.int .i64 b) ∧ w'.cell? ⟨w.heap.size, 2, none⟩ = some (.int .i64 c) ∧ w'.cell? ⟨w.heap.size, 3, none⟩ = some (.int .i64 d) ∧ w'.cell? ⟨w.heap.size, 4, none⟩ = some (.int .i64 e) ∧ w'.cell? ⟨w.heap.size, 5, none⟩ = some (.int .i64 f)) ∧ (w'.cell? ⟨w.heap.size + 1, 0, none⟩ = some (.int .i64 A) ∧ w'.cell? ⟨w.heap.size + 1, 1, none⟩ = some (.int .i64 B) ∧ w'.cell? ⟨w.heap.size + 1, 2, none⟩ = some (.int .i64 C) ∧ w'.cell? ⟨w.heap.size + 1, 3, none⟩ = some (.int .i64 D) ∧ w'.cell? ⟨w.heap.size + 1, 4, none⟩ = some (.int .i64 E) ∧ w'.cell? ⟨w.heap.size + 1, 5, none⟩ = some (.int .i64 F)))
          ((refine ⟨⟨?_, ?_, ?_, ?_, ?_, ?_⟩, ?_, ?_, ?_, ?_, ?_, ?_⟩ <;> (first | (with_reducible (repeat (first | assumption | refine al_old ?_ | refine dr_old ?_)); done) | (simp [go_sem]; done))))
          (first | (go_at_call 71; refine (pointOf_any _ _ _ _ _ _ _ _ _ (by first | exact HS1.out | exact HS.out) (by first | exact HE1.out.1 | exact HE.out.1) (by first | exact HE1.out.2 | exact HE.out.2) (by omega) (by omega) (by omega) (by omega)).mono ?_; rintro e w2 ⟨rfl, o3, o4, o5, rfl⟩))
        all_goals
          go_wp2
          go_meet
          case rel =>
            obtain ⟨p5, p6, hB, hM, hN, hR, hF⟩ := hP.out
            refine ⟨_, _, _, rfl, rfl, rfl, p5.kept (by with_reducible repeat (first | refine bl_alloc ?_ | refine bl_drew ?_ | exact bl_refl _)), p6.kept (by with_reducible repeat (first | refine bl_alloc ?_ | refine bl_drew ?_ | exact bl_refl _)), ?_, bl_via hB (by with_reducible repeat (first | refine bl_alloc ?_ | refine bl_drew ?_ | exact bl_refl _)), hM.kept (by with_reducible repeat (first | refine bl_alloc ?_ | refine bl_drew ?_ | exact bl_refl _)), hN.kept (by with_reducible repeat (first | refine bl_alloc ?_ | refine bl_drew ?_ | exact bl_refl _)), hR.kept (by with_reducible repeat (first | refine bl_alloc ?_ | refine bl_drew ?_ | exact bl_refl _)), hF.kept hR.lt (by with_reducible repeat (first | refine bl_alloc ?_ | refine bl_drew ?_ | exact bl_refl _))⟩
            simp [Pt, go_sem, World.cell?_alloc_past]
      case rest =>
        clear hP hz m0 m1 m2 m3 m4 m5 n0 n1 n2 n3 n4 n5
        obtain ⟨g5, g6, g7, rfl, rfl, rfl, p5, p6, p7, hB, hM, hN, hR, hF⟩ := hcut
        have hz : w.heap.size ≤ wc.heap.size := hB.size
        obtain ⟨m0, m1, m2, m3, m4, m5⟩ := id hM
        obtain ⟨n0, n1, n2, n3, n4, n5⟩ := id hN
        obtain ⟨r0, r1, r2, r3, r4, r5⟩ := id hR
        obtain ⟨f0, f1', f2', f3, f4, f5⟩ := id hF
        obtain ⟨x5, y5⟩ := id p5
        obtain ⟨x6, y6⟩ := id p6
        obtain ⟨x7, y7⟩ := id p7
        have HB : Hid (Below w.heap.size w wc) := hB
        clear hB hM hN hR hF p5 p6 p7 m0 m1 m2 m3 m4 m5 n0 n1 n2 n3 n4 n5
        go_wp2
        refine bodyPost_ret (v := .agg #[.int .i64 (dot A B (dot a b 1 0 + e) (dot c d 1 0 + f) + E - (dot A B (dot a b 0 0 + e) (dot c d 0 0 + f) + E)), .int .i64 (dot A B (dot a b 0 1 + e) (dot c d 0 1 + f) + E - (dot A B (dot a b 0 0 + e) (dot c d 0 0 + f) + E)), .int .i64 (dot C D (dot a b 1 0 + e) (dot c d 1 0 + f) + F - (dot C D (dot a b 0 0 + e) (dot c d 0 0 + f) + F)), .int .i64 (dot C D (dot a b 0 1 + e) (dot c d 0 1 + f) + F - (dot C D (dot a b 0 0 + e) (dot c d 0 0 + f) + F)), .int .i64 (dot A B (dot a b 0 0 + e) (dot c d 0 0 + f) + E), .int .i64 (dot C D (dot a b 0 0 + e) (dot c d 0 0 + f) + F)]) ?_ rfl ⟨?_, ?_⟩
        · simp [results, Tryd.results45, go_sem, r0, r1, r2, r3, r4, r5]
        · exact ret6 (dot_one _ _ _ _ _ _ _ _ _ _ _ rfl rfl) (dot_two _ _ _ _ _ _ _ _ _ _ _ rfl rfl) (dot_one _ _ _ _ _ _ _ _ _ _ _ rfl rfl) (dot_two _ _ _ _ _ _ _ _ _ _ _ rfl rfl) (dot_nought _ _ _ _ _ _ _ _ _) (dot_nought _ _ _ _ _ _ _ _ _)
        · exact bl_set (bl_set (bl_set (bl_set (bl_set (bl_set HB.out (by simp; omega)) (by simp; omega)) (by simp; omega)) (by simp; omega)) (by simp; omega)) (by simp; omega)
end Go.Proofs.YtmjneoaciopioaaDoor
