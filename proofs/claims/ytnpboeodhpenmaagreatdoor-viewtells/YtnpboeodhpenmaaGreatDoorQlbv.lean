/- A part of the proof of viewTells_holds. -/
import Derived.Test.YtnpboeodhpenmaaGreatDoorQlbc
import Derived.Test.YtnpboeodhpenmaaGreatDoorQlbu
namespace Go.Proofs.YtnpboeodhpenmaaGreatDoor
open Go.RowKit

/-- What is seen, in a row of memory, whole. -/
def SnQ (w : World) (a : Option Addr) (l : List ((Int × Int × Int) × (Int × Int × Int) × Bool)) : Prop := ∀ i, i < l.length → ∃ g, a = some ⟨g, 0, none⟩ ∧ w.cell? ⟨g, i * 7, none⟩ = some (.int .i64 (sn l i).1.1) ∧ w.cell? ⟨g, i * 7 + 1, none⟩ = some (.int .i64 (sn l i).1.2.1) ∧ w.cell? ⟨g, i * 7 + 2, none⟩ = some (.int .i64 (sn l i).1.2.2) ∧ w.cell? ⟨g, i * 7 + 3, none⟩ = some (.int .i64 (sn l i).2.1.1) ∧ w.cell? ⟨g, i * 7 + 4, none⟩ = some (.int .i64 (sn l i).2.1.2.1) ∧ w.cell? ⟨g, i * 7 + 5, none⟩ = some (.int .i64 (sn l i).2.1.2.2) ∧ w.cell? ⟨g, i * 7 + 6, none⟩ = some (.bool (sn l i).2.2)
theorem SnQ.kept {w wx : World} {a : Option Addr} {l : List ((Int × Int × Int) × (Int × Int × Int) × Bool)} (h : SnQ w a l) (hb : Below w.heap.size w wx) : SnQ wx a l := fun i hi => by
  obtain ⟨g, e, h0, h1, h2, h3, h4, h5, h6⟩ := h i hi
  exact ⟨g, e, cl_kept hb h0, cl_kept hb h1, cl_kept hb h2, cl_kept hb h3, cl_kept hb h4, cl_kept hb h5, cl_kept hb h6⟩
theorem SnQ.snp {w : World} {a : Option Addr} {l : List ((Int × Int × Int) × (Int × Int × Int) × Bool)} (h : SnQ w a l) : SnP w a l := fun i hi => by
  obtain ⟨g, e, h0, h1, h2, _, _, _, h6⟩ := h i hi
  exact ⟨g, e, h0, h1, h2, h6⟩
theorem neq63 (X Y K x y k : Int) (b : Bool) (w : World) : (binOp .neq 73 (.agg #[.int .i64 X, .int .i64 Y, .int .i64 K, .int .i64 x, .int .i64 y, .int .i64 k, .bool b]) (.agg #[.int .i64 X, .int .i64 Y, .int .i64 K, .int .i64 x, .int .i64 y, .int .i64 k, .bool b])).run Tryz.prog w = .ok (.bool false) w := by
  cases b <;> simp [go_sem]
set_option maxRecDepth 100000 in
set_option maxHeartbeats 6400000 in
theorem viewTells_no (W H : Int) (a c m s : Option Addr) (zl ca cn cc mn mc sl sc : Nat) (OK : World → Value → Prop) (w : World)
    (C7 : Hid (∀ V : World, Below w.heap.size w V → Calls Tryz.prog 9 #[.agg #[.int .i64 W, .int .i64 H, .slice a zl ca, .slice c cn cc, .slice m mn mc, .slice s sl sc]] V fun e w' => ∃ u, e = .returned u ∧ OK w' u ∧ Below V.heap.size V w'))
    (C16 : Hid (∀ (V : World) (u : Value), Below w.heap.size w V → OK V u → Calls Tryz.prog 21 #[u] V fun e w' => e = .returned (.tuple #[.slice none 0 0, .int .i64 10]) ∧ Below V.heap.size V w'))
    (C17 : Hid (∀ (V : World) (u : Value), Below w.heap.size w V → OK V u → Calls Tryz.prog 22 #[u] V fun e w' => e = .returned (.tuple #[.int .i64 0, .int .i64 0, .int .i64 10]) ∧ Below V.heap.size V w'))
    (C18 : Hid (∀ (V : World) (u : Value), Below w.heap.size w V → OK V u → Calls Tryz.prog 23 #[u] V fun e w' => e = .returned (.tuple #[.string ⟨#[]⟩, .int .i64 10]) ∧ Below V.heap.size V w'))
    (C8 : Hid (∀ V : World, Below w.heap.size w V → Calls Tryz.prog 12 #[.agg #[.int .i64 W, .int .i64 H, .slice a zl ca, .slice c cn cc, .slice m mn mc, .slice s sl sc]] V fun e w' => e = .returned (.bool false) ∧ Below V.heap.size V w')) :
    Calls Tryz.prog 5 #[.agg #[.int .i64 W, .int .i64 H, .slice a zl ca, .slice c cn cc, .slice m mn mc, .slice s sl sc]] w fun e w' => e = .returned (.bool true) ∧ Below w.heap.size w w' := by
  go_enter Tryz.func5, Tryz.ntmps5
  go_upto_region 2 with (first | (go_at_call 9; refine (C7.out _ (bl_alloc (bl_refl _))).mono ?_; rintro e w1 ⟨u1, rfl, ho, hb⟩; have t0 : w1.cell? ⟨w.heap.size, 0, none⟩ = some (.int .i64 W) := cl_kept hb (by simp [go_sem]); have t1 : w1.cell? ⟨w.heap.size, 1, none⟩ = some (.int .i64 H) := cl_kept hb (by simp [go_sem]); have t2 : w1.cell? ⟨w.heap.size, 2, none⟩ = some (.slice a zl ca) := cl_kept hb (by simp [go_sem]); have t3 : w1.cell? ⟨w.heap.size, 3, none⟩ = some (.slice c cn cc) := cl_kept hb (by simp [go_sem]); have t4 : w1.cell? ⟨w.heap.size, 4, none⟩ = some (.slice m mn mc) := cl_kept hb (by simp [go_sem]); have t5 : w1.cell? ⟨w.heap.size, 5, none⟩ = some (.slice s sl sc) := cl_kept hb (by simp [go_sem]); have HB : Hid (Below w.heap.size w w1) := bl_via (bl_alloc (bl_refl _)) hb; have HO : Hid (OK w1 u1) := ho; have ST1 : Hid True := trivial; clear hb ho) | (go_at_call 21; refine (C16.out _ _ HB.out HO.out).mono ?_; rintro e w2 ⟨rfl, hb⟩; replace t0 := cl_kept hb t0; replace t1 := cl_kept hb t1; replace t2 := cl_kept hb t2; replace t3 := cl_kept hb t3; replace t4 := cl_kept hb t4; replace t5 := cl_kept hb t5; replace HB : Hid (Below w.heap.size w w2) := bl_via HB.out hb; clear hb HO) | fail)
  clear ST1
  go_upto_region 3 with (first | (go_at_call 9; refine (C7.out _ HB.out).mono ?_; rintro e w3 ⟨u2, rfl, ho, hb⟩; replace t0 := cl_kept hb t0; replace t1 := cl_kept hb t1; replace t2 := cl_kept hb t2; replace t3 := cl_kept hb t3; replace t4 := cl_kept hb t4; replace t5 := cl_kept hb t5; replace HB : Hid (Below w.heap.size w w3) := bl_via HB.out hb; have HO : Hid (OK w3 u2) := ho; clear hb ho) | (go_at_call 22; refine (C17.out _ _ HB.out HO.out).mono ?_; rintro e w4 ⟨rfl, hb⟩; replace t0 := cl_kept hb t0; replace t1 := cl_kept hb t1; replace t2 := cl_kept hb t2; replace t3 := cl_kept hb t3; replace t4 := cl_kept hb t4; replace t5 := cl_kept hb t5; replace HB : Hid (Below w.heap.size w w4) := bl_via HB.out hb; clear hb HO) | fail)
  go_upto_region 4 with (first | (go_at_call 9; refine (C7.out _ HB.out).mono ?_; rintro e w5 ⟨u3, rfl, ho, hb⟩; replace t0 := cl_kept hb t0; replace t1 := cl_kept hb t1; replace t2 := cl_kept hb t2; replace t3 := cl_kept hb t3; replace t4 := cl_kept hb t4; replace t5 := cl_kept hb t5; replace HB : Hid (Below w.heap.size w w5) := bl_via HB.out hb; have HO : Hid (OK w5 u3) := ho; clear hb ho) | (go_at_call 23; refine (C18.out _ _ HB.out HO.out).mono ?_; rintro e w6 ⟨rfl, hb⟩; replace t0 := cl_kept hb t0; replace t1 := cl_kept hb t1; replace t2 := cl_kept hb t2; replace t3 := cl_kept hb t3; replace t4 := cl_kept hb t4; replace t5 := cl_kept hb t5; replace HB : Hid (Below w.heap.size w w6) := bl_via HB.out hb; clear hb HO) | fail)
  go_wp2_with (first | (go_at_call 12; refine (C8.out _ HB.out).mono ?_; rintro e w7 ⟨rfl, hb⟩; replace t0 := cl_kept hb t0; replace t1 := cl_kept hb t1; replace t2 := cl_kept hb t2; replace t3 := cl_kept hb t3; replace t4 := cl_kept hb t4; replace t5 := cl_kept hb t5; replace HB : Hid (Below w.heap.size w w7) := bl_via HB.out hb; clear hb) | fail)
  go_ret
  exact ⟨ret_bool (by first | rfl | simp), HB.out⟩
set_option maxRecDepth 100000 in
set_option maxHeartbeats 6400000 in
theorem viewTells_ok (W H : Int) (a c m s : Option Addr) (zl ca cn cc mn mc sl sc : Nat) (OK : World → Value → Prop) (th : Int) (p : ByteArray) (n : Nat) (l : List ((Int × Int × Int) × (Int × Int × Int) × Bool)) (hn : n = l.length) (hn3 : n ≤ 300) (w : World)
    (C7 : Hid (∀ V : World, Below w.heap.size w V → Calls Tryz.prog 9 #[.agg #[.int .i64 W, .int .i64 H, .slice a zl ca, .slice c cn cc, .slice m mn mc, .slice s sl sc]] V fun e w' => ∃ u, e = .returned u ∧ OK w' u ∧ Below V.heap.size V w'))
    (C16 : Hid (∀ (V : World) (u : Value), Below w.heap.size w V → OK V u → Calls Tryz.prog 21 #[u] V fun e w' => ∃ (b : Option Addr) (bc : Nat), e = .returned (.tuple #[.slice b n bc, .int .i64 0]) ∧ SnQ w' b l ∧ Below V.heap.size V w'))
    (C17 : Hid (∀ (V : World) (u : Value), Below w.heap.size w V → OK V u → Calls Tryz.prog 22 #[u] V fun e w' => e = .returned (.tuple #[.int .i64 th, .int .i64 (sl : Int), .int .i64 0]) ∧ Below V.heap.size V w'))
    (C18 : Hid (∀ (V : World) (u : Value), Below w.heap.size w V → OK V u → Calls Tryz.prog 23 #[u] V fun e w' => e = .returned (.tuple #[.string p, .int .i64 0]) ∧ Below V.heap.size V w'))
    (C8 : Hid (∀ V : World, Below w.heap.size w V → Calls Tryz.prog 12 #[.agg #[.int .i64 W, .int .i64 H, .slice a zl ca, .slice c cn cc, .slice m mn mc, .slice s sl sc]] V fun e w' => e = .returned (.bool true) ∧ Below V.heap.size V w'))
    (C19 : Hid (∀ V : World, Below w.heap.size w V → Calls Tryz.prog 24 #[.agg #[.int .i64 W, .int .i64 H, .slice a zl ca, .slice c cn cc, .slice m mn mc, .slice s sl sc]] V fun e w' => ∃ (b : Option Addr) (bc : Nat), e = .returned (.slice b n bc) ∧ SnQ w' b l ∧ Below V.heap.size V w'))
    (C20 : Hid (∀ V : World, Below w.heap.size w V → Calls Tryz.prog 25 #[.agg #[.int .i64 W, .int .i64 H, .slice a zl ca, .slice c cn cc, .slice m mn mc, .slice s sl sc]] V fun e w' => e = .returned (.int .i64 th) ∧ Below V.heap.size V w'))
    (C21 : Hid (∀ V : World, Below w.heap.size w V → Calls Tryz.prog 26 #[.agg #[.int .i64 W, .int .i64 H, .slice a zl ca, .slice c cn cc, .slice m mn mc, .slice s sl sc]] V fun e w' => e = .returned (.string p) ∧ Below V.heap.size V w')) :
    Calls Tryz.prog 5 #[.agg #[.int .i64 W, .int .i64 H, .slice a zl ca, .slice c cn cc, .slice m mn mc, .slice s sl sc]] w fun e w' => e = .returned (.bool true) ∧ Below w.heap.size w w' := by
  have n63 := neq63
  have HN : Hid (n = l.length) := hn
  clear hn
  go_enter Tryz.func5, Tryz.ntmps5
  go_upto_region 2 with (first | (go_at_call 9; refine (C7.out _ (bl_alloc (bl_refl _))).mono ?_; rintro e w1 ⟨u1, rfl, ho, hb⟩; have t0 : w1.cell? ⟨w.heap.size, 0, none⟩ = some (.int .i64 W) := cl_kept hb (by simp [go_sem]); have t1 : w1.cell? ⟨w.heap.size, 1, none⟩ = some (.int .i64 H) := cl_kept hb (by simp [go_sem]); have t2 : w1.cell? ⟨w.heap.size, 2, none⟩ = some (.slice a zl ca) := cl_kept hb (by simp [go_sem]); have t3 : w1.cell? ⟨w.heap.size, 3, none⟩ = some (.slice c cn cc) := cl_kept hb (by simp [go_sem]); have t4 : w1.cell? ⟨w.heap.size, 4, none⟩ = some (.slice m mn mc) := cl_kept hb (by simp [go_sem]); have t5 : w1.cell? ⟨w.heap.size, 5, none⟩ = some (.slice s sl sc) := cl_kept hb (by simp [go_sem]); have HB : Hid (Below w.heap.size w w1) := bl_via (bl_alloc (bl_refl _)) hb; have HO : Hid (OK w1 u1) := ho; have ST1 : Hid True := trivial; clear hb ho) | (go_at_call 21; refine (C16.out _ _ HB.out HO.out).mono ?_; rintro e w2 ⟨b1, bc1, rfl, hr, hb⟩; replace t0 := cl_kept hb t0; replace t1 := cl_kept hb t1; replace t2 := cl_kept hb t2; replace t3 := cl_kept hb t3; replace t4 := cl_kept hb t4; replace t5 := cl_kept hb t5; replace HB : Hid (Below w.heap.size w w2) := bl_via HB.out hb; have HR : Hid (SnQ w2 b1 l) := hr; clear hb hr HO) | fail)
  clear ST1
  go_upto_region 3 with (first | (go_at_call 9; refine (C7.out _ HB.out).mono ?_; rintro e w3 ⟨u2, rfl, ho, hb⟩; replace t0 := cl_kept hb t0; replace t1 := cl_kept hb t1; replace t2 := cl_kept hb t2; replace t3 := cl_kept hb t3; replace t4 := cl_kept hb t4; replace t5 := cl_kept hb t5; replace HB : Hid (Below w.heap.size w w3) := bl_via HB.out hb; replace HR : Hid (SnQ w3 b1 l) := HR.out.kept hb; have HO : Hid (OK w3 u2) := ho; clear hb ho) | (go_at_call 22; refine (C17.out _ _ HB.out HO.out).mono ?_; rintro e w4 ⟨rfl, hb⟩; replace t0 := cl_kept hb t0; replace t1 := cl_kept hb t1; replace t2 := cl_kept hb t2; replace t3 := cl_kept hb t3; replace t4 := cl_kept hb t4; replace t5 := cl_kept hb t5; replace HB : Hid (Below w.heap.size w w4) := bl_via HB.out hb; replace HR : Hid (SnQ w4 b1 l) := HR.out.kept hb; clear hb HO) | fail)
  go_upto_region 4 with (first | (go_at_call 9; refine (C7.out _ HB.out).mono ?_; rintro e w5 ⟨u3, rfl, ho, hb⟩; replace t0 := cl_kept hb t0; replace t1 := cl_kept hb t1; replace t2 := cl_kept hb t2; replace t3 := cl_kept hb t3; replace t4 := cl_kept hb t4; replace t5 := cl_kept hb t5; replace HB : Hid (Below w.heap.size w w5) := bl_via HB.out hb; replace HR : Hid (SnQ w5 b1 l) := HR.out.kept hb; have HO : Hid (OK w5 u3) := ho; clear hb ho) | (go_at_call 23; refine (C18.out _ _ HB.out HO.out).mono ?_; rintro e w6 ⟨rfl, hb⟩; replace t0 := cl_kept hb t0; replace t1 := cl_kept hb t1; replace t2 := cl_kept hb t2; replace t3 := cl_kept hb t3; replace t4 := cl_kept hb t4; replace t5 := cl_kept hb t5; replace HB : Hid (Below w.heap.size w w6) := bl_via HB.out hb; replace HR : Hid (SnQ w6 b1 l) := HR.out.kept hb; clear hb HO) | fail)
  go_upto_region 7 with (first | (go_at_call 12; refine (C8.out _ HB.out).mono ?_; rintro e w7 ⟨rfl, hb⟩; replace t0 := cl_kept hb t0; replace t1 := cl_kept hb t1; replace t2 := cl_kept hb t2; replace t3 := cl_kept hb t3; replace t4 := cl_kept hb t4; replace t5 := cl_kept hb t5; replace HB : Hid (Below w.heap.size w w7) := bl_via HB.out hb; replace HR : Hid (SnQ w7 b1 l) := HR.out.kept hb; clear hb) | (go_at_call 24; refine (C19.out _ HB.out).mono ?_; rintro e w8 ⟨b2, bc2, rfl, hr, hb⟩; replace t0 := cl_kept hb t0; replace t1 := cl_kept hb t1; replace t2 := cl_kept hb t2; replace t3 := cl_kept hb t3; replace t4 := cl_kept hb t4; replace t5 := cl_kept hb t5; replace HB : Hid (Below w.heap.size w w8) := bl_via HB.out hb; replace HR : Hid (SnQ w8 b1 l) := HR.out.kept hb; have HR2 : Hid (SnQ w8 b2 l) := hr; clear hb hr) | fail)
  go_wp2_with (first | (go_at_call 25; refine (C20.out _ HB.out).mono ?_; rintro e w9 ⟨rfl, hb⟩; replace t0 := cl_kept hb t0; replace t1 := cl_kept hb t1; replace t2 := cl_kept hb t2; replace t3 := cl_kept hb t3; replace t4 := cl_kept hb t4; replace t5 := cl_kept hb t5; replace HB : Hid (Below w.heap.size w w9) := bl_via HB.out hb; replace HR : Hid (SnQ w9 b1 l) := HR.out.kept hb; replace HR2 : Hid (SnQ w9 b2 l) := HR2.out.kept hb; clear hb) | (go_at_call 26; refine (C21.out _ HB.out).mono ?_; rintro e wA ⟨rfl, hb⟩; replace t0 := cl_kept hb t0; replace t1 := cl_kept hb t1; replace t2 := cl_kept hb t2; replace t3 := cl_kept hb t3; replace t4 := cl_kept hb t4; replace t5 := cl_kept hb t5; replace HB : Hid (Below w.heap.size w wA) := bl_via HB.out hb; replace HR : Hid (SnQ wA b1 l) := HR.out.kept hb; replace HR2 : Hid (SnQ wA b2 l) := HR2.out.kept hb; clear hb) | fail)
  clear t0 t1 t2 t3 t4 t5
  go_loopg [11] n (fun gk s11 wx => ∃ i : Nat, i ≤ n ∧ gk = n - i ∧ s11 = .int .i64 (i : Int) ∧ Below wA.heap.size wA wx)
  case atStart => exact ⟨0, by omega, rfl, rfl, bl_refl _⟩
  case round =>
    obtain ⟨i, hi, rfl, rfl, hB⟩ := hrel
    have HJ : Hid (Below wA.heap.size wA wr) := hB
    clear hB
    by_cases h1 : i < n
    · have i1 : (i : Int) < (n : Int) := by omega
      have i0 : (0 : Int) ≤ (i : Int) := by omega
      obtain ⟨g, e1, d0, d1, d2, d3, d4, d5, d6⟩ := (HR.out.kept HJ.out) i (by have := HN.out; omega)
      obtain ⟨g', e2, f0, f1, f2, f3, f4, f5, f6⟩ := (HR2.out.kept HJ.out) i (by have := HN.out; omega)
      subst e1
      subst e2
      have zd := World.block_lt_of_cell? _ _ d0
      have zf := World.block_lt_of_cell? _ _ f0
      generalize (sn l i).1.1 = X at *
      generalize (sn l i).1.2.1 = Y at *
      generalize (sn l i).1.2.2 = K at *
      generalize (sn l i).2.1.1 = X2 at *
      generalize (sn l i).2.1.2.1 = Y2 at *
      generalize (sn l i).2.1.2.2 = K2 at *
      generalize (sn l i).2.2 = B at *
      have nq9 := n63 X Y K X2 Y2 K2 B
      have kc := Kin.cells wr
      have kn : Nonempty (Kin wr) := ⟨⟨wr, bl_refl _⟩⟩
      go_wp2
      refine wp_region_kin (by kernel_rfl) (by kernel_rfl) ?_
      repeat (go_big_quiet_step (fail))
      refine wpQuiet_nil ?_
      intro wq hw'
      obtain ⟨nq, hw''⟩ := hw'
      have hq : Below wr.heap.size wr wq := hw'' ▸ nq.h
      clear hw'' nq kc kn
      go_wp2
      go_roundg (n - (i + 1))
      case measure => omega
      case rel => exact ⟨i + 1, by omega, rfl, by go_num, bl_via HJ.out hq⟩
    · have i1 : ¬ (i : Int) < (n : Int) := by omega
      obtain rfl : i = n := by omega
      go_wp2
      go_ret
      exact ⟨rfl, bl_via HB.out HJ.out⟩

/-- A state's six parts. -/
def IsSt (u : Value) : Prop := ∃ (W2 H2 : Int) (a2 c2 m2 s2 : Option Addr) (zl2 ca2 cn2 cc2 mn2 mc2 sl2 sc2 : Nat), u = .agg #[.int .i64 W2, .int .i64 H2, .slice a2 zl2 ca2, .slice c2 cn2 cc2, .slice m2 mn2 mc2, .slice s2 sl2 sc2]
theorem viewNo_all (W H : Int) (a c m s : Option Addr) (zl ca cn cc mn mc sl sc : Nat) (OK : World → Value → Prop) (w : World)
    (hO : Hid (∀ (V V' : World) (u : Value), OK V u → Below V.heap.size V V' → OK V' u)) (hU : Hid (∀ (V : World) (u : Value), OK V u → IsSt u))
    (C7 : Hid (∀ V : World, Below w.heap.size w V → Calls Tryz.prog 9 #[.agg #[.int .i64 W, .int .i64 H, .slice a zl ca, .slice c cn cc, .slice m mn mc, .slice s sl sc]] V fun e w' => ∃ u, e = .returned u ∧ OK w' u ∧ Below V.heap.size V w'))
    (C16 : Hid (∀ (V : World) (u : Value), Below w.heap.size w V → OK V u → Calls Tryz.prog 21 #[u] V fun e w' => e = .returned (.tuple #[.slice none 0 0, .int .i64 10]) ∧ Below V.heap.size V w'))
    (C17 : Hid (∀ (V : World) (u : Value), Below w.heap.size w V → OK V u → Calls Tryz.prog 22 #[u] V fun e w' => e = .returned (.tuple #[.int .i64 0, .int .i64 0, .int .i64 10]) ∧ Below V.heap.size V w'))
    (C8 : Hid (∀ V : World, Below w.heap.size w V → Calls Tryz.prog 12 #[.agg #[.int .i64 W, .int .i64 H, .slice a zl ca, .slice c cn cc, .slice m mn mc, .slice s sl sc]] V fun e w' => e = .returned (.bool false) ∧ Below V.heap.size V w')) :
    Calls Tryz.prog 5 #[.agg #[.int .i64 W, .int .i64 H, .slice a zl ca, .slice c cn cc, .slice m mn mc, .slice s sl sc]] w fun e w' => e = .returned (.bool true) ∧ Below w.heap.size w w' := by
  refine viewTells_no W H a c m s zl ca cn cc mn mc sl sc OK w C7 C16 C17 (fun V u hV ho => ?_) C8
  obtain ⟨W2, H2, a2, c2, m2, s2, zl2, ca2, cn2, cc2, mn2, mc2, sl2, sc2, rfl⟩ := hU.out V u ho
  exact picture_no W2 H2 10 a2 c2 m2 s2 zl2 ca2 cn2 cc2 mn2 mc2 sl2 sc2 _ V (by decide) (fun V' hV' => C16.out V' _ (bl_via hV hV') (hO.out V V' _ ho hV'))
theorem viewOk_all (W H : Int) (a c m s : Option Addr) (zl ca cn cc mn mc sl sc : Nat) (OK : World → Value → Prop) (th : Int) (n : Nat) (l : List ((Int × Int × Int) × (Int × Int × Int) × Bool)) (hn : n = l.length) (h0 : 0 < n) (hn3 : n ≤ 300)
    (hb : ∀ i, i < l.length → (-1000000 ≤ sx l i ∧ sx l i ≤ 1000000) ∧ (-1000000 ≤ sy l i ∧ sy l i ≤ 1000000) ∧ 0 ≤ (sn l i).1.2.2 ∧ (sn l i).1.2.2 ≤ 3) (hd : SnAp l) (hu : SnUp l) (w : World)
    (hO : Hid (∀ (V V' : World) (u : Value), OK V u → Below V.heap.size V V' → OK V' u)) (hU : Hid (∀ (V : World) (u : Value), OK V u → IsSt u))
    (C7 : Hid (∀ V : World, Below w.heap.size w V → Calls Tryz.prog 9 #[.agg #[.int .i64 W, .int .i64 H, .slice a zl ca, .slice c cn cc, .slice m mn mc, .slice s sl sc]] V fun e w' => ∃ u, e = .returned u ∧ OK w' u ∧ Below V.heap.size V w'))
    (C16 : Hid (∀ (V : World) (u : Value), Below w.heap.size w V → OK V u → Calls Tryz.prog 21 #[u] V fun e w' => ∃ (b : Option Addr) (bc : Nat), e = .returned (.tuple #[.slice b n bc, .int .i64 0]) ∧ SnQ w' b l ∧ Below V.heap.size V w'))
    (C17 : Hid (∀ (V : World) (u : Value), Below w.heap.size w V → OK V u → Calls Tryz.prog 22 #[u] V fun e w' => e = .returned (.tuple #[.int .i64 th, .int .i64 (sl : Int), .int .i64 0]) ∧ Below V.heap.size V w'))
    (C8 : Hid (∀ V : World, Below w.heap.size w V → Calls Tryz.prog 12 #[.agg #[.int .i64 W, .int .i64 H, .slice a zl ca, .slice c cn cc, .slice m mn mc, .slice s sl sc]] V fun e w' => e = .returned (.bool true) ∧ Below V.heap.size V w'))
    (C19 : Hid (∀ V : World, Below w.heap.size w V → Calls Tryz.prog 24 #[.agg #[.int .i64 W, .int .i64 H, .slice a zl ca, .slice c cn cc, .slice m mn mc, .slice s sl sc]] V fun e w' => ∃ (b : Option Addr) (bc : Nat), e = .returned (.slice b n bc) ∧ SnQ w' b l ∧ Below V.heap.size V w'))
    (C20 : Hid (∀ V : World, Below w.heap.size w V → Calls Tryz.prog 25 #[.agg #[.int .i64 W, .int .i64 H, .slice a zl ca, .slice c cn cc, .slice m mn mc, .slice s sl sc]] V fun e w' => e = .returned (.int .i64 th) ∧ Below V.heap.size V w'))
    (C77 : Hid (∀ (b : Option Addr) (bc : Nat) (V : World), Below w.heap.size w V → SnQ V b l → Calls Tryz.prog 152 #[.slice b n bc] V fun e w' => ∃ r, e = .returned (.map (some r)) ∧ (∀ (wx : World) (x y : Int), Below w'.heap.size w' wx → (Instr.lookup 230 (.map (some r)) (.agg #[.int .i64 x, .int .i64 y]) false).run Tryz.prog wx = .ok (.agg #[.int .i64 (cvF l x y l.length), .int .i64 (bkF l x y l.length)]) wx) ∧ Below V.heap.size V w'))
    (C78 : Hid (∀ (b : Option Addr) (bc : Nat) (V : World), Below w.heap.size w V → SnQ V b l → Calls Tryz.prog 153 #[.slice b n bc] V fun e w' => e = .returned (.tuple #[.int .i64 (mnF (sx l) l.length), .int .i64 (mxF (sx l) l.length)]) ∧ Below V.heap.size V w'))
    (C79 : Hid (∀ (cv bk : Int) (V : World), Below w.heap.size w V → 0 ≤ cv → cv ≤ 15 → 0 ≤ bk → bk ≤ 15 → (cv = 0 → bk = 0) → Calls Tryz.prog 154 #[.agg #[.int .i64 cv, .int .i64 bk]] V fun e w' => e = .returned (.string (clS cv bk)) ∧ Below V.heap.size V w')) :
    Calls Tryz.prog 5 #[.agg #[.int .i64 W, .int .i64 H, .slice a zl ca, .slice c cn cc, .slice m mn mc, .slice s sl sc]] w fun e w' => e = .returned (.bool true) ∧ Below w.heap.size w w' := by
  refine viewTells_ok W H a c m s zl ca cn cc mn mc sl sc OK th (pic l) n l hn hn3 w C7 C16 C17 (fun V u hV ho => ?_) C8 C19 C20 (fun V hV => ?_)
  · obtain ⟨W2, H2, a2, c2, m2, s2, zl2, ca2, cn2, cc2, mn2, mc2, sl2, sc2, rfl⟩ := hU.out V u ho
    exact picture_ok W2 H2 a2 c2 m2 s2 zl2 ca2 cn2 cc2 mn2 mc2 sl2 sc2 n (pic l) (fun V' b => SnQ V' b l) V (fun V' hV' => C16.out V' _ (bl_via hV hV') (hO.out V V' _ ho hV'))
      (fun b bc V' hV' hq => drawn_pic b bc n l V' hq.snp hn h0 hn3 hb hd hu
        (fun U hU' => C77.out b bc U (bl_via (bl_via hV hV') hU') (hq.kept hU'))
        (fun U hU' => C78.out b bc U (bl_via (bl_via hV hV') hU') (hq.kept hU'))
        (fun cv bk U hU' => C79.out cv bk U (bl_via (bl_via hV hV') hU')))
  · exact pictureOf_any W H a c m s zl ca cn cc mn mc sl sc n l V hn h0 hn3 (snOk_of hb hd) (fun V' hV' => (C19.out V' (bl_via hV hV')).mono (by
      rintro e w' ⟨b, bc, rfl, hq, hbb⟩
      exact ⟨b, bc, rfl, hq.snp, hbb⟩))
end Go.Proofs.YtnpboeodhpenmaaGreatDoor
