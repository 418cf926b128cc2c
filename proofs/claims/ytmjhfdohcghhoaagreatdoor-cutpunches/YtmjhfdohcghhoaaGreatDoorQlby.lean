/- A part of the proof of cutPunches_holds. -/
import Derived.Test.YtmjhfdohcghhoaaGreatDoorQlbv
import Derived.Test.YtmjhfdohcghhoaaGreatDoorQlbs
import Derived.Test.YtmjhfdohcghhoaaGreatDoorQlai
import Derived.Test.YtmjhfdohcghhoaaGreatDoorQlbl
import Derived.Test.YtmjhfdohcghhoaaGreatDoorQlad
import Derived.Test.YtmjhfdohcghhoaaGreatDoorQlaq
import Derived.Test.YtmjhfdohcghhoaaGreatDoorQlbx
import Derived.Test.YtmjhfdohcghhoaaGreatDoorQlbu
import Derived.Test.YtmjhfdohcghhoaaGreatDoorQlbg
namespace Go.Proofs.YtmjhfdohcghhoaaGreatDoor
open Go.RowKit

theorem step_callTo {P : Program} {ops : Array Oper} {o : Oper} {a : Act} {w : World} {K : Act → World → Prop} {Q : Exit → Act → World → Prop} {E : Prop} {R : Ending → World → Prop} (hgd : o.guard = none)
    (f : FuncId) (args : Array Value) (hrun : (execOp a.eval o).run P w = .ok (.enter f args) w) (hc : Calls P f args w R) (h : ∀ e w', R e w' → ∃ v, e = .returned v ∧ K (a.put o.dst v) w') :
    if Region.wanted o (yielded ops a.tmps) = true then Oper.wp P o a w K Q else E := by
  have hw : Region.wanted o (yielded ops a.tmps) = true := by simp [Region.wanted, hgd]
  rw [if_pos hw]
  unfold Oper.wp
  rw [hrun, Oper.upon_enter]
  refine hc.mono fun e w'' hh => ?_
  obtain ⟨v, rfl, hk⟩ := h e w'' hh
  exact hk
theorem ints_made {w : World} {base n g : Nat} (h : w.ownsRow base 3 1 (.slice (some ⟨g, 0, none⟩) n n) n (madeCells #[.int .i64 0] n).toList) : ZRow w g n (fun _ => 0) := fun i hi => by
  have h0 : (madeCells #[Value.int .i64 0] n).toList[i]? = some (.int .i64 0) := by
    rw [Array.getElem?_toList]
    unfold madeCells
    have : i % 1 = 0 := by omega
    simp [hi, this]
  refine ⟨by simpa using (h.cellAt i (by omega)).trans h0, ?_⟩
  rcases h.2 with ⟨e1, _⟩ | ⟨b, cap, cur, e1, _, hb, _⟩
  · simp at e1
  · simp only [Value.slice.injEq, Option.some.injEq, Addr.mk.injEq] at e1
    obtain ⟨⟨rfl, _⟩, _⟩ := e1
    simp [World.frozen?, hb]
theorem crS_same {L : List (Int × Int × Int)} {s t : Nat → Int} (h : ∀ i j, i < L.length → j < L.length → (s i = s j ↔ t i = t j)) : crS L s = crS L t := by
  funext e
  rw [Bool.eq_iff_iff]
  unfold crS
  simp only [List.all_eq_true, List.mem_range, Bool.or_eq_true, decide_eq_true_eq]
  constructor
  · intro hh x hx y hy
    exact (hh x hx y hy).imp id (h x y hx hy).1
  · intro hh x hx y hy
    exact (hh x hx y hy).imp id (h x y hx hy).2

theorem step_make_full {P : Program} {ops : Array Oper} {o : Oper} {a : Act} {w : World} {K : Act → World → Prop} {Q : Exit → Act → World → Prop} {E : Prop} (hgd : o.guard = none)
    (l c : Operand) (t : TypeId) (hop : o.op = Op.makeSlice t l c) (base : Nat) (e : TypeId) (i : TypeInfo) (z : Value) (size : Nat) (h1 : P.underlying t = some (.slice e)) (h2 : P.info? e = some i) (h3 : i.zero = some z) (h4 : i.size = size)
    (kl kc : IntKind) (n : Nat) (hl : a.eval l = .int kl (n : Int)) (hc : a.eval c = .int kc (n : Int)) (b2 : i.bytes * n ≤ 281474976710656) (b3 : n ≤ maxLen) (b4 : base ≤ w.heap.size)
    (h : ∀ w', w'.ownsRow base e size (.slice (some ⟨w.heap.size, 0, none⟩) n n) n (madeCells z.cells (n * size)).toList → w.grownBy w' none → K (a.put o.dst (.slice (some ⟨w.heap.size, 0, none⟩) n n)) w') :
    if Region.wanted o (yielded ops a.tmps) = true then Oper.wp P o a w K Q else E := by
  have hw : Region.wanted o (yielded ops a.tmps) = true := by simp [Region.wanted, hgd]
  rw [if_pos hw]
  obtain ⟨w', hrun, r1, r2⟩ := run_make_full (P := P) w base t e i z size h1 h2 h3 h4 kl kc n b2 b3 b4
  unfold Oper.wp
  simp [execOp, hop, hl, hc, hrun, Result.andThen]
  exact h w' r1 r2
/-- Is a triangle left that lies not at a place? -/
def thP (pl : List (Int × Int × Int)) (p : Int × Int × Int) (j : Nat) : Bool := !(decide (pl.getD j (0, 0, 0) = p))
/-- Booleans in a row. -/
def BRf (w : World) (g n : Nat) (f : Nat → Bool) : Prop := ∀ i, i < n → w.cell? ⟨g, i, none⟩ = some (.bool (f i)) ∧ w.frozen? ⟨g, i, none⟩ = false
theorem BRf.grown {w w' : World} {g n : Nat} {f : Nat → Bool} {row : Option Nat} (h : BRf w g n f) (hg : w.grownBy w' row) (hne : some g ≠ row) : BRf w' g n f := fun i hi =>
  ⟨hg.cell (h i hi).1 hne, (World.frozen?_of_block (a := ⟨g, i, none⟩) (hg.block g (World.block_lt_of_cell? _ _ (h i hi).1) hne)).trans (h i hi).2⟩
theorem BRf.kept {w w' : World} {g n : Nat} {f : Nat → Bool} (h : BRf w g n f) (hb : Below w.heap.size w w') : BRf w' g n f := h.grown (bl_grown hb) (by simp)
theorem BRf.put {w : World} {g n j : Nat} {f f' : Nat → Bool} {b : Bool} (h : BRf w g n f) (hj : j < n) (hf : ∀ i, i ≠ j → f i = f' i) (hb : b = f' j) : BRf (w.setCell ⟨g, j, none⟩ (.bool b)) g n f' := fun i hi => by
  refine ⟨?_, by rw [World.frozen?_setCell]; exact (h i hi).2⟩
  by_cases e : i = j
  · subst e
    rw [World.cell?_setCell_same _ _ _ (h i hi).1, hb]
  · rw [World.cell?_setCell_other _ _ _ _ (fun q => e (by cases q; rfl)), (h i hi).1, hf i e]
theorem own_not {w : World} {base e s n g : Nat} {v : Value} {xs : List Value} (h : w.ownsRow base e s v n xs) (hg : g < base ∧ True) : v.ownBlock = none ∨ v.ownBlock ≠ some g := by
  cases hu : v.ownBlock with
  | none => exact Or.inl rfl
  | some b =>
    refine Or.inr (fun e1 => ?_)
    have := (h.lt b hu).1
    have := hg.1
    simp at e1
    omega
theorem neqT_any (a b c p q r : Int) (w : World) : (binOp .neq 43 (.agg #[.int .i64 a, .int .i64 b, .int .i64 c]) (.agg #[.int .i64 p, .int .i64 q, .int .i64 r])).run Tryz.prog w = .ok (.bool (!(decide ((a, b, c) = (p, q, r))))) w := by
  have := Tequal27 (a, b, c) (p, q, r) w
  simp only [Tek] at this
  simp only [binOp]
  simp [this]
/-- What falls out, and the pieces that are left: the reference's. -/
def PoTo (L : List (Int × Int × Int)) (M : Nat → M6) (px py pk : Int) (w w' : World) (e : Ending) : Prop := ∃ a1 c1 a2 c2 who, e = .returned (.tuple #[.slice a1 (lyL L (pls L M L.length) (px, py, pk) L.length).length c1, .slice a2 (rfsT L (thP (pls L M L.length) (px, py, pk)) who L.length).length c2]) ∧ TRow w' a1 (lyL L (pls L M L.length) (px, py, pk) L.length) ∧ (InvC (crS L (sdT (thP (pls L M L.length) (px, py, pk)) (fun _ => 0))) L who ∧ ∀ i e, i < L.length → e < 3 → OkC (crS L (sdT (thP (pls L M L.length) (px, py, pk)) (fun _ => 0))) L who i e) ∧ NRe w' a2 (rfsT L (thP (pls L M L.length) (px, py, pk)) who L.length) ∧ Below w.heap.size w w'
set_option maxRecDepth 100000 in
set_option maxHeartbeats 12800000 in
theorem punchOf_any (W H px py pk : Int) (a c mp sp : Option Addr) (zl ca n cc mc sn sc nn : Nat) (w : World) (L : List (Int × Int × Int)) (M : Nat → M6)
    (CT : Hid (∀ V : World, Below w.heap.size w V → Calls Tryz.prog 30 #[.agg #[.int .i64 W, .int .i64 H, .slice a zl ca, .slice c n cc]] V fun e w' => ∃ a9 c9, e = .returned (.slice a9 nn c9) ∧ TRow w' a9 L ∧ Below V.heap.size V w'))
    (CP : Hid (∀ (V : World) (gt gd : Nat) (th : Nat → Bool) (sd : Nat → Int), Below w.heap.size w V → (∀ i, i < nn → V.cell? ⟨gt, i, none⟩ = some (.bool (th i))) → (∀ i, i < nn → V.cell? ⟨gd, i, none⟩ = some (.int .i64 (sd i))) → Calls Tryz.prog 36 #[.agg #[.int .i64 W, .int .i64 H, .slice a zl ca, .slice c n cc], .slice (some ⟨gt, 0, none⟩) nn nn, .slice (some ⟨gd, 0, none⟩) nn nn] V fun e w' => ∃ v who, e = .returned v ∧ (InvC (crS L (sdT th sd)) L who ∧ ∀ i e, i < L.length → e < 3 → OkC (crS L (sdT th sd)) L who i e) ∧ Nest w' V.heap.size v (rfsT L th who L.length) ∧ Below V.heap.size V w'))
    (hM : MRowG w mp nn M) (hMO : ∀ i, i < L.length → MOk1 L M i) (hnn : nn = L.length) (h0 : 0 < nn) (hL : nn ≤ 256) (hbd : ∀ t ∈ L, (0 ≤ t.1 ∧ t.1 ≤ 8) ∧ (0 ≤ t.2.1 ∧ t.2.1 ≤ 8) ∧ (0 ≤ t.2.2 ∧ t.2.2 ≤ 3)) :
    Calls Tryz.prog 14 #[.agg #[.int .i64 W, .int .i64 H, .slice a zl ca, .slice c n cc, .slice mp nn mc, .slice sp sn sc], .agg #[.int .i64 px, .int .i64 py, .int .i64 pk]] w fun e w' => PoTo L M px py pk w w' e := by
  have HR : Hid (MRowG w mp nn M ∧ (∀ i, i < L.length → MOk1 L M i) ∧ nn = L.length ∧ ∀ t ∈ L, (0 ≤ t.1 ∧ t.1 ≤ 8) ∧ (0 ≤ t.2.1 ∧ t.2.1 ≤ 8) ∧ (0 ≤ t.2.2 ∧ t.2.2 ≤ 3)) := ⟨hM, hMO, hnn, hbd⟩
  obtain ⟨i3, hi3, hz30, hz31, hz32⟩ := info_parts inf3
  have HI3 : Hid (Tryz.prog.info? 3 = some i3 ∧ i3.zero = some (.int .i64 0) ∧ i3.size = 1 ∧ i3.bytes = 8) := ⟨hi3, hz30, hz31, hz32⟩
  obtain ⟨i4, hi4, hz40, hz41, hz42⟩ := info_parts inf4
  have HI4 : Hid (Tryz.prog.info? 4 = some i4 ∧ i4.zero = some (.bool false) ∧ i4.size = 1 ∧ i4.bytes = 1) := ⟨hi4, hz40, hz41, hz42⟩
  obtain ⟨i0, hi, hz0, hz1, hz2⟩ := info_parts inf23
  have HI : Hid (Tryz.prog.info? 43 = some i0 ∧ i0.zero = some (.agg #[.int .i64 0, .int .i64 0, .int .i64 0]) ∧ i0.size = 3 ∧ i0.bytes = 24) := ⟨hi, hz0, hz1, hz2⟩
  clear hM hMO hnn hbd hi3 hz30 hz31 hz32 hi4 hz40 hz41 hz42 hi hz0 hz1 hz2
  go_enter Tryz.func14, Tryz.ntmps14
  go_upto_region 2 with (go_at_call 30; refine (CT.out _ (by with_reducible exact bl_alloc (bl_alloc (bl_refl _)))).mono ?_; rintro e w1 ⟨a9, ca9, rfl, hT9, hb⟩; have HW1 : Hid (TRow w1 a9 L ∧ Below w.heap.size w w1 ∧ ((w1.cell? ⟨w.heap.size, 0, none⟩ = some (.int .i64 W) ∧ w1.cell? ⟨w.heap.size, 1, none⟩ = some (.int .i64 H) ∧ w1.cell? ⟨w.heap.size, 2, none⟩ = some (.slice a zl ca) ∧ w1.cell? ⟨w.heap.size, 3, none⟩ = some (.slice c n cc)) ∧ w1.cell? ⟨w.heap.size, 4, none⟩ = some (.slice mp nn mc)) ∧ w1.cell? ⟨w.heap.size + 1, 0, none⟩ = some (.int .i64 px) ∧ w1.cell? ⟨w.heap.size + 1, 1, none⟩ = some (.int .i64 py) ∧ w1.cell? ⟨w.heap.size + 1, 2, none⟩ = some (.int .i64 pk)) := ⟨hT9, bl_via (bl_alloc (bl_alloc (bl_refl _))) hb, ⟨⟨cl_kept hb (by simp [go_sem]), cl_kept hb (by simp [go_sem]), cl_kept hb (by simp [go_sem]), cl_kept hb (by simp [go_sem])⟩, cl_kept hb (by simp [go_sem])⟩, cl_kept hb (by simp [go_sem]), cl_kept hb (by simp [go_sem]), cl_kept hb (by simp [go_sem])⟩; clear hT9 hb)
  go_wp2_with (at_make; refine wpList_make_full _ rfl (.tmp 14) (.tmp 14) 97 rfl w1.heap.size 4 i4 (.bool false) 1 Tryz.underlying97 HI4.out.1 HI4.out.2.1 HI4.out.2.2.1 .i64 .i64 _ _ nn rfl rfl rfl rfl ?b2 ?b3 ?b4 ?mk)
  case b2 =>
    rw [HI4.out.2.2.2]
    omega
  case b3 =>
    unfold maxLen
    omega
  case b4 => exact Nat.le_refl _
  case mk =>
    intro w2 ho hg
    have hrow := bools_made (by simpa using ho)
    have hlt2 : w1.heap.size < w2.heap.size := World.block_lt_of_cell? _ _ (hrow 0 h0).1
    have hbl2 : Below w1.heap.size w1 w2 := (Below.refl _ _).grown hg (Nat.le_refl _) (fun k h => by cases h)
    have HW2 : Hid (BRf w2 w1.heap.size nn (fun j => decide (j < 0) && (thP (pls L M L.length) (px, py, pk)) j) ∧ Below w1.heap.size w1 w2) := ⟨fun i hi => ⟨by rw [(hrow i hi).1]; simp, (hrow i hi).2⟩, hbl2⟩
    obtain ⟨g6, hg6⟩ : ∃ g, g = w1.heap.size := ⟨_, rfl⟩
    have HGG : Hid (w1.heap.size ≤ g6 ∧ (g6 < w2.heap.size ∧ True)) := ⟨by omega, by omega, trivial⟩
    have HGL : Hid (w1.heap.size ≤ w2.heap.size) := by exact Nat.le_of_lt hlt2
    have HBL2 : Hid (Below w1.heap.size w1 w2) := hbl2
    rw [← hg6] at HW2 ⊢
    clear ho hg hrow hbl2 hlt2 hg6
    go_wp2
    go_loopg [8, 9] nn (fun gk s8 s9 wx => ∃ (i : Nat) (u : Value), i ≤ nn ∧ gk = nn - i ∧ u = s8 ∧ s9 = .int .i64 (i : Int) ∧ BRf wx g6 nn (fun j => decide (j < i) && (thP (pls L M L.length) (px, py, pk)) j) ∧ wx.ownsRow w2.heap.size 43 3 u (lyL L (pls L M L.length) (px, py, pk) i).length (flatV (lyL L (pls L M L.length) (px, py, pk) i)) ∧ Below w1.heap.size w1 wx ∧ w2.heap.size ≤ wx.heap.size)
    case atStart => exact ⟨0, _, by omega, rfl, rfl, rfl, HW2.out.1, by simpa [lyL, flatV] using World.ownsRow_nil _ _ _ _, HBL2.out, Nat.le_refl _⟩
    case round =>
      clear HW2
      obtain ⟨i, u, hi, rfl, rfl, rfl, hBR, hO, hB, hZ⟩ := hrel
      have HJ : Hid (BRf wr g6 nn (fun j => decide (j < i) && (thP (pls L M L.length) (px, py, pk)) j) ∧ wr.ownsRow w2.heap.size 43 3 u (lyL L (pls L M L.length) (px, py, pk) i).length (flatV (lyL L (pls L M L.length) (px, py, pk) i)) ∧ Below w1.heap.size w1 wr ∧ w2.heap.size ≤ wr.heap.size) := ⟨hBR, hO, hB, hZ⟩
      clear hBR hO hB hZ
      by_cases h1 : i < nn
      · have i1 : (i : Int) < (nn : Int) := by omega
        have i0' : (0 : Int) ≤ (i : Int) := by omega
        have hiL : i < L.length := by rw [← HR.out.2.2.1]; exact h1
        obtain ⟨ga, rfl, t0, t1, t2⟩ := HW1.out.1 i hiL
        obtain ⟨gm, o, rfl, y0, y1, y2, y3, y4, y5⟩ := (HR.out.1.kept HW1.out.2.1) i h1
        obtain ⟨x, y, k, ht⟩ : ∃ x y kk, L[i] = (x, y, kk) := ⟨_, _, _, rfl⟩
        obtain ⟨A, B, C, D, E, F, hmi⟩ : ∃ A B C D E F, M i = (A, B, C, D, E, F) := ⟨_, _, _, _, _, _, rfl⟩
        have hok := HR.out.2.1 i hiL
        have hbd := HR.out.2.2.2 _ (List.getElem_mem hiL)
        have HT : Hid (L.getD i (0, 0, 0) = (x, y, k)) := by
          show L.getD i (0, 0, 0) = (x, y, k)
          rw [getD_at L i hiL, ht]
        unfold MOk1 at hok
        rw [getD_at L i hiL, ht, hmi] at hok
        rw [ht] at t0 t1 t2 hbd
        rw [hmi] at y0 y1 y2 y3 y4 y5
        dsimp only at t0 t1 t2 y0 y1 y2 y3 y4 y5
        obtain ⟨X, Y, K9, hmv⟩ : ∃ X Y K, mvt (A, B, C, D, E, F) (x, y, k) = (X, Y, K) := ⟨_, _, _, rfl⟩
        have C33 : Hid (∀ W' : World, Calls Tryz.prog 33 #[.agg #[.int .i64 A, .int .i64 B, .int .i64 C, .int .i64 D, .int .i64 E, .int .i64 F], .agg #[.int .i64 x, .int .i64 y, .int .i64 k]] W' fun e w' => e = .returned (.agg #[.int .i64 X, .int .i64 Y, .int .i64 K9]) ∧ Below W'.heap.size W' w') := fun W' => by
          have := MoveOf_gen (A, B, C, D, E, F) (x, y, k) W' hok.1 hbd
          rw [hmv] at this
          exact this
        obtain ⟨nb, hnb⟩ : ∃ nb : Bool, nb = !(decide ((X, Y, K9) = (px, py, pk))) := ⟨_, rfl⟩
        have hnq : ∀ wq : World, (binOp .neq 43 (.agg #[.int .i64 X, .int .i64 Y, .int .i64 K9]) (.agg #[.int .i64 px, .int .i64 py, .int .i64 pk])).run Tryz.prog wq = .ok (.bool nb) wq := fun wq => by rw [hnb]; exact neqT_any X Y K9 px py pk wq
        have HNB : Hid (nb = (thP (pls L M L.length) (px, py, pk)) i) := by
          show nb = (thP (pls L M L.length) (px, py, pk)) i
          have h9 := plF_pls (M := M) hiL
          unfold plF at h9
          unfold thP
          rw [h9, hmi, ht, hmv, hnb]
        have HSX : Hid (∀ wx : World, Below w1.heap.size w1 wx → wx.cell? ⟨w.heap.size + 1, 0, none⟩ = some (.int .i64 px) ∧ wx.cell? ⟨w.heap.size + 1, 1, none⟩ = some (.int .i64 py) ∧ wx.cell? ⟨w.heap.size + 1, 2, none⟩ = some (.int .i64 pk) ∧ wx.cell? ⟨w.heap.size, 4, none⟩ = some (.slice (some ⟨gm, o, none⟩) nn mc) ∧ wx.cell? ⟨gm, o + i * 6, none⟩ = some (.int .i64 A) ∧ wx.cell? ⟨gm, o + i * 6 + 1, none⟩ = some (.int .i64 B) ∧ wx.cell? ⟨gm, o + i * 6 + 2, none⟩ = some (.int .i64 C) ∧ wx.cell? ⟨gm, o + i * 6 + 3, none⟩ = some (.int .i64 D) ∧ wx.cell? ⟨gm, o + i * 6 + 4, none⟩ = some (.int .i64 E) ∧ wx.cell? ⟨gm, o + i * 6 + 5, none⟩ = some (.int .i64 F) ∧ wx.cell? ⟨ga, i * 3, none⟩ = some (.int .i64 x) ∧ wx.cell? ⟨ga, i * 3 + 1, none⟩ = some (.int .i64 y) ∧ wx.cell? ⟨ga, i * 3 + 2, none⟩ = some (.int .i64 k)) := fun wx hx => ⟨cl_kept hx HW1.out.2.2.2.1, cl_kept hx HW1.out.2.2.2.2.1, cl_kept hx HW1.out.2.2.2.2.2, cl_kept hx HW1.out.2.2.1.2, cl_kept hx y0, cl_kept hx y1, cl_kept hx y2, cl_kept hx y3, cl_kept hx y4, cl_kept hx y5, cl_kept hx t0, cl_kept hx t1, cl_kept hx t2⟩
        obtain ⟨k0, k1⟩ := HJ.out.1 i h1
        have zk : g6 < wr.heap.size := World.block_lt_of_cell? _ _ k0
        clear ht hmi hok hbd hmv hnb y0 y1 y2 y3 y4 y5 t0 t1 t2
        go_upto_region 7 with fail
        clear k0 k1 zk
        refine wp_region_held_drew (S := fun w' => w'.cell? ⟨w.heap.size + 1, 0, none⟩ = some (.int .i64 px) ∧ w'.cell? ⟨w.heap.size + 1, 1, none⟩ = some (.int .i64 py) ∧ w'.cell? ⟨w.heap.size + 1, 2, none⟩ = some (.int .i64 pk) ∧ w'.cell? ⟨w.heap.size, 4, none⟩ = some (.slice (some ⟨gm, o, none⟩) nn mc) ∧ w'.cell? ⟨gm, o + i * 6, none⟩ = some (.int .i64 A) ∧ w'.cell? ⟨gm, o + i * 6 + 1, none⟩ = some (.int .i64 B) ∧ w'.cell? ⟨gm, o + i * 6 + 2, none⟩ = some (.int .i64 C) ∧ w'.cell? ⟨gm, o + i * 6 + 3, none⟩ = some (.int .i64 D) ∧ w'.cell? ⟨gm, o + i * 6 + 4, none⟩ = some (.int .i64 E) ∧ w'.cell? ⟨gm, o + i * 6 + 5, none⟩ = some (.int .i64 F) ∧ w'.cell? ⟨ga, i * 3, none⟩ = some (.int .i64 x) ∧ w'.cell? ⟨ga, i * 3 + 1, none⟩ = some (.int .i64 y) ∧ w'.cell? ⟨ga, i * 3 + 2, none⟩ = some (.int .i64 k)) (by kernel_rfl) (HSX.out _ (bl_drew HJ.out.2.2.1)) (fun hHeld => ?_)
        refine wpAnyH_take (i := 0) (v := .slice (some ⟨g6, 0, none⟩) nn nn) rfl (by kernel_rfl) (by kernel_rfl) (by kernel_rfl) (fun _ _ _ h => h) (Or.inl ⟨by rfl, ?hyy⟩) (by assumption) ?_
        case hyy => (intro w' hSw; (try dsimp only at hSw); go_simp)
        try simp only [Act.put, List.getElem_toArray, List.getElem_cons_zero, List.setIfInBounds_toArray, List.set_cons_zero, List.set_cons_succ]
        refine wpAnyH_take (i := 1) (v := .int .i64 (i : Int)) rfl (by kernel_rfl) (by kernel_rfl) (by kernel_rfl) (fun _ _ _ h => h) (Or.inl ⟨by rfl, ?hyy⟩) (by assumption) ?_
        case hyy => (intro w' hSw; (try dsimp only at hSw); go_simp)
        try simp only [Act.put, List.getElem_toArray, List.getElem_cons_succ, List.getElem_cons_zero, List.setIfInBounds_toArray, List.set_cons_zero, List.set_cons_succ]
        refine wpAnyH_take (i := 2) (v := .pointer (some ⟨w.heap.size, 4, none⟩)) rfl (by kernel_rfl) (by kernel_rfl) (by kernel_rfl) (fun _ _ _ h => h) (Or.inl ⟨by rfl, ?hyy⟩) (by assumption) ?_
        case hyy => (intro w' hSw; (try dsimp only at hSw); go_simp)
        try simp only [Act.put, List.getElem_toArray, List.getElem_cons_succ, List.getElem_cons_zero, List.setIfInBounds_toArray, List.set_cons_zero, List.set_cons_succ]
        refine wpAnyH_take (i := 3) (v := .slice (some ⟨gm, o, none⟩) nn mc) rfl (by kernel_rfl) (by kernel_rfl) (by kernel_rfl) (fun _ _ _ h => h) (Or.inl ⟨by rfl, ?hyy⟩) (by assumption) ?_
        case hyy => (intro w' hSw; (try dsimp only at hSw); go_simp)
        try simp only [Act.put, List.getElem_toArray, List.getElem_cons_succ, List.getElem_cons_zero, List.setIfInBounds_toArray, List.set_cons_zero, List.set_cons_succ]
        refine wpAnyH_take (i := 4) (v := .int .i64 (i : Int)) rfl (by kernel_rfl) (by kernel_rfl) (by kernel_rfl) (fun _ _ _ h => h) (Or.inl ⟨by rfl, ?hyy⟩) (by assumption) ?_
        case hyy => (intro w' hSw; (try dsimp only at hSw); go_simp)
        try simp only [Act.put, List.getElem_toArray, List.getElem_cons_succ, List.getElem_cons_zero, List.setIfInBounds_toArray, List.set_cons_zero, List.set_cons_succ]
        refine wpAnyH_take (i := 5) (v := .pointer (some ⟨gm, o + i * 6, none⟩)) rfl (by kernel_rfl) (by kernel_rfl) (by kernel_rfl) (fun _ _ _ h => h) (Or.inl ⟨by rfl, ?hyy⟩) (by assumption) ?_
        case hyy => (intro w' hSw; (try dsimp only at hSw); go_simp)
        try simp only [Act.put, List.getElem_toArray, List.getElem_cons_succ, List.getElem_cons_zero, List.setIfInBounds_toArray, List.set_cons_zero, List.set_cons_succ]
        refine wpAnyH_take (i := 6) (v := .agg #[.int .i64 A, .int .i64 B, .int .i64 C, .int .i64 D, .int .i64 E, .int .i64 F]) rfl (by kernel_rfl) (by kernel_rfl) (by kernel_rfl) (fun _ _ _ h => h) (Or.inl ⟨by rfl, ?hyy⟩) (by assumption) ?_
        case hyy => (intro w' hSw; (try dsimp only at hSw); go_simp)
        try simp only [Act.put, List.getElem_toArray, List.getElem_cons_succ, List.getElem_cons_zero, List.setIfInBounds_toArray, List.set_cons_zero, List.set_cons_succ]
        refine wpAnyH_take (i := 7) (v := .slice (some ⟨ga, 0, none⟩) nn ca9) rfl (by kernel_rfl) (by kernel_rfl) (by kernel_rfl) (fun _ _ _ h => h) (Or.inl ⟨by rfl, ?hyy⟩) (by assumption) ?_
        case hyy => (intro w' hSw; (try dsimp only at hSw); go_simp)
        try simp only [Act.put, List.getElem_toArray, List.getElem_cons_succ, List.getElem_cons_zero, List.setIfInBounds_toArray, List.set_cons_zero, List.set_cons_succ]
        refine wpAnyH_take (i := 8) (v := .int .i64 (i : Int)) rfl (by kernel_rfl) (by kernel_rfl) (by kernel_rfl) (fun _ _ _ h => h) (Or.inl ⟨by rfl, ?hyy⟩) (by assumption) ?_
        case hyy => (intro w' hSw; (try dsimp only at hSw); go_simp)
        try simp only [Act.put, List.getElem_toArray, List.getElem_cons_succ, List.getElem_cons_zero, List.setIfInBounds_toArray, List.set_cons_zero, List.set_cons_succ]
        refine wpAnyH_take (i := 9) (v := .pointer (some ⟨ga, i * 3, none⟩)) rfl (by kernel_rfl) (by kernel_rfl) (by kernel_rfl) (fun _ _ _ h => h) (Or.inl ⟨by rfl, ?hyy⟩) (by assumption) ?_
        case hyy => (intro w' hSw; (try dsimp only at hSw); go_simp)
        try simp only [Act.put, List.getElem_toArray, List.getElem_cons_succ, List.getElem_cons_zero, List.setIfInBounds_toArray, List.set_cons_zero, List.set_cons_succ]
        refine wpAnyH_take (i := 10) (v := .agg #[.int .i64 x, .int .i64 y, .int .i64 k]) rfl (by kernel_rfl) (by kernel_rfl) (by kernel_rfl) (fun _ _ _ h => h) (Or.inl ⟨by rfl, ?hyy⟩) (by assumption) ?_
        case hyy => (intro w' hSw; (try dsimp only at hSw); go_simp)
        try simp only [Act.put, List.getElem_toArray, List.getElem_cons_succ, List.getElem_cons_zero, List.setIfInBounds_toArray, List.set_cons_zero, List.set_cons_succ]
        refine wpAnyH_take (i := 12) (v := .agg #[.int .i64 px, .int .i64 py, .int .i64 pk]) rfl (by kernel_rfl) (by kernel_rfl) (by kernel_rfl) (fun _ _ _ h => h) (Or.inl ⟨by rfl, ?hyy⟩) (by assumption) ?_
        case hyy => (intro w' hSw; (try dsimp only at hSw); go_simp)
        try simp only [Act.put, List.getElem_toArray, List.getElem_cons_succ, List.getElem_cons_zero, List.setIfInBounds_toArray, List.set_cons_zero, List.set_cons_succ]
        refine wpAnyH_ready (rs := [11]) (by kernel_rfl) (by simp) ?_
        refine AllReadyH.cons rfl (fun K hK => ?_) AllReadyH.nil
        refine step_callTo (by rfl) 33 #[.agg #[.int .i64 A, .int .i64 B, .int .i64 C, .int .i64 D, .int .i64 E, .int .i64 F], .agg #[.int .i64 x, .int .i64 y, .int .i64 k]] (by kernel_rfl) (C33.out _) ?_
        rintro e w5 ⟨rfl, hb5⟩
        refine ⟨_, rfl, ?_⟩
        have HB5 : Hid (Below w1.heap.size w1 w5 ∧ Below wr.heap.size wr w5) := ⟨bl_via HJ.out.2.2.1 (bl_via (bl_drew (bl_refl _)) hb5), bl_via (bl_drew (bl_refl _)) hb5⟩
        clear hb5
        refine hK.out _ _ (HSX.out _ HB5.out.1) (fun hHd => ?_)
        clear hK K
        try simp only [Act.put, List.getElem_toArray, List.getElem_cons_succ, List.getElem_cons_zero, List.setIfInBounds_toArray, List.set_cons_zero, List.set_cons_succ]
        refine wpAnyH_take (i := 13) (v := .bool nb) rfl (by kernel_rfl) (by kernel_rfl) (by kernel_rfl) (fun _ _ _ h => h) (Or.inl ⟨by rfl, ?hyy⟩) (by assumption) ?_
        case hyy => (intro w' hSw; (try dsimp only at hSw); go_simp)
        try simp only [Act.put, List.getElem_toArray, List.getElem_cons_succ, List.getElem_cons_zero, List.setIfInBounds_toArray, List.set_cons_zero, List.set_cons_succ]
        obtain ⟨z0, zf⟩ := (HJ.out.1.kept HB5.out.2) i h1
        have zg : g6 < w5.heap.size := World.block_lt_of_cell? _ _ z0
        refine wpAnyH_take (i := 14) (v := .pointer (some ⟨g6, i, none⟩)) rfl (by kernel_rfl) (by kernel_rfl) (by kernel_rfl) (fun _ _ _ h => h) (Or.inl ⟨by rfl, ?hyy⟩) (by assumption) ?_
        case hyy => (intro w' hSw; (try dsimp only at hSw); go_simp)
        try simp only [Act.put, List.getElem_toArray, List.getElem_cons_succ, List.getElem_cons_zero, List.setIfInBounds_toArray, List.set_cons_zero, List.set_cons_succ]
        refine wpAnyH_ready (rs := [15]) (by kernel_rfl) (by simp) ?_
        refine AllReadyH.cons rfl (fun K hK => ?_) AllReadyH.nil
        go_simp
        refine hK.out _ _ (HSX.out _ (bl_set HB5.out.1 HGG.out.1)) (fun hHd => ?_)
        clear hK K
        try simp only [Act.put, List.getElem_toArray, List.getElem_cons_succ, List.getElem_cons_zero, List.setIfInBounds_toArray, List.set_cons_zero, List.set_cons_succ]
        refine wpAnyH_done (by kernel_rfl) ?_ _
        go_upto_region 8 with fail
        refine wp_named (fun W7 hW7 => ?_)
        have HB7 : Hid (Below w1.heap.size w1 W7 ∧ BRf W7 g6 nn (fun j => decide (j < i + 1) && (thP (pls L M L.length) (px, py, pk)) j) ∧ W7.ownsRow w2.heap.size 43 3 u (lyL L (pls L M L.length) (px, py, pk) i).length (flatV (lyL L (pls L M L.length) (px, py, pk) i)) ∧ w2.heap.size ≤ W7.heap.size) := by
          rw [hW7]
          refine ⟨bl_set HB5.out.1 HGG.out.1, (HJ.out.1.kept HB5.out.2).put h1 (fun j hj => ?_) ?_, ?_, by have h1 := HJ.out.2.2.2; have h2 := HB5.out.2.size; simp; omega⟩
          · by_cases e1 : j < i
            · simp [e1, Nat.lt_succ_of_lt e1]
            · have e2 : ¬ j < i + 1 := by omega
              simp [e1, e2]
          · rw [HNB.out]
            simp
          · exact (own_below HJ.out.2.1 HB5.out.2).kept (grown_cell _ g6 i _) (own_not HJ.out.2.1 HGG.out.2)
        have k7 : W7.cell? ⟨g6, i, none⟩ = some (.bool nb) := by
          rw [hW7]
          exact World.cell?_setCell_same _ _ _ z0
        have zg7 : g6 < W7.heap.size := World.block_lt_of_cell? _ _ k7
        obtain ⟨_, _, _, _, _, _, _, _, _, _, d0, d1, d2⟩ := HSX.out _ HB7.out.1
        have zga : ga < W7.heap.size := World.block_lt_of_cell? _ _ d0
        clear hW7 z0 zf zg
        cases nb
        · have HE : Hid (lyL L (pls L M L.length) (px, py, pk) (i + 1) = lyL L (pls L M L.length) (px, py, pk) i ++ [(x, y, k)]) := by
            have e1 : (pls L M L.length).getD i (0, 0, 0) = (px, py, pk) := by
              have := HNB.out
              unfold thP at this
              simpa using this
            show lyL L (pls L M L.length) (px, py, pk) (i + 1) = lyL L (pls L M L.length) (px, py, pk) i ++ [(x, y, k)]
            rw [lyL_succ, e1, if_pos rfl, HT.out]
          have hll : (lyL L (pls L M L.length) (px, py, pk) i).length + 1 ≤ 1000 := by
            have := lyL_len L (pls L M L.length) (px, py, pk) i
            omega
          go_wp2_with (at_builtin; refine wpList_append_own _ rfl (.tmp 42) (.tmp 47) 44 rfl w2.heap.size 43 i0 (.agg #[.int .i64 0, .int .i64 0, .int .i64 0]) 3 24 Tryz.underlying44 HI.out.1 HI.out.2.1 HI.out.2.2.1 HI.out.2.2.2 rfl (by decide) u (lyL L (pls L M L.length) (px, py, pk) i).length (flatV (lyL L (pls L M L.length) (px, py, pk) i)) rfl ?own ⟨W7.heap.size, 0, none⟩ 1 1 [.int .i64 x, .int .i64 y, .int .i64 k] (by simp [go_sem]) rfl ?c1 ?c2 ?b1 ?b2 ?b3 ?grow)
          case own => exact own_below HB7.out.2.2.1 (bl_alloc (bl_refl _))
          case c1 => exact cell_three_new _ _ _ _
          case c2 =>
            intro z hz
            simp at hz
            rcases hz with rfl | rfl | rfl <;> rfl
          case b1 =>
            unfold maxLen
            omega
          case b2 => omega
          case b3 =>
            have h9 := HB7.out.2.2.2
            simp
            omega
          case grow =>
            intro v' w8 hown hgrow _
            have hal := bl_alloc (o := .cells #[.int .i64 x, .int .i64 y, .int .i64 k] 43) (bl_refl W7)
            have HO8 : Hid (w8.ownsRow w2.heap.size 43 3 v' (lyL L (pls L M L.length) (px, py, pk) (i + 1)).length (flatV (lyL L (pls L M L.length) (px, py, pk) (i + 1))) ∧ BRf w8 g6 nn (fun j => decide (j < i + 1) && (thP (pls L M L.length) (px, py, pk)) j) ∧ Below w1.heap.size w1 w8 ∧ w2.heap.size ≤ w8.heap.size) := by
              refine ⟨?_, ?_, ?_, by have h1 := HB7.out.2.2.2; have h2 := hal.size; have h3 := hgrow.size; omega⟩
              · rw [HE.out, List.length_append, flatV_add]
                exact hown
              · refine (HB7.out.2.1.kept hal).grown hgrow ?_
                rcases own_not HB7.out.2.2.1 HGG.out.2 with e | e
                · rw [e]
                  simp
                · exact fun q => e q.symm
              · exact (bl_alloc HB7.out.1).grown hgrow (bl_alloc HB7.out.1).size (fun k hk => Nat.le_trans HGL.out (own_base HB7.out.2.2.1 k hk))
            clear hown hgrow hal
            go_wp2
            go_roundg (nn - (i + 1))
            case measure => omega
            case rel => exact ⟨i + 1, _, by omega, rfl, rfl, by go_num, HO8.out.2.1, HO8.out.1, HO8.out.2.2.1, HO8.out.2.2.2⟩
        · have HE : Hid (lyL L (pls L M L.length) (px, py, pk) (i + 1) = lyL L (pls L M L.length) (px, py, pk) i) := by
            have e1 : ¬ (pls L M L.length).getD i (0, 0, 0) = (px, py, pk) := by
              have := HNB.out
              unfold thP at this
              simpa using this
            show lyL L (pls L M L.length) (px, py, pk) (i + 1) = lyL L (pls L M L.length) (px, py, pk) i
            rw [lyL_succ, if_neg e1, List.append_nil]
          go_wp2
          go_roundg (nn - (i + 1))
          case measure => omega
          case rel => exact ⟨i + 1, u, by omega, rfl, rfl, by go_num, HB7.out.2.1, by rw [HE.out]; exact HB7.out.2.2.1, HB7.out.1, HB7.out.2.2.2⟩
      · have i1 : ¬ (i : Int) < (nn : Int) := by omega
        obtain rfl : i = nn := by omega
        obtain ⟨nn, hnn⟩ : ∃ m, m = i := ⟨_, rfl⟩
        subst hnn
        obtain ⟨a1, k1, rfl, hT1⟩ := own_tris HJ.out.2.1
        obtain ⟨ol, hol⟩ : ∃ m, m = (lyL L (pls L M L.length) (px, py, pk) nn).length := ⟨_, rfl⟩
        rw [← hol]
        have HOL : Hid (ol = (lyL L (pls L M L.length) (px, py, pk) L.length).length ∧ TRow wr a1 (lyL L (pls L M L.length) (px, py, pk) L.length)) := by
          have e := HR.out.2.2.1
          rw [e] at hol hT1
          exact ⟨hol, hT1⟩
        clear hT1 hol
        have HSY : Hid (∀ wx : World, Below wr.heap.size wr wx → wx.cell? ⟨w.heap.size, 0, none⟩ = some (.int .i64 W) ∧ wx.cell? ⟨w.heap.size, 1, none⟩ = some (.int .i64 H) ∧ wx.cell? ⟨w.heap.size, 2, none⟩ = some (.slice a zl ca) ∧ wx.cell? ⟨w.heap.size, 3, none⟩ = some (.slice c n cc)) := fun wx hx => ⟨cl_kept (bl_via HJ.out.2.2.1 hx) HW1.out.2.2.1.1.1, cl_kept (bl_via HJ.out.2.2.1 hx) HW1.out.2.2.1.1.2.1, cl_kept (bl_via HJ.out.2.2.1 hx) HW1.out.2.2.1.1.2.2.1, cl_kept (bl_via HJ.out.2.2.1 hx) HW1.out.2.2.1.1.2.2.2⟩
        go_upto_region 10 with fail
        refine wp_region_held_drew (S := fun w' => w'.cell? ⟨w.heap.size, 0, none⟩ = some (.int .i64 W) ∧ w'.cell? ⟨w.heap.size, 1, none⟩ = some (.int .i64 H) ∧ w'.cell? ⟨w.heap.size, 2, none⟩ = some (.slice a zl ca) ∧ w'.cell? ⟨w.heap.size, 3, none⟩ = some (.slice c n cc)) (by kernel_rfl) (HSY.out _ (bl_drew (bl_refl _))) (fun hHeld => ?_)
        refine wpAnyH_take (i := 0) (v := .slice a1 ol k1) rfl (by kernel_rfl) (by kernel_rfl) (by kernel_rfl) (fun _ _ _ h => h) (Or.inl ⟨by rfl, ?hyy⟩) (by assumption) ?_
        case hyy => (intro w' hSw; (try dsimp only at hSw); go_simp)
        try simp only [Act.put, List.getElem_toArray, List.getElem_cons_zero, List.setIfInBounds_toArray, List.set_cons_zero, List.set_cons_succ]
        refine wpAnyH_take (i := 1) (v := .pointer (some ⟨w.heap.size, 0, none⟩)) rfl (by kernel_rfl) (by kernel_rfl) (by kernel_rfl) (fun _ _ _ h => h) (Or.inl ⟨by rfl, ?hyy⟩) (by assumption) ?_
        case hyy => (intro w' hSw; (try dsimp only at hSw); go_simp)
        try simp only [Act.put, List.getElem_toArray, List.getElem_cons_succ, List.getElem_cons_zero, List.setIfInBounds_toArray, List.set_cons_zero, List.set_cons_succ]
        refine wpAnyH_take (i := 2) (v := .agg #[.int .i64 W, .int .i64 H, .slice a zl ca, .slice c n cc]) rfl (by kernel_rfl) (by kernel_rfl) (by kernel_rfl) (fun _ _ _ h => h) (Or.inl ⟨by rfl, ?hyy⟩) (by assumption) ?_
        case hyy => (intro w' hSw; (try dsimp only at hSw); go_simp)
        try simp only [Act.put, List.getElem_toArray, List.getElem_cons_succ, List.getElem_cons_zero, List.setIfInBounds_toArray, List.set_cons_zero, List.set_cons_succ]
        refine wpAnyH_take (i := 3) (v := .slice (some ⟨g6, 0, none⟩) nn nn) rfl (by kernel_rfl) (by kernel_rfl) (by kernel_rfl) (fun _ _ _ h => h) (Or.inl ⟨by rfl, ?hyy⟩) (by assumption) ?_
        case hyy => (intro w' hSw; (try dsimp only at hSw); go_simp)
        try simp only [Act.put, List.getElem_toArray, List.getElem_cons_succ, List.getElem_cons_zero, List.setIfInBounds_toArray, List.set_cons_zero, List.set_cons_succ]
        refine wpAnyH_take (i := 4) (v := .slice a9 nn ca9) rfl (by kernel_rfl) (by kernel_rfl) (by kernel_rfl) (fun _ _ _ h => h) (Or.inl ⟨by rfl, ?hyy⟩) (by assumption) ?_
        case hyy => (intro w' hSw; (try dsimp only at hSw); go_simp)
        try simp only [Act.put, List.getElem_toArray, List.getElem_cons_succ, List.getElem_cons_zero, List.setIfInBounds_toArray, List.set_cons_zero, List.set_cons_succ]
        refine wpAnyH_take (i := 5) (v := .int .i64 (nn : Int)) rfl (by kernel_rfl) (by kernel_rfl) (by kernel_rfl) (fun _ _ _ h => h) (Or.inl ⟨by rfl, ?hyy⟩) (by assumption) ?_
        case hyy => (intro w' hSw; (try dsimp only at hSw); go_simp)
        try simp only [Act.put, List.getElem_toArray, List.getElem_cons_succ, List.getElem_cons_zero, List.setIfInBounds_toArray, List.set_cons_zero, List.set_cons_succ]
        refine wpAnyH_ready (rs := [6]) (by kernel_rfl) (by simp) ?_
        refine AllReadyH.cons rfl (fun K hK => ?_) AllReadyH.nil
        refine step_make_full (by rfl) (.tmp 54) (.tmp 54) 22 rfl wr.heap.size 3 i3 (.int .i64 0) 1 Tryz.underlying22 HI3.out.1 HI3.out.2.1 HI3.out.2.2.1 .i64 .i64 nn rfl rfl (by rw [HI3.out.2.2.2]; omega) (by unfold maxLen; omega) (Nat.le_refl _) ?_
        intro w5 ho hg
        have hrow := ints_made (by simpa using (show w5.ownsRow _ _ _ _ _ (madeCells #[.int .i64 0] (nn * 1)).toList from ho))
        have hb5 : Below wr.heap.size wr w5 := bl_via (bl_drew (bl_refl _)) ((Below.refl _ _).grown hg (Nat.le_refl _) (fun k h => by cases h))
        have H5 : Hid (ZRow w5 wr.heap.size nn (fun _ => 0) ∧ BRf w5 g6 nn (fun j => decide (j < nn) && (thP (pls L M L.length) (px, py, pk)) j) ∧ Below wr.heap.size wr w5) := ⟨hrow, HJ.out.1.kept hb5, hb5⟩
        clear ho hg hrow hb5
        refine hK.out _ _ (HSY.out _ H5.out.2.2) (fun hHd => ?_)
        clear hK K
        try simp only [Act.put, List.getElem_toArray, List.getElem_cons_succ, List.getElem_cons_zero, List.setIfInBounds_toArray, List.set_cons_zero, List.set_cons_succ]
        refine wpAnyH_ready (rs := [7]) (by kernel_rfl) (by simp) ?_
        refine AllReadyH.cons rfl (fun K hK => ?_) AllReadyH.nil
        refine step_callTo (by rfl) 36 #[.agg #[.int .i64 W, .int .i64 H, .slice a zl ca, .slice c n cc], .slice (some ⟨g6, 0, none⟩) nn nn, .slice (some ⟨wr.heap.size, 0, none⟩) nn nn] (by kernel_rfl) (CP.out w5 g6 wr.heap.size (thP (pls L M L.length) (px, py, pk)) (fun _ => 0) (bl_via (bl_via HW1.out.2.1 HJ.out.2.2.1) H5.out.2.2) (fun j hj => by have := (H5.out.2.1 j hj).1; rw [this]; simp [hj]) (fun j hj => (H5.out.1 j hj).1)) ?_
        rintro e w6 ⟨u9, who, rfl, hio, hne, hb6⟩
        refine ⟨_, rfl, ?_⟩
        obtain ⟨a8, c8, rfl, hnr⟩ := hne.readE
        have H6 : Hid ((InvC (crS L (sdT (thP (pls L M L.length) (px, py, pk)) (fun _ => 0))) L who ∧ ∀ i e, i < L.length → e < 3 → OkC (crS L (sdT (thP (pls L M L.length) (px, py, pk)) (fun _ => 0))) L who i e) ∧ NRe w6 a8 (rfsT L (thP (pls L M L.length) (px, py, pk)) who L.length) ∧ Below wr.heap.size wr w6) := ⟨hio, hnr, bl_via H5.out.2.2 hb6⟩
        clear hio hne hnr hb6
        refine hK.out _ _ (HSY.out _ H6.out.2.2) (fun hHd => ?_)
        clear hK K
        try simp only [Act.put, List.getElem_toArray, List.getElem_cons_succ, List.getElem_cons_zero, List.setIfInBounds_toArray, List.set_cons_zero, List.set_cons_succ]
        refine wpAnyH_take (i := 8) (v := .slice a1 ol k1) rfl (by kernel_rfl) (by kernel_rfl) (by kernel_rfl) (fun _ _ _ h => h) (Or.inl ⟨by rfl, ?hyy⟩) (by assumption) ?_
        case hyy => (intro w' hSw; (try dsimp only at hSw); go_simp)
        try simp only [Act.put, List.getElem_toArray, List.getElem_cons_succ, List.getElem_cons_zero, List.setIfInBounds_toArray, List.set_cons_zero, List.set_cons_succ]
        refine wpAnyH_take (i := 9) (v := .slice a8 (rfsT L (thP (pls L M L.length) (px, py, pk)) who L.length).length c8) rfl (by kernel_rfl) (by kernel_rfl) (by kernel_rfl) (fun _ _ _ h => h) (Or.inl ⟨by rfl, ?hyy⟩) (by assumption) ?_
        case hyy => (intro w' hSw; (try dsimp only at hSw); go_simp)
        try simp only [Act.put, List.getElem_toArray, List.getElem_cons_succ, List.getElem_cons_zero, List.setIfInBounds_toArray, List.set_cons_zero, List.set_cons_succ]
        refine wpAnyH_done (by kernel_rfl) ?_ _
        go_wp2
        refine bodyPost_ret (v := .tuple #[.slice a1 ol k1, .slice a8 (rfsT L (thP (pls L M L.length) (px, py, pk)) who L.length).length c8]) (by simp [results, Tryz.results14, go_sem]) rfl ?_
        exact ⟨a1, k1, a8, c8, who, by rw [HOL.out.1], HOL.out.2.kept H6.out.2.2, H6.out.1, H6.out.2.1, bl_via (bl_via HW1.out.2.1 HJ.out.2.2.1) H6.out.2.2⟩

set_option maxRecDepth 100000 in
set_option maxHeartbeats 6400000 in
theorem pun_no (W H x y t : Int) (a c mp sp : Option Addr) (zl ca n cc mn mc sn sc : Nat) (w : World)
    (C7 : Hid (∀ V : World, Below w.heap.size w V → Calls Tryz.prog 7 #[.agg #[.int .i64 W, .int .i64 H, .slice a zl ca, .slice c n cc, .slice mp mn mc, .slice sp sn sc]] V fun e w' => ∃ s7, e = .returned s7 ∧ Below V.heap.size V w' ∧ ∀ V2 : World, Below w'.heap.size w' V2 → Calls Tryz.prog 12 #[s7, .agg #[.int .i64 x, .int .i64 y, .int .i64 t]] V2 fun e2 w2 => e2 = .returned (.tuple #[.slice none 0 0, .slice none 0 0, .int .i64 10]) ∧ Below V2.heap.size V2 w2))
    (C8 : Hid (∀ V : World, Below w.heap.size w V → Calls Tryz.prog 8 #[.agg #[.int .i64 W, .int .i64 H, .slice a zl ca, .slice c n cc, .slice mp mn mc, .slice sp sn sc]] V fun e w' => e = .returned (.bool false) ∧ Below V.heap.size V w')) :
    Calls Tryz.prog 4 #[.agg #[.int .i64 W, .int .i64 H, .slice a zl ca, .slice c n cc, .slice mp mn mc, .slice sp sn sc], .agg #[.int .i64 x, .int .i64 y, .int .i64 t]] w fun e w' => e = .returned (.bool true) ∧ Below w.heap.size w w' := by
  go_enter Tryz.func4, Tryz.ntmps4
  go_upto_region 1 with fail
  refine wp_named (fun W0 hW0 => ?_)
  have HSX : Hid (∀ wx : World, Below W0.heap.size W0 wx → wx.cell? ⟨w.heap.size, 0, none⟩ = some (.int .i64 W) ∧ wx.cell? ⟨w.heap.size, 1, none⟩ = some (.int .i64 H) ∧ wx.cell? ⟨w.heap.size, 2, none⟩ = some (.slice a zl ca) ∧ wx.cell? ⟨w.heap.size, 3, none⟩ = some (.slice c n cc) ∧ wx.cell? ⟨w.heap.size, 4, none⟩ = some (.slice mp mn mc) ∧ wx.cell? ⟨w.heap.size, 5, none⟩ = some (.slice sp sn sc) ∧ wx.cell? ⟨w.heap.size + 1, 0, none⟩ = some (.int .i64 x) ∧ wx.cell? ⟨w.heap.size + 1, 1, none⟩ = some (.int .i64 y) ∧ wx.cell? ⟨w.heap.size + 1, 2, none⟩ = some (.int .i64 t)) := fun wx hx => by
    rw [hW0] at hx
    exact ⟨cl_kept hx (by simp [go_sem]), cl_kept hx (by simp [go_sem]), cl_kept hx (by simp [go_sem]), cl_kept hx (by simp [go_sem]), cl_kept hx (by simp [go_sem]), cl_kept hx (by simp [go_sem]), cl_kept hx (by simp [go_sem]), cl_kept hx (by simp [go_sem]), cl_kept hx (by simp [go_sem])⟩
  have HW0 : Hid (Below w.heap.size w W0) := by rw [hW0]; exact bl_alloc (bl_alloc (bl_refl _))
  clear hW0
  refine wp_region_held_drew (S := fun w' => w'.cell? ⟨w.heap.size, 0, none⟩ = some (.int .i64 W) ∧ w'.cell? ⟨w.heap.size, 1, none⟩ = some (.int .i64 H) ∧ w'.cell? ⟨w.heap.size, 2, none⟩ = some (.slice a zl ca) ∧ w'.cell? ⟨w.heap.size, 3, none⟩ = some (.slice c n cc) ∧ w'.cell? ⟨w.heap.size, 4, none⟩ = some (.slice mp mn mc) ∧ w'.cell? ⟨w.heap.size, 5, none⟩ = some (.slice sp sn sc) ∧ w'.cell? ⟨w.heap.size + 1, 0, none⟩ = some (.int .i64 x) ∧ w'.cell? ⟨w.heap.size + 1, 1, none⟩ = some (.int .i64 y) ∧ w'.cell? ⟨w.heap.size + 1, 2, none⟩ = some (.int .i64 t)) (by kernel_rfl) (HSX.out _ (bl_drew (bl_refl _))) (fun hHeld => ?_)
  refine wpAnyH_take (i := 0) (v := .agg #[.int .i64 W, .int .i64 H, .slice a zl ca, .slice c n cc, .slice mp mn mc, .slice sp sn sc]) rfl (by kernel_rfl) (by kernel_rfl) (by kernel_rfl) (fun _ _ _ h => h) (Or.inl ⟨by rfl, ?hyy⟩) (by assumption) ?_
  case hyy => (intro w' hSw; (try dsimp only at hSw); go_simp)
  try simp only [Act.put, List.getElem_toArray, List.getElem_cons_zero, List.setIfInBounds_toArray, List.set_cons_zero, List.set_cons_succ]
  refine wpAnyH_take (i := 2) (v := .agg #[.int .i64 x, .int .i64 y, .int .i64 t]) rfl (by kernel_rfl) (by kernel_rfl) (by kernel_rfl) (fun _ _ _ h => h) (Or.inl ⟨by rfl, ?hyy⟩) (by assumption) ?_
  case hyy => (intro w' hSw; (try dsimp only at hSw); go_simp)
  try simp only [Act.put, List.getElem_toArray, List.getElem_cons_succ, List.getElem_cons_zero, List.setIfInBounds_toArray, List.set_cons_zero, List.set_cons_succ]
  refine wpAnyH_ready (rs := [1]) (by kernel_rfl) (by simp) ?_
  refine AllReadyH.cons rfl (fun K hK => ?_) AllReadyH.nil
  refine step_callTo (by rfl) 7 #[.agg #[.int .i64 W, .int .i64 H, .slice a zl ca, .slice c n cc, .slice mp mn mc, .slice sp sn sc]] (by kernel_rfl) (C7.out _ (bl_drew HW0.out)) ?_
  rintro e w5 ⟨s7, rfl, hb5, h6⟩
  refine ⟨_, rfl, ?_⟩
  have HB5 : Hid (Below W0.heap.size W0 w5) := bl_via (bl_drew (bl_refl _)) hb5
  have H6 : Hid (Calls Tryz.prog 12 #[s7, .agg #[.int .i64 x, .int .i64 y, .int .i64 t]] w5 _) := h6 w5 (bl_refl _)
  clear hb5 h6
  refine hK.out _ _ (HSX.out _ HB5.out) (fun hHd => ?_)
  clear hK K
  try simp only [Act.put, List.getElem_toArray, List.getElem_cons_succ, List.getElem_cons_zero, List.setIfInBounds_toArray, List.set_cons_zero, List.set_cons_succ]
  refine wpAnyH_ready (rs := [3]) (by kernel_rfl) (by simp) ?_
  refine AllReadyH.cons rfl (fun K hK => ?_) AllReadyH.nil
  refine step_callTo (by rfl) 12 #[s7, .agg #[.int .i64 x, .int .i64 y, .int .i64 t]] (by kernel_rfl) H6.out ?_
  rintro e w6 ⟨rfl, hb6⟩
  refine ⟨_, rfl, ?_⟩
  have HB6 : Hid (Below W0.heap.size W0 w6 ∧ Below w.heap.size w w6) := ⟨bl_via HB5.out hb6, bl_via HW0.out (bl_via HB5.out hb6)⟩
  refine hK.out _ _ (HSX.out _ HB6.out.1) (fun hHd => ?_)
  clear hK K
  try simp only [Act.put, List.getElem_toArray, List.getElem_cons_succ, List.getElem_cons_zero, List.setIfInBounds_toArray, List.set_cons_zero, List.set_cons_succ]
  refine wpAnyH_take (i := 4) (v := .tuple #[.slice none 0 0, .slice none 0 0, .int .i64 10]) rfl (by kernel_rfl) (by kernel_rfl) (by kernel_rfl) (fun _ _ _ h => h) (Or.inl ⟨by rfl, ?hyy⟩) (by assumption) ?_
  case hyy => (intro w' hSw; (try dsimp only at hSw); go_simp)
  try simp only [Act.put, List.getElem_toArray, List.getElem_cons_succ, List.getElem_cons_zero, List.setIfInBounds_toArray, List.set_cons_zero, List.set_cons_succ]
  refine wpAnyH_take (i := 5) (v := .slice none 0 0) rfl (by kernel_rfl) (by kernel_rfl) (by kernel_rfl) (fun _ _ _ h => h) (Or.inl ⟨by rfl, ?hyy⟩) (by assumption) ?_
  case hyy => (intro w' hSw; (try dsimp only at hSw); go_simp)
  try simp only [Act.put, List.getElem_toArray, List.getElem_cons_succ, List.getElem_cons_zero, List.setIfInBounds_toArray, List.set_cons_zero, List.set_cons_succ]
  refine wpAnyH_take (i := 6) (v := .slice none 0 0) rfl (by kernel_rfl) (by kernel_rfl) (by kernel_rfl) (fun _ _ _ h => h) (Or.inl ⟨by rfl, ?hyy⟩) (by assumption) ?_
  case hyy => (intro w' hSw; (try dsimp only at hSw); go_simp)
  try simp only [Act.put, List.getElem_toArray, List.getElem_cons_succ, List.getElem_cons_zero, List.setIfInBounds_toArray, List.set_cons_zero, List.set_cons_succ]
  refine wpAnyH_take (i := 7) (v := .int .i64 10) rfl (by kernel_rfl) (by kernel_rfl) (by kernel_rfl) (fun _ _ _ h => h) (Or.inl ⟨by rfl, ?hyy⟩) (by assumption) ?_
  case hyy => (intro w' hSw; (try dsimp only at hSw); go_simp)
  try simp only [Act.put, List.getElem_toArray, List.getElem_cons_succ, List.getElem_cons_zero, List.setIfInBounds_toArray, List.set_cons_zero, List.set_cons_succ]
  refine wpAnyH_take (i := 8) (v := .slice none 0 0) rfl (by kernel_rfl) (by kernel_rfl) (by kernel_rfl) (fun _ _ _ h => h) (Or.inl ⟨by rfl, ?hyy⟩) (by assumption) ?_
  case hyy => (intro w' hSw; (try dsimp only at hSw); go_simp)
  try simp only [Act.put, List.getElem_toArray, List.getElem_cons_succ, List.getElem_cons_zero, List.setIfInBounds_toArray, List.set_cons_zero, List.set_cons_succ]
  refine wpAnyH_take (i := 9) (v := .slice none 0 0) rfl (by kernel_rfl) (by kernel_rfl) (by kernel_rfl) (fun _ _ _ h => h) (Or.inl ⟨by rfl, ?hyy⟩) (by assumption) ?_
  case hyy => (intro w' hSw; (try dsimp only at hSw); go_simp)
  try simp only [Act.put, List.getElem_toArray, List.getElem_cons_succ, List.getElem_cons_zero, List.setIfInBounds_toArray, List.set_cons_zero, List.set_cons_succ]
  refine wpAnyH_take (i := 10) (v := .int .i64 10) rfl (by kernel_rfl) (by kernel_rfl) (by kernel_rfl) (fun _ _ _ h => h) (Or.inl ⟨by rfl, ?hyy⟩) (by assumption) ?_
  case hyy => (intro w' hSw; (try dsimp only at hSw); go_simp)
  try simp only [Act.put, List.getElem_toArray, List.getElem_cons_succ, List.getElem_cons_zero, List.setIfInBounds_toArray, List.set_cons_zero, List.set_cons_succ]
  refine wpAnyH_done (by kernel_rfl) ?_ _
  obtain ⟨s0, s1, s2, s3, s4, s5, e0, e1, e2⟩ := HSX.out _ HB6.out.1
  have zs : w.heap.size < w6.heap.size := World.block_lt_of_cell? _ _ s0
  have ze : w.heap.size + 1 < w6.heap.size := World.block_lt_of_cell? _ _ e0
  clear hb6
  go_wp2_with (go_at_call 8; refine (C8.out _ HB6.out.2).mono ?_; rintro e w7 ⟨rfl, hb7⟩; have HB7 : Hid (Below W0.heap.size W0 w7 ∧ Below w.heap.size w w7 ∧ Below w6.heap.size w6 w7) := ⟨bl_via HB6.out.1 hb7, bl_via HB6.out.2 hb7, hb7⟩; obtain ⟨rs0, rs1, rs2, rs3, rs4, rs5, re0, re1, re2⟩ := HSX.out _ HB7.out.1; have rzs : w.heap.size < w7.heap.size := World.block_lt_of_cell? _ _ rs0; have rze : w.heap.size + 1 < w7.heap.size := World.block_lt_of_cell? _ _ re0; clear hb7)
  go_ret
  exact ⟨rfl, HB7.out.2.1⟩
set_option maxRecDepth 100000 in
set_option maxHeartbeats 6400000 in
theorem pun_place (W H x y t : Int) (a c mp sp : Option Addr) (zl ca n cc mn mc sn sc : Nat) (w : World)
    (C7 : Hid (∀ V : World, Below w.heap.size w V → Calls Tryz.prog 7 #[.agg #[.int .i64 W, .int .i64 H, .slice a zl ca, .slice c n cc, .slice mp mn mc, .slice sp sn sc]] V fun e w' => ∃ s7, e = .returned s7 ∧ Below V.heap.size V w' ∧ ∀ V2 : World, Below w'.heap.size w' V2 → Calls Tryz.prog 12 #[s7, .agg #[.int .i64 x, .int .i64 y, .int .i64 t]] V2 fun e2 w2 => e2 = .returned (.tuple #[.slice none 0 0, .slice none 0 0, .int .i64 3]) ∧ Below V2.heap.size V2 w2))
    (C8 : Hid (∀ V : World, Below w.heap.size w V → Calls Tryz.prog 8 #[.agg #[.int .i64 W, .int .i64 H, .slice a zl ca, .slice c n cc, .slice mp mn mc, .slice sp sn sc]] V fun e w' => e = .returned (.bool true) ∧ Below V.heap.size V w')) (hl : triB x y t = false) :
    Calls Tryz.prog 4 #[.agg #[.int .i64 W, .int .i64 H, .slice a zl ca, .slice c n cc, .slice mp mn mc, .slice sp sn sc], .agg #[.int .i64 x, .int .i64 y, .int .i64 t]] w fun e w' => e = .returned (.bool true) ∧ Below w.heap.size w w' := by
  have C13 : Hid (∀ V : World, Calls Tryz.prog 13 #[.agg #[.int .i64 x, .int .i64 y, .int .i64 t]] V fun e w' => e = .returned (.bool false) ∧ Below V.heap.size V w') := fun V => (triMay_any x y t V).mono fun e w' ⟨h, o, hw⟩ => ⟨by rw [h, hl], by rw [hw]; exact bl_alloc (bl_refl _)⟩
  clear hl
  go_enter Tryz.func4, Tryz.ntmps4
  go_upto_region 1 with fail
  refine wp_named (fun W0 hW0 => ?_)
  have HSX : Hid (∀ wx : World, Below W0.heap.size W0 wx → wx.cell? ⟨w.heap.size, 0, none⟩ = some (.int .i64 W) ∧ wx.cell? ⟨w.heap.size, 1, none⟩ = some (.int .i64 H) ∧ wx.cell? ⟨w.heap.size, 2, none⟩ = some (.slice a zl ca) ∧ wx.cell? ⟨w.heap.size, 3, none⟩ = some (.slice c n cc) ∧ wx.cell? ⟨w.heap.size, 4, none⟩ = some (.slice mp mn mc) ∧ wx.cell? ⟨w.heap.size, 5, none⟩ = some (.slice sp sn sc) ∧ wx.cell? ⟨w.heap.size + 1, 0, none⟩ = some (.int .i64 x) ∧ wx.cell? ⟨w.heap.size + 1, 1, none⟩ = some (.int .i64 y) ∧ wx.cell? ⟨w.heap.size + 1, 2, none⟩ = some (.int .i64 t)) := fun wx hx => by
    rw [hW0] at hx
    exact ⟨cl_kept hx (by simp [go_sem]), cl_kept hx (by simp [go_sem]), cl_kept hx (by simp [go_sem]), cl_kept hx (by simp [go_sem]), cl_kept hx (by simp [go_sem]), cl_kept hx (by simp [go_sem]), cl_kept hx (by simp [go_sem]), cl_kept hx (by simp [go_sem]), cl_kept hx (by simp [go_sem])⟩
  have HW0 : Hid (Below w.heap.size w W0) := by rw [hW0]; exact bl_alloc (bl_alloc (bl_refl _))
  clear hW0
  refine wp_region_held_drew (S := fun w' => w'.cell? ⟨w.heap.size, 0, none⟩ = some (.int .i64 W) ∧ w'.cell? ⟨w.heap.size, 1, none⟩ = some (.int .i64 H) ∧ w'.cell? ⟨w.heap.size, 2, none⟩ = some (.slice a zl ca) ∧ w'.cell? ⟨w.heap.size, 3, none⟩ = some (.slice c n cc) ∧ w'.cell? ⟨w.heap.size, 4, none⟩ = some (.slice mp mn mc) ∧ w'.cell? ⟨w.heap.size, 5, none⟩ = some (.slice sp sn sc) ∧ w'.cell? ⟨w.heap.size + 1, 0, none⟩ = some (.int .i64 x) ∧ w'.cell? ⟨w.heap.size + 1, 1, none⟩ = some (.int .i64 y) ∧ w'.cell? ⟨w.heap.size + 1, 2, none⟩ = some (.int .i64 t)) (by kernel_rfl) (HSX.out _ (bl_drew (bl_refl _))) (fun hHeld => ?_)
  refine wpAnyH_take (i := 0) (v := .agg #[.int .i64 W, .int .i64 H, .slice a zl ca, .slice c n cc, .slice mp mn mc, .slice sp sn sc]) rfl (by kernel_rfl) (by kernel_rfl) (by kernel_rfl) (fun _ _ _ h => h) (Or.inl ⟨by rfl, ?hyy⟩) (by assumption) ?_
  case hyy => (intro w' hSw; (try dsimp only at hSw); go_simp)
  try simp only [Act.put, List.getElem_toArray, List.getElem_cons_zero, List.setIfInBounds_toArray, List.set_cons_zero, List.set_cons_succ]
  refine wpAnyH_take (i := 2) (v := .agg #[.int .i64 x, .int .i64 y, .int .i64 t]) rfl (by kernel_rfl) (by kernel_rfl) (by kernel_rfl) (fun _ _ _ h => h) (Or.inl ⟨by rfl, ?hyy⟩) (by assumption) ?_
  case hyy => (intro w' hSw; (try dsimp only at hSw); go_simp)
  try simp only [Act.put, List.getElem_toArray, List.getElem_cons_succ, List.getElem_cons_zero, List.setIfInBounds_toArray, List.set_cons_zero, List.set_cons_succ]
  refine wpAnyH_ready (rs := [1]) (by kernel_rfl) (by simp) ?_
  refine AllReadyH.cons rfl (fun K hK => ?_) AllReadyH.nil
  refine step_callTo (by rfl) 7 #[.agg #[.int .i64 W, .int .i64 H, .slice a zl ca, .slice c n cc, .slice mp mn mc, .slice sp sn sc]] (by kernel_rfl) (C7.out _ (bl_drew HW0.out)) ?_
  rintro e w5 ⟨s7, rfl, hb5, h6⟩
  refine ⟨_, rfl, ?_⟩
  have HB5 : Hid (Below W0.heap.size W0 w5) := bl_via (bl_drew (bl_refl _)) hb5
  have H6 : Hid (Calls Tryz.prog 12 #[s7, .agg #[.int .i64 x, .int .i64 y, .int .i64 t]] w5 _) := h6 w5 (bl_refl _)
  clear hb5 h6
  refine hK.out _ _ (HSX.out _ HB5.out) (fun hHd => ?_)
  clear hK K
  try simp only [Act.put, List.getElem_toArray, List.getElem_cons_succ, List.getElem_cons_zero, List.setIfInBounds_toArray, List.set_cons_zero, List.set_cons_succ]
  refine wpAnyH_ready (rs := [3]) (by kernel_rfl) (by simp) ?_
  refine AllReadyH.cons rfl (fun K hK => ?_) AllReadyH.nil
  refine step_callTo (by rfl) 12 #[s7, .agg #[.int .i64 x, .int .i64 y, .int .i64 t]] (by kernel_rfl) H6.out ?_
  rintro e w6 ⟨rfl, hb6⟩
  refine ⟨_, rfl, ?_⟩
  have HB6 : Hid (Below W0.heap.size W0 w6 ∧ Below w.heap.size w w6) := ⟨bl_via HB5.out hb6, bl_via HW0.out (bl_via HB5.out hb6)⟩
  refine hK.out _ _ (HSX.out _ HB6.out.1) (fun hHd => ?_)
  clear hK K
  try simp only [Act.put, List.getElem_toArray, List.getElem_cons_succ, List.getElem_cons_zero, List.setIfInBounds_toArray, List.set_cons_zero, List.set_cons_succ]
  refine wpAnyH_take (i := 4) (v := .tuple #[.slice none 0 0, .slice none 0 0, .int .i64 3]) rfl (by kernel_rfl) (by kernel_rfl) (by kernel_rfl) (fun _ _ _ h => h) (Or.inl ⟨by rfl, ?hyy⟩) (by assumption) ?_
  case hyy => (intro w' hSw; (try dsimp only at hSw); go_simp)
  try simp only [Act.put, List.getElem_toArray, List.getElem_cons_succ, List.getElem_cons_zero, List.setIfInBounds_toArray, List.set_cons_zero, List.set_cons_succ]
  refine wpAnyH_take (i := 5) (v := .slice none 0 0) rfl (by kernel_rfl) (by kernel_rfl) (by kernel_rfl) (fun _ _ _ h => h) (Or.inl ⟨by rfl, ?hyy⟩) (by assumption) ?_
  case hyy => (intro w' hSw; (try dsimp only at hSw); go_simp)
  try simp only [Act.put, List.getElem_toArray, List.getElem_cons_succ, List.getElem_cons_zero, List.setIfInBounds_toArray, List.set_cons_zero, List.set_cons_succ]
  refine wpAnyH_take (i := 6) (v := .slice none 0 0) rfl (by kernel_rfl) (by kernel_rfl) (by kernel_rfl) (fun _ _ _ h => h) (Or.inl ⟨by rfl, ?hyy⟩) (by assumption) ?_
  case hyy => (intro w' hSw; (try dsimp only at hSw); go_simp)
  try simp only [Act.put, List.getElem_toArray, List.getElem_cons_succ, List.getElem_cons_zero, List.setIfInBounds_toArray, List.set_cons_zero, List.set_cons_succ]
  refine wpAnyH_take (i := 7) (v := .int .i64 3) rfl (by kernel_rfl) (by kernel_rfl) (by kernel_rfl) (fun _ _ _ h => h) (Or.inl ⟨by rfl, ?hyy⟩) (by assumption) ?_
  case hyy => (intro w' hSw; (try dsimp only at hSw); go_simp)
  try simp only [Act.put, List.getElem_toArray, List.getElem_cons_succ, List.getElem_cons_zero, List.setIfInBounds_toArray, List.set_cons_zero, List.set_cons_succ]
  refine wpAnyH_take (i := 8) (v := .slice none 0 0) rfl (by kernel_rfl) (by kernel_rfl) (by kernel_rfl) (fun _ _ _ h => h) (Or.inl ⟨by rfl, ?hyy⟩) (by assumption) ?_
  case hyy => (intro w' hSw; (try dsimp only at hSw); go_simp)
  try simp only [Act.put, List.getElem_toArray, List.getElem_cons_succ, List.getElem_cons_zero, List.setIfInBounds_toArray, List.set_cons_zero, List.set_cons_succ]
  refine wpAnyH_take (i := 9) (v := .slice none 0 0) rfl (by kernel_rfl) (by kernel_rfl) (by kernel_rfl) (fun _ _ _ h => h) (Or.inl ⟨by rfl, ?hyy⟩) (by assumption) ?_
  case hyy => (intro w' hSw; (try dsimp only at hSw); go_simp)
  try simp only [Act.put, List.getElem_toArray, List.getElem_cons_succ, List.getElem_cons_zero, List.setIfInBounds_toArray, List.set_cons_zero, List.set_cons_succ]
  refine wpAnyH_take (i := 10) (v := .int .i64 3) rfl (by kernel_rfl) (by kernel_rfl) (by kernel_rfl) (fun _ _ _ h => h) (Or.inl ⟨by rfl, ?hyy⟩) (by assumption) ?_
  case hyy => (intro w' hSw; (try dsimp only at hSw); go_simp)
  try simp only [Act.put, List.getElem_toArray, List.getElem_cons_succ, List.getElem_cons_zero, List.setIfInBounds_toArray, List.set_cons_zero, List.set_cons_succ]
  refine wpAnyH_done (by kernel_rfl) ?_ _
  obtain ⟨s0, s1, s2, s3, s4, s5, e0, e1, e2⟩ := HSX.out _ HB6.out.1
  have zs : w.heap.size < w6.heap.size := World.block_lt_of_cell? _ _ s0
  have ze : w.heap.size + 1 < w6.heap.size := World.block_lt_of_cell? _ _ e0
  clear hb6
  go_wp2_with (first
    | (go_at_call 8; refine (C8.out _ HB6.out.2).mono ?_; rintro e w7 ⟨rfl, hb7⟩; have HB7 : Hid (Below W0.heap.size W0 w7 ∧ Below w.heap.size w w7 ∧ Below w6.heap.size w6 w7) := ⟨bl_via HB6.out.1 hb7, bl_via HB6.out.2 hb7, hb7⟩; obtain ⟨rs0, rs1, rs2, rs3, rs4, rs5, re0, re1, re2⟩ := HSX.out _ HB7.out.1; have rzs : w.heap.size < w7.heap.size := World.block_lt_of_cell? _ _ rs0; have rze : w.heap.size + 1 < w7.heap.size := World.block_lt_of_cell? _ _ re0; clear hb7)
    | (go_at_call 13; refine (C13.out _).mono ?_; rintro e w8 ⟨rfl, hb8⟩; have HB8 : Hid (Below w.heap.size w w8) := bl_via HB7.out.2.1 hb8; clear hb8)
    | fail)
  go_ret
  exact ⟨rfl, HB8.out⟩
set_option maxRecDepth 100000 in
set_option maxHeartbeats 6400000 in
theorem pun_ok (W H x y t : Int) (a c mp sp : Option Addr) (zl ca n cc mn mc sn sc : Nat) (PG QG : World → Option Addr → Nat → Option Addr → Nat → Prop) (w : World)
    (C7 : Hid (∀ V : World, Below w.heap.size w V → Calls Tryz.prog 7 #[.agg #[.int .i64 W, .int .i64 H, .slice a zl ca, .slice c n cc, .slice mp mn mc, .slice sp sn sc]] V fun e w' => ∃ s7, e = .returned s7 ∧ Below V.heap.size V w' ∧ ∀ V2 : World, Below w'.heap.size w' V2 → Calls Tryz.prog 12 #[s7, .agg #[.int .i64 x, .int .i64 y, .int .i64 t]] V2 fun e2 w2 => ∃ pa pl pc pb pm pd, e2 = .returned (.tuple #[.slice pa pl pc, .slice pb pm pd, .int .i64 0]) ∧ PG w2 pa pl pb pm ∧ Below V2.heap.size V2 w2))
    (C8 : Hid (∀ V : World, Below w.heap.size w V → Calls Tryz.prog 8 #[.agg #[.int .i64 W, .int .i64 H, .slice a zl ca, .slice c n cc, .slice mp mn mc, .slice sp sn sc]] V fun e w' => e = .returned (.bool true) ∧ Below V.heap.size V w')) (hl : triB x y t = true) (C14 : Hid (∀ V : World, Below w.heap.size w V → Calls Tryz.prog 14 #[.agg #[.int .i64 W, .int .i64 H, .slice a zl ca, .slice c n cc, .slice mp mn mc, .slice sp sn sc], .agg #[.int .i64 x, .int .i64 y, .int .i64 t]] V fun e w' => ∃ qa ql qc qb qm qd, e = .returned (.tuple #[.slice qa ql qc, .slice qb qm qd]) ∧ QG w' qa ql qb qm ∧ Below V.heap.size V w')) (hPG : ∀ pa pl pb pm (V V2 : World), PG V pa pl pb pm → Below V.heap.size V V2 → PG V2 pa pl pb pm) (hQG : ∀ pa pl pb pm (V V2 : World), QG V pa pl pb pm → Below V.heap.size V V2 → QG V2 pa pl pb pm) (C15 : Hid (∀ (V : World) (pa qa pb qb : Option Addr) (pl ql pm qm pc qc : Nat), PG V pa pl pb pm → QG V qa ql qb qm → Calls Tryz.prog 15 #[.slice pa pl pc, .slice qa ql qc] V fun e w' => e = .returned (.bool true) ∧ Below V.heap.size V w')) (C10 : Hid (∀ (V : World) (pa qa pb qb : Option Addr) (pl ql pm qm pd qd : Nat), PG V pa pl pb pm → QG V qa ql qb qm → Calls Tryz.prog 10 #[.slice pb pm pd, .slice qb qm qd] V fun e w' => e = .returned (.bool true) ∧ Below V.heap.size V w')) :
    Calls Tryz.prog 4 #[.agg #[.int .i64 W, .int .i64 H, .slice a zl ca, .slice c n cc, .slice mp mn mc, .slice sp sn sc], .agg #[.int .i64 x, .int .i64 y, .int .i64 t]] w fun e w' => e = .returned (.bool true) ∧ Below w.heap.size w w' := by
  have C13 : Hid (∀ V : World, Calls Tryz.prog 13 #[.agg #[.int .i64 x, .int .i64 y, .int .i64 t]] V fun e w' => e = .returned (.bool true) ∧ Below V.heap.size V w') := fun V => (triMay_any x y t V).mono fun e w' ⟨h, o, hw⟩ => ⟨by rw [h, hl], by rw [hw]; exact bl_alloc (bl_refl _)⟩
  clear hl
  go_enter Tryz.func4, Tryz.ntmps4
  go_upto_region 1 with fail
  refine wp_named (fun W0 hW0 => ?_)
  have HSX : Hid (∀ wx : World, Below W0.heap.size W0 wx → wx.cell? ⟨w.heap.size, 0, none⟩ = some (.int .i64 W) ∧ wx.cell? ⟨w.heap.size, 1, none⟩ = some (.int .i64 H) ∧ wx.cell? ⟨w.heap.size, 2, none⟩ = some (.slice a zl ca) ∧ wx.cell? ⟨w.heap.size, 3, none⟩ = some (.slice c n cc) ∧ wx.cell? ⟨w.heap.size, 4, none⟩ = some (.slice mp mn mc) ∧ wx.cell? ⟨w.heap.size, 5, none⟩ = some (.slice sp sn sc) ∧ wx.cell? ⟨w.heap.size + 1, 0, none⟩ = some (.int .i64 x) ∧ wx.cell? ⟨w.heap.size + 1, 1, none⟩ = some (.int .i64 y) ∧ wx.cell? ⟨w.heap.size + 1, 2, none⟩ = some (.int .i64 t)) := fun wx hx => by
    rw [hW0] at hx
    exact ⟨cl_kept hx (by simp [go_sem]), cl_kept hx (by simp [go_sem]), cl_kept hx (by simp [go_sem]), cl_kept hx (by simp [go_sem]), cl_kept hx (by simp [go_sem]), cl_kept hx (by simp [go_sem]), cl_kept hx (by simp [go_sem]), cl_kept hx (by simp [go_sem]), cl_kept hx (by simp [go_sem])⟩
  have HW0 : Hid (Below w.heap.size w W0) := by rw [hW0]; exact bl_alloc (bl_alloc (bl_refl _))
  clear hW0
  refine wp_region_held_drew (S := fun w' => w'.cell? ⟨w.heap.size, 0, none⟩ = some (.int .i64 W) ∧ w'.cell? ⟨w.heap.size, 1, none⟩ = some (.int .i64 H) ∧ w'.cell? ⟨w.heap.size, 2, none⟩ = some (.slice a zl ca) ∧ w'.cell? ⟨w.heap.size, 3, none⟩ = some (.slice c n cc) ∧ w'.cell? ⟨w.heap.size, 4, none⟩ = some (.slice mp mn mc) ∧ w'.cell? ⟨w.heap.size, 5, none⟩ = some (.slice sp sn sc) ∧ w'.cell? ⟨w.heap.size + 1, 0, none⟩ = some (.int .i64 x) ∧ w'.cell? ⟨w.heap.size + 1, 1, none⟩ = some (.int .i64 y) ∧ w'.cell? ⟨w.heap.size + 1, 2, none⟩ = some (.int .i64 t)) (by kernel_rfl) (HSX.out _ (bl_drew (bl_refl _))) (fun hHeld => ?_)
  refine wpAnyH_take (i := 0) (v := .agg #[.int .i64 W, .int .i64 H, .slice a zl ca, .slice c n cc, .slice mp mn mc, .slice sp sn sc]) rfl (by kernel_rfl) (by kernel_rfl) (by kernel_rfl) (fun _ _ _ h => h) (Or.inl ⟨by rfl, ?hyy⟩) (by assumption) ?_
  case hyy => (intro w' hSw; (try dsimp only at hSw); go_simp)
  try simp only [Act.put, List.getElem_toArray, List.getElem_cons_zero, List.setIfInBounds_toArray, List.set_cons_zero, List.set_cons_succ]
  refine wpAnyH_take (i := 2) (v := .agg #[.int .i64 x, .int .i64 y, .int .i64 t]) rfl (by kernel_rfl) (by kernel_rfl) (by kernel_rfl) (fun _ _ _ h => h) (Or.inl ⟨by rfl, ?hyy⟩) (by assumption) ?_
  case hyy => (intro w' hSw; (try dsimp only at hSw); go_simp)
  try simp only [Act.put, List.getElem_toArray, List.getElem_cons_succ, List.getElem_cons_zero, List.setIfInBounds_toArray, List.set_cons_zero, List.set_cons_succ]
  refine wpAnyH_ready (rs := [1]) (by kernel_rfl) (by simp) ?_
  refine AllReadyH.cons rfl (fun K hK => ?_) AllReadyH.nil
  refine step_callTo (by rfl) 7 #[.agg #[.int .i64 W, .int .i64 H, .slice a zl ca, .slice c n cc, .slice mp mn mc, .slice sp sn sc]] (by kernel_rfl) (C7.out _ (bl_drew HW0.out)) ?_
  rintro e w5 ⟨s7, rfl, hb5, h6⟩
  refine ⟨_, rfl, ?_⟩
  have HB5 : Hid (Below W0.heap.size W0 w5) := bl_via (bl_drew (bl_refl _)) hb5
  have H6 : Hid (Calls Tryz.prog 12 #[s7, .agg #[.int .i64 x, .int .i64 y, .int .i64 t]] w5 _) := h6 w5 (bl_refl _)
  clear hb5 h6
  refine hK.out _ _ (HSX.out _ HB5.out) (fun hHd => ?_)
  clear hK K
  try simp only [Act.put, List.getElem_toArray, List.getElem_cons_succ, List.getElem_cons_zero, List.setIfInBounds_toArray, List.set_cons_zero, List.set_cons_succ]
  refine wpAnyH_ready (rs := [3]) (by kernel_rfl) (by simp) ?_
  refine AllReadyH.cons rfl (fun K hK => ?_) AllReadyH.nil
  refine step_callTo (by rfl) 12 #[s7, .agg #[.int .i64 x, .int .i64 y, .int .i64 t]] (by kernel_rfl) H6.out ?_
  rintro e w6 ⟨pa, pl, pc, pb, pm, pd, rfl, hpg, hb6⟩
  refine ⟨_, rfl, ?_⟩
  have HB6 : Hid (Below W0.heap.size W0 w6 ∧ Below w.heap.size w w6) := ⟨bl_via HB5.out hb6, bl_via HW0.out (bl_via HB5.out hb6)⟩
  refine hK.out _ _ (HSX.out _ HB6.out.1) (fun hHd => ?_)
  clear hK K
  try simp only [Act.put, List.getElem_toArray, List.getElem_cons_succ, List.getElem_cons_zero, List.setIfInBounds_toArray, List.set_cons_zero, List.set_cons_succ]
  refine wpAnyH_take (i := 4) (v := .tuple #[.slice pa pl pc, .slice pb pm pd, .int .i64 0]) rfl (by kernel_rfl) (by kernel_rfl) (by kernel_rfl) (fun _ _ _ h => h) (Or.inl ⟨by rfl, ?hyy⟩) (by assumption) ?_
  case hyy => (intro w' hSw; (try dsimp only at hSw); go_simp)
  try simp only [Act.put, List.getElem_toArray, List.getElem_cons_succ, List.getElem_cons_zero, List.setIfInBounds_toArray, List.set_cons_zero, List.set_cons_succ]
  refine wpAnyH_take (i := 5) (v := .slice pa pl pc) rfl (by kernel_rfl) (by kernel_rfl) (by kernel_rfl) (fun _ _ _ h => h) (Or.inl ⟨by rfl, ?hyy⟩) (by assumption) ?_
  case hyy => (intro w' hSw; (try dsimp only at hSw); go_simp)
  try simp only [Act.put, List.getElem_toArray, List.getElem_cons_succ, List.getElem_cons_zero, List.setIfInBounds_toArray, List.set_cons_zero, List.set_cons_succ]
  refine wpAnyH_take (i := 6) (v := .slice pb pm pd) rfl (by kernel_rfl) (by kernel_rfl) (by kernel_rfl) (fun _ _ _ h => h) (Or.inl ⟨by rfl, ?hyy⟩) (by assumption) ?_
  case hyy => (intro w' hSw; (try dsimp only at hSw); go_simp)
  try simp only [Act.put, List.getElem_toArray, List.getElem_cons_succ, List.getElem_cons_zero, List.setIfInBounds_toArray, List.set_cons_zero, List.set_cons_succ]
  refine wpAnyH_take (i := 7) (v := .int .i64 0) rfl (by kernel_rfl) (by kernel_rfl) (by kernel_rfl) (fun _ _ _ h => h) (Or.inl ⟨by rfl, ?hyy⟩) (by assumption) ?_
  case hyy => (intro w' hSw; (try dsimp only at hSw); go_simp)
  try simp only [Act.put, List.getElem_toArray, List.getElem_cons_succ, List.getElem_cons_zero, List.setIfInBounds_toArray, List.set_cons_zero, List.set_cons_succ]
  refine wpAnyH_take (i := 8) (v := .slice pa pl pc) rfl (by kernel_rfl) (by kernel_rfl) (by kernel_rfl) (fun _ _ _ h => h) (Or.inl ⟨by rfl, ?hyy⟩) (by assumption) ?_
  case hyy => (intro w' hSw; (try dsimp only at hSw); go_simp)
  try simp only [Act.put, List.getElem_toArray, List.getElem_cons_succ, List.getElem_cons_zero, List.setIfInBounds_toArray, List.set_cons_zero, List.set_cons_succ]
  refine wpAnyH_take (i := 9) (v := .slice pb pm pd) rfl (by kernel_rfl) (by kernel_rfl) (by kernel_rfl) (fun _ _ _ h => h) (Or.inl ⟨by rfl, ?hyy⟩) (by assumption) ?_
  case hyy => (intro w' hSw; (try dsimp only at hSw); go_simp)
  try simp only [Act.put, List.getElem_toArray, List.getElem_cons_succ, List.getElem_cons_zero, List.setIfInBounds_toArray, List.set_cons_zero, List.set_cons_succ]
  refine wpAnyH_take (i := 10) (v := .int .i64 0) rfl (by kernel_rfl) (by kernel_rfl) (by kernel_rfl) (fun _ _ _ h => h) (Or.inl ⟨by rfl, ?hyy⟩) (by assumption) ?_
  case hyy => (intro w' hSw; (try dsimp only at hSw); go_simp)
  try simp only [Act.put, List.getElem_toArray, List.getElem_cons_succ, List.getElem_cons_zero, List.setIfInBounds_toArray, List.set_cons_zero, List.set_cons_succ]
  refine wpAnyH_done (by kernel_rfl) ?_ _
  obtain ⟨s0, s1, s2, s3, s4, s5, e0, e1, e2⟩ := HSX.out _ HB6.out.1
  have zs : w.heap.size < w6.heap.size := World.block_lt_of_cell? _ _ s0
  have ze : w.heap.size + 1 < w6.heap.size := World.block_lt_of_cell? _ _ e0
  have HPG : Hid (PG w6 pa pl pb pm) := hpg
  clear hb6 hpg
  go_wp2_with (first
    | (go_at_call 8; refine (C8.out _ HB6.out.2).mono ?_; rintro e w7 ⟨rfl, hb7⟩; have HB7 : Hid (Below W0.heap.size W0 w7 ∧ Below w.heap.size w w7 ∧ Below w6.heap.size w6 w7) := ⟨bl_via HB6.out.1 hb7, bl_via HB6.out.2 hb7, hb7⟩; obtain ⟨rs0, rs1, rs2, rs3, rs4, rs5, re0, re1, re2⟩ := HSX.out _ HB7.out.1; have rzs : w.heap.size < w7.heap.size := World.block_lt_of_cell? _ _ rs0; have rze : w.heap.size + 1 < w7.heap.size := World.block_lt_of_cell? _ _ re0; clear hb7)
    | (go_at_call 13; refine (C13.out _).mono ?_; rintro e w8 ⟨rfl, hb8⟩; have HB8 : Hid (Below W0.heap.size W0 w8 ∧ Below w.heap.size w w8 ∧ Below w6.heap.size w6 w8) := ⟨bl_via HB7.out.1 hb8, bl_via HB7.out.2.1 hb8, bl_via HB7.out.2.2 hb8⟩; obtain ⟨qs0, qs1, qs2, qs3, qs4, qs5, qe0, qe1, qe2⟩ := HSX.out _ HB8.out.1; have qzs : w.heap.size < w8.heap.size := World.block_lt_of_cell? _ _ qs0; have qze : w.heap.size + 1 < w8.heap.size := World.block_lt_of_cell? _ _ qe0; clear hb8)
    | (go_at_call 14; refine (C14.out _ HB8.out.2.1).mono ?_; rintro e w9 ⟨qa, ql, qc, qb, qm, qd, rfl, hqg, hb9⟩; have HB9 : Hid (QG w9 qa ql qb qm ∧ PG w9 pa pl pb pm ∧ Below w.heap.size w w9) := ⟨hqg, hPG pa pl pb pm _ _ HPG.out (bl_via HB8.out.2.2 hb9), bl_via HB8.out.2.1 hb9⟩; clear hqg hb9)
    | (go_at_call 15; refine (C15.out _ pa qa pb qb pl ql pm qm pc qc HB9.out.2.1 HB9.out.1).mono ?_; rintro e w10 ⟨rfl, hb10⟩; have HB10 : Hid (QG w10 qa ql qb qm ∧ PG w10 pa pl pb pm ∧ Below w.heap.size w w10) := ⟨hQG qa ql qb qm _ _ HB9.out.1 hb10, hPG pa pl pb pm _ _ HB9.out.2.1 hb10, bl_via HB9.out.2.2 hb10⟩; clear hb10)
    | (go_at_call 10; refine (C10.out _ pa qa pb qb pl ql pm qm pd qd HB10.out.2.1 HB10.out.1).mono ?_; rintro e w11 ⟨rfl, hb11⟩; have HB11 : Hid (Below w.heap.size w w11) := bl_via HB10.out.2.2 hb11; clear hb11)
    | fail)
  go_ret
  exact ⟨rfl, HB11.out⟩
end Go.Proofs.YtmjhfdohcghhoaaGreatDoor
