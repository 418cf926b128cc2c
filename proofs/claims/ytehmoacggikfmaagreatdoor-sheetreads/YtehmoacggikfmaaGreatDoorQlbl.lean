/- A part of the proof of sheetReads_holds. -/
import Derived.Test.YtehmoacggikfmaaGreatDoorQlbk
import Derived.Test.YtehmoacggikfmaaGreatDoorQlba
import Derived.Test.YtehmoacggikfmaaGreatDoorQlax
import Derived.Test.YtehmoacggikfmaaGreatDoorQlap
import Derived.Test.YtehmoacggikfmaaGreatDoorQlac
import Derived.Test.YtehmoacggikfmaaGreatDoorQlaz
import Derived.Test.YtehmoacggikfmaaGreatDoorQlal
import Derived.Test.YtehmoacggikfmaaGreatDoorQlas
namespace Go.Proofs.YtehmoacggikfmaaGreatDoor
open Go.RowKit Go.ChangeMaps

theorem gix_cnt (l : List (Int × Int × Int)) (p q r s : Int) : ∀ n, n ≤ l.length → (gix (l.take n) (p, q, r, s)).length = cnt (l.take n) p q r s
  | 0, _ => by simp [gix, cnt]
  | n + 1, h => by
    have ih := gix_cnt l p q r s n (by omega)
    rw [cnt_next (by omega), List.take_succ_eq_append_getElem (by omega), gix_snoc, List.length_append, ih]
    congr 1
    unfold hasT
    split <;> rfl
theorem gix_count (l : List (Int × Int × Int)) (p q r s : Int) : (gix l (p, q, r, s)).length = cnt l p q r s := by
  have := gix_cnt l p q r s l.length (Nat.le_refl _)
  rwa [List.take_length] at this

set_option maxHeartbeats 1600000 in
theorem inner_any (w : World) (cc ra rk : Nat) (ad : Option Addr) (L : List (Int × Int × Int)) (p q r s : Int) (hPA : PA w ad ra L) :
    Calls Tryz.prog 49 #[.agg #[.slice ad L.length cc, .map (some ra), .map (some rk)], .agg #[.int .i64 p, .int .i64 q, .int .i64 r, .int .i64 s]] w fun e w' => e = .returned (.bool (decide (cnt L p q r s = 2))) ∧ Below w.heap.size w w' := by
  obtain ⟨a, cap, _, hl⟩ := hPA.2 (p, q, r, s)
  have hl2 : (Instr.lookup 36 (.map (some ra)) (.agg #[.int .i64 p, .int .i64 q, .int .i64 r, .int .i64 s]) false).run Tryz.prog ((w.alloc (.cells #[.slice ad L.length cc, .map (some ra), .map (some rk)] 39)).alloc (.cells #[.int .i64 p, .int .i64 q, .int .i64 r, .int .i64 s] 53)) = .ok (.slice a (gix L (p, q, r, s)).length cap) ((w.alloc (.cells #[.slice ad L.length cc, .map (some ra), .map (some rk)] 39)).alloc (.cells #[.int .i64 p, .int .i64 q, .int .i64 r, .int .i64 s] 53)) := hl _ (bl_alloc (bl_alloc (bl_refl _)))
  clear hl
  have HC : Hid ((gix L (p, q, r, s)).length = cnt L p q r s) := gix_count L p q r s
  go_enter Tryz.func49, Tryz.ntmps49
  go_wp2
  go_ret
  refine ⟨ret_bool ?_, bl_alloc (bl_alloc (bl_refl _))⟩
  rw [HC.out, Bool.eq_iff_iff]
  simp
  omega


/-- A paper that is laid out: its triangles, of each edge which have it, of each creased edge its kind; all of it newer than w0. -/
def PK (w0 w : World) (base ra rk : Nat) (vt : Value) (L : List (Int × Int × Int)) (G : Int × Int × Int × Int → List Int) (kd : Int × Int × Int × Int → Option Value) : Prop :=
  w.ownsRow base 87 3 vt L.length (flatV L) ∧ GP w base ra vt G ∧ (∃ ls c, EM w rk ls c ∧ Good ls c ∧ ∀ e, lk ls e = kd e) ∧ (w0.heap.size ≤ ra ∧ ra < base ∧ w0.heap.size ≤ rk ∧ rk < base ∧ ra ≠ rk ∧ base ≤ w.heap.size ∧ w0.heap.size ≤ base) ∧ Below w0.heap.size w0 w
theorem PP.pk {w0 w : World} {base pb ra rk : Nat} {vt : Value} {L : List (Int × Int × Int)} {G : Int × Int × Int × Int → List Int} (h : PP w0 w base pb ra rk vt L G) : PK w0 w base ra rk vt L G (fun _ => none) := by
  obtain ⟨h1, h2, h3, ⟨c, h4, h4g⟩, ⟨a1, a2, a3, a4, a5, a6, a7, a8⟩, h6⟩ := h
  exact ⟨h2, h3, ⟨[], c, h4, h4g, fun e => rfl⟩, ⟨a3, a4, a5, a6, a7, a8, by omega⟩, h6⟩
theorem PK.kept {w0 w w' : World} {base ra rk : Nat} {vt : Value} {L : List (Int × Int × Int)} {G : Int × Int × Int × Int → List Int} {kd : Int × Int × Int × Int → Option Value} (h : PK w0 w base ra rk vt L G kd) (hb : Below w.heap.size w w') : PK w0 w' base ra rk vt L G kd := by
  obtain ⟨h2, h3, ⟨ls, c, h4, h4g, h4k⟩, ⟨a1, a2, a3, a4, a5, a6, a7⟩, h6⟩ := h
  exact ⟨own_below h2 hb, h3.kept hb, ⟨ls, c, h4.grown (bl_grown hb) (by simp), h4g, h4k⟩, ⟨a1, a2, a3, a4, a5, Nat.le_trans a6 hb.size, a7⟩, bl_via h6 hb⟩
theorem PK.base {wf w0 w : World} {base ra rk : Nat} {vt : Value} {L : List (Int × Int × Int)} {G : Int × Int × Int × Int → List Int} {kd : Int × Int × Int × Int → Option Value} (h : PK w0 w base ra rk vt L G kd) (hf : Below wf.heap.size wf w0) : PK wf w base ra rk vt L G kd := by
  obtain ⟨h2, h3, h4, ⟨a1, a2, a3, a4, a5, a6, a7⟩, h6⟩ := h
  have := hf.size
  exact ⟨h2, h3, h4, ⟨by omega, a2, by omega, a4, a5, a6, by omega⟩, bl_via hf h6⟩
theorem PK.pa {w0 w : World} {base ra rk cc : Nat} {ad : Option Addr} {L : List (Int × Int × Int)} {kd : Int × Int × Int × Int → Option Value} (h : PK w0 w base ra rk (.slice ad L.length cc) L (gix L) kd) : PA w ad ra L := by
  obtain ⟨h2, ⟨ls, c, b1, b2, b3, b4, b5⟩, h4⟩ := h
  refine ⟨?_, fun e => ?_⟩
  · obtain ⟨a, cap, e, hT⟩ := own_tris h2
    simp only [Value.slice.injEq] at e
    rw [e.1]
    exact hT
  · cases hl : lk ls e with
    | none =>
      refine ⟨none, 0, by rw [b3 e hl]; intro i hi; simp at hi, fun wx hb => ?_⟩
      have := lookup27 Tryz.underlying36 zero70 (b1.grown (bl_grown hb) (by simp)) b2 e
      rw [hl] at this
      rw [b3 e hl]
      exact this
    | some v =>
      obtain ⟨d1, d2, d3⟩ := b4 e v hl
      obtain ⟨b, off, cap, hv, hr⟩ : ∃ b off cap, v = .slice (some ⟨b, off, none⟩) (gix L e).length cap ∧ Row w (some ⟨b, off, none⟩) (gix L e) := by
        rcases d1.2 with ⟨rfl, h0⟩ | ⟨g, cap, cur, rfl, _⟩
        · exact absurd (List.length_eq_zero_iff.1 h0) d2
        · refine ⟨g, 0, cap, rfl, fun i hi => ⟨g, 0, rfl, ?_⟩⟩
          have := d1.cellAt i (by omega)
          rw [Nat.zero_add, this]
          simp [hi]
      refine ⟨some ⟨b, off, none⟩, cap, hr, fun wx hb => ?_⟩
      have := lookup27 Tryz.underlying36 zero70 (b1.grown (bl_grown hb) (by simp)) b2 e
      rw [hl, hv] at this
      exact this
/-- A block that is not the paper's is written. -/
theorem PK.grown {w0 w w' : World} {base ra rk r : Nat} {vt : Value} {L : List (Int × Int × Int)} {G : Int × Int × Int × Int → List Int} {kd : Int × Int × Int × Int → Option Value} (h : PK w0 w base ra rk vt L G kd) (hg : w.grownBy w' (some r)) (hr : w0.heap.size ≤ r) (h1 : r ≠ ra) (h2 : r ≠ rk) (h3 : r < base) : PK w0 w' base ra rk vt L G kd := by
  obtain ⟨q2, ⟨ls, cl, b1, b2, b3, b4, b5⟩, ⟨lsk, c, q4, q4g, q4k⟩, ⟨a1, a2, a3, a4, a5, a6, a7⟩, q6⟩ := h
  have hn : ∀ {v : Value} {n : Nat} {e : TypeId} {s : Nat} {xs : List Value}, w.ownsRow base e s v n xs → v.ownBlock = none ∨ v.ownBlock ≠ some r := fun {v n e s xs} ho => by
    cases hu : v.ownBlock with
    | none => exact Or.inl rfl
    | some g =>
      refine Or.inr (fun e1 => ?_)
      have := (ho.lt g hu).1
      simp at e1
      omega
  refine ⟨q2.kept hg (hn q2), ⟨ls, cl, b1.grown hg (fun e => h1 (by simpa using e.symm)), b2, b3, fun e v he => ?_, b5⟩, ⟨lsk, c, q4.grown hg (fun e => h2 (by simpa using e.symm)), q4g, q4k⟩, ⟨a1, a2, a3, a4, a5, Nat.le_trans a6 hg.size, a7⟩, q6.grown hg q6.size (fun k hk => by simp at hk; omega)⟩
  obtain ⟨d1, d2, d3⟩ := b4 e v he
  exact ⟨d1.kept hg (hn d1), d2, d3⟩
/-- A crease's kind is put down. -/
theorem PK.update {w0 w : World} {base ra rk : Nat} {vt : Value} {L : List (Int × Int × Int)} {G : Int × Int × Int × Int → List Int} {kd : Int × Int × Int × Int → Option Value} (h : PK w0 w base ra rk vt L G kd) (e : Int × Int × Int × Int) (v : Value) :
    ∃ W', (Instr.mapUpdate 37 (.map (some rk)) (ek e) v).run Tryz.prog w = .ok () W' ∧ w.grownBy W' (some rk) ∧ PK w0 W' base ra rk vt L G (fun j => if j = e then some v else kd j) := by
  obtain ⟨q2, ⟨ls, cl, b1, b2, b3, b4, b5⟩, ⟨lsk, c, q4, q4g, q4k⟩, ⟨a1, a2, a3, a4, a5, a6, a7⟩, q6⟩ := h
  obtain ⟨ls', c', r1, r2, r3, _⟩ := update27 Tryz.underlying37 q4 q4g e v
  have hb := q4
  unfold EM at hb
  have hg := grown_set hb (.map (ls'.map toE).toArray c')
  have hn : ∀ {v : Value} {n : Nat} {e : TypeId} {s : Nat} {xs : List Value}, w.ownsRow base e s v n xs → v.ownBlock = none ∨ v.ownBlock ≠ some rk := fun {v n e s xs} ho => by
    cases hu : v.ownBlock with
    | none => exact Or.inl rfl
    | some g =>
      refine Or.inr (fun e1 => ?_)
      have := (ho.lt g hu).1
      simp at e1
      omega
  refine ⟨_, r1, hg, q2.kept hg (hn q2), ⟨ls, cl, b1.grown hg (fun e => a5 (by simpa using e)), b2, b3, fun e v he => ?_, b5⟩, ⟨ls', c', heap_setBlock_same hb _, r2, fun j => by rw [r3 j, q4k j]⟩, ⟨a1, a2, a3, a4, a5, Nat.le_trans a6 hg.size, a7⟩, q6.grown hg q6.size (fun k hk => by simp at hk; omega)⟩
  obtain ⟨d1, d2, d3⟩ := b4 e v he
  exact ⟨d1.kept hg (hn d1), d2, d3⟩

/-- The kinds of the first n creases, by their edges. -/
def kf (ks : List Int) : Nat → Int × Int × Int × Int → Option Value
  | 0, _ => none
  | i + 1, e => if e = (ck ks i 0, ck ks i 1, ck ks i 2, ck ks i 3) then some (.int .i64 (ck ks i 4)) else kf ks i e


/-- The kinds of the first n creases, by their edges; 0: none. -/
def kdn (ks : List Int) : Nat → Int × Int × Int × Int → Int
  | 0, _ => 0
  | i + 1, e => if e = (ck ks i 0, ck ks i 1, ck ks i 2, ck ks i 3) then ck ks i 4 else kdn ks i e
theorem kf_kdn (ks : List Int) (e : Int × Int × Int × Int) : ∀ n, (kf ks n e).getD (.int .i64 0) = .int .i64 (kdn ks n e)
  | 0 => rfl
  | i + 1 => by
    unfold kf kdn
    split
    · rfl
    · exact kf_kdn ks e i
/-- What is asked of the map of kinds. -/
def KL (w : World) (rk : Nat) (kd : Int × Int × Int × Int → Int) : Prop := ∀ (e : Int × Int × Int × Int) (wx : World), Below w.heap.size w wx → (Instr.lookup 37 (.map (some rk)) (ek e) false).run Tryz.prog wx = .ok (.int .i64 (kd e)) wx
theorem KL.kept {w w' : World} {rk : Nat} {kd : Int × Int × Int × Int → Int} (h : KL w rk kd) (hb : Below w.heap.size w w') : KL w' rk kd := fun e wx hx => h e wx (bl_via hb hx)
theorem zero3 (w : World) : (zeroValue 3).run Tryz.prog w = .ok (.int .i64 0) w := by kernel_rfl
theorem PK.kl {w0 w : World} {base ra rk n : Nat} {vt : Value} {L : List (Int × Int × Int)} {G : Int × Int × Int × Int → List Int} {ks : List Int} (h : PK w0 w base ra rk vt L G (kf ks n)) : KL w rk (kdn ks n) := fun e wx hx => by
  obtain ⟨ls, c, h4, h4g, h4k⟩ := h.2.2.1
  have := lookup27 Tryz.underlying37 zero3 (h4.grown (bl_grown hx) (by simp)) h4g e
  rw [h4k e, kf_kdn] at this
  exact this

theorem ret_agg2 {a b a' b' : Int} (h1 : a = a') (h2 : b = b') : Ending.returned (.agg #[.int .i64 a, .int .i64 b]) = .returned (.agg #[.int .i64 a', .int .i64 b']) := by subst h1 h2; rfl
/-- A map as the code has it. -/
def mv (m : M6) : Value := .agg #[.int .i64 m.1, .int .i64 m.2.1, .int .i64 m.2.2.1, .int .i64 m.2.2.2.1, .int .i64 m.2.2.2.2.1, .int .i64 m.2.2.2.2.2]
theorem six_cases {o : Nat} (h : o < 6) : o = 0 ∨ o = 1 ∨ o = 2 ∨ o = 3 ∨ o = 4 ∨ o = 5 := by omega

/-- No two of the first n creases are on one edge. -/
def CrOne (ks : List Int) (n : Nat) : Prop := ∀ i j, i < j → j < n → (ck ks i 0, ck ks i 1, ck ks i 2, ck ks i 3) ≠ (ck ks j 0, ck ks j 1, ck ks j 2, ck ks j 3)
theorem kdn_not {ks : List Int} {e : Int × Int × Int × Int} : ∀ {n : Nat}, (∀ i, i < n → e ≠ (ck ks i 0, ck ks i 1, ck ks i 2, ck ks i 3)) → kdn ks n e = 0
  | 0, _ => rfl
  | n + 1, h => by
    unfold kdn
    rw [if_neg (h n (by omega))]
    exact kdn_not (fun i hi => h i (by omega))
theorem kdn_at {ks : List Int} {e : Int × Int × Int × Int} {i : Nat} : ∀ {n : Nat}, CrOne ks n → i < n → e = (ck ks i 0, ck ks i 1, ck ks i 2, ck ks i 3) → kdn ks n e = ck ks i 4
  | 0, _, h, _ => by omega
  | n + 1, hc, h, he => by
    unfold kdn
    by_cases hi : i = n
    · subst hi
      rw [if_pos he]
    · rw [if_neg (fun e2 => hc i n (by omega) (by omega) (he.symm.trans e2))]
      exact kdn_at (fun a b hab hb => hc a b hab (by omega)) (by omega) he
theorem CRow.kept2 {w w' : World} {cb : Option Addr} {ks : List Int} {n : Nat} (h : CRow w cb ks n) (hb : Below w.heap.size w w') : CRow w' cb ks n := h.kept hb

set_option maxRecDepth 100000 in
set_option maxHeartbeats 3200000 in
theorem kindOf_any (w : World) (W H : Value) (mk : Value) (cb : Option Addr) (n ccap : Nat) (ks : List Int) (p q r s : Int) (hC : CRow w cb ks n) (h1 : CrOne ks n) (hn : n ≤ 3518437208883) :
    Calls Tryz.prog 37 #[.agg #[W, H, mk, .slice cb n ccap], .agg #[.int .i64 p, .int .i64 q, .int .i64 r, .int .i64 s]] w fun e w' => e = .returned (.int .i64 (kdn ks n (p, q, r, s))) ∧ Below w.heap.size w w' := by
  have HC : Hid (CRow w cb ks n) := hC
  have H1 : Hid (CrOne ks n) := h1
  have he := eql27
  clear hC h1
  go_enter Tryz.func37, Tryz.ntmps37
  go_wp2
  go_loopg [5] n (fun gk s5 wx => ∃ i : Nat, i ≤ n ∧ gk = n - i ∧ s5 = .int .i64 (i : Int) ∧ (∀ k, k < i → (p, q, r, s) ≠ (ck ks k 0, ck ks k 1, ck ks k 2, ck ks k 3)) ∧ Below w.heap.size w wx ∧ (wx.cell? ⟨w.heap.size, 3, none⟩ = some (.slice cb n ccap) ∧ wx.cell? ⟨w.heap.size + 1, 0, none⟩ = some (.int .i64 p) ∧ wx.cell? ⟨w.heap.size + 1, 1, none⟩ = some (.int .i64 q) ∧ wx.cell? ⟨w.heap.size + 1, 2, none⟩ = some (.int .i64 r) ∧ wx.cell? ⟨w.heap.size + 1, 3, none⟩ = some (.int .i64 s)))
  case atStart => exact ⟨0, by omega, rfl, rfl, fun k h => by omega, bl_alloc (bl_alloc (bl_refl _)), by simp [go_sem]⟩
  case round =>
    obtain ⟨i, hi, rfl, rfl, hno, hB, p3, d0, d1, d2, d3⟩ := hrel
    have HB : Hid (Below w.heap.size w wr ∧ ∀ k, k < i → (p, q, r, s) ≠ (ck ks k 0, ck ks k 1, ck ks k 2, ck ks k 3)) := ⟨hB, hno⟩
    clear hB hno
    have z0 : w.heap.size < wr.heap.size := World.block_lt_of_cell? _ _ p3
    have z1 : w.heap.size + 1 < wr.heap.size := World.block_lt_of_cell? _ _ d0
    by_cases h1 : i < n
    · have i1 : (i : Int) < (n : Int) := by omega
      have i0 : (0 : Int) ≤ (i : Int) := by omega
      obtain ⟨bb, bo, rfl, c0, c1, c2, c3, c4⟩ := (HC.out.kept HB.out.1) i h1
      have zb : bb < wr.heap.size := World.block_lt_of_cell? _ _ c0
      obtain ⟨a0, ha0⟩ : ∃ a, a = ck ks i 0 := ⟨_, rfl⟩
      obtain ⟨a1, ha1⟩ : ∃ a, a = ck ks i 1 := ⟨_, rfl⟩
      obtain ⟨a2, ha2⟩ : ∃ a, a = ck ks i 2 := ⟨_, rfl⟩
      obtain ⟨a3, ha3⟩ : ∃ a, a = ck ks i 3 := ⟨_, rfl⟩
      obtain ⟨a4, ha4⟩ : ∃ a, a = ck ks i 4 := ⟨_, rfl⟩
      rw [← ha0] at c0
      rw [← ha1] at c1
      rw [← ha2] at c2
      rw [← ha3] at c3
      rw [← ha4] at c4
      have HA : Hid ((a0, a1, a2, a3) = (ck ks i 0, ck ks i 1, ck ks i 2, ck ks i 3) ∧ a4 = ck ks i 4) := ⟨by rw [ha0, ha1, ha2, ha3], ha4⟩
      clear ha0 ha1 ha2 ha3 ha4
      cases hs : sameB a0 a1 a2 a3 p q r s
      · have hne : Hid ((p, q, r, s) ≠ (ck ks i 0, ck ks i 1, ck ks i 2, ck ks i 3)) := by
          have : (p, q, r, s) ≠ (ck ks i 0, ck ks i 1, ck ks i 2, ck ks i 3) := by
            rw [← HA.out.1]
            intro e
            simp only [Prod.mk.injEq] at e
            obtain ⟨rfl, rfl, rfl, rfl⟩ := e
            simp [sameB] at hs
          exact this
        go_wp2
        go_quiet (fail)
        go_wp2
        go_roundg (n - (i + 1))
        case measure => omega
        case rel =>
          refine ⟨i + 1, by omega, rfl, by go_num, fun k hk => ?_, bl_drewN HB.out.1, p3, d0, d1, d2, d3⟩
          by_cases e : k = i
          · subst e
            exact hne.out
          · exact HB.out.2 k (by omega)
      · have heq : Hid ((p, q, r, s) = (ck ks i 0, ck ks i 1, ck ks i 2, ck ks i 3)) := by
          have : (p, q, r, s) = (ck ks i 0, ck ks i 1, ck ks i 2, ck ks i 3) := by
            rw [← HA.out.1]
            simp only [sameB, decide_eq_true_eq] at hs
            obtain ⟨rfl, rfl, rfl, rfl⟩ := hs
            rfl
          exact this
        go_wp2
        go_quiet (fail)
        generalize hwd : World.drewN wr _ = wd
        have p3d : wd.cell? ⟨w.heap.size, 3, none⟩ = some (.slice (some ⟨bb, bo, none⟩) n ccap) := by rw [← hwd]; exact p3
        have c4d : wd.cell? ⟨bb, bo + i * 5 + 4, none⟩ = some (.int .i64 a4) := by rw [← hwd]; exact c4
        have HBd : Hid (Below w.heap.size w wd) := by rw [← hwd]; exact bl_drewN HB.out.1
        clear hwd p3 c0 c1 c2 c3 c4 d0 d1 d2 d3
        go_wp2
        go_ret
        refine ⟨?_, HBd.out⟩
        rw [kdn_at H1.out h1 heq.out, HA.out.2]
        rfl
    · have i1 : ¬ (i : Int) < (n : Int) := by omega
      obtain rfl : i = n := by omega
      go_wp2
      go_ret
      refine ⟨?_, HB.out.1⟩
      rw [kdn_not HB.out.2]
      rfl

/-- The line of an edge: the first way along which its ends are alike. -/
theorem line_along {t : Int × Int × Int} {p q r s : Int} (h : hasT t (p, q, r, s) = true) (hb : (0 ≤ t.1 ∧ t.1 ≤ 8) ∧ (0 ≤ t.2.1 ∧ t.2.1 ≤ 8) ∧ (0 ≤ t.2.2 ∧ t.2.2 ≤ 3)) :
    ∃ V : Nat, V ≤ 3 ∧ lnW (p, q, r, s) = (V : Int) ∧ lnC (p, q, r, s) = alongOf (V : Int) p q ∧ alongOf (V : Int) p q = alongOf (V : Int) r s ∧ ∀ v : Nat, v < V → alongOf (v : Int) p q ≠ alongOf (v : Int) r s := by
  obtain ⟨x, y, k⟩ := t
  simp only [hasT] at h hb
  rw [hasB_or] at h
  obtain ⟨hx, hy, hk⟩ := hb
  have hk4 : k = 0 ∨ k = 1 ∨ k = 2 ∨ k = 3 := by omega
  have key : p ≠ r → q ≠ s → (s < q → p + q = r + s) ∧ (¬ s < q → p - q = r - s ∧ p + q ≠ r + s) := by
    rcases hk4 with rfl | rfl | rfl | rfl <;> simp only [e0_0, e0_1, e0_2, e0_3, e1_0, e1_1, e1_2, e1_3, e2_0, e2_1, e2_2, e2_3] at h <;> omega
  clear h hk4 hx hy hk
  by_cases c1 : p = r
  · exact ⟨0, by omega, by simp [lnW, c1], by simp [lnC, c1, alongOf], by simp [alongOf, c1], fun v hv => by omega⟩
  · by_cases c2 : q = s
    · refine ⟨1, by omega, by simp [lnW, c1, c2], by simp [lnC, c1, c2, alongOf], by simp [alongOf, c2], fun v hv => ?_⟩
      obtain rfl : v = 0 := by omega
      simpa [alongOf] using c1
    · obtain ⟨k1, k2⟩ := key c1 c2
      by_cases c3 : s < q
      · refine ⟨2, by omega, by simp [lnW, c1, c2, c3], by simp [lnC, c1, c2, c3, alongOf], by simp [alongOf]; exact k1 c3, fun v hv => ?_⟩
        have : v = 0 ∨ v = 1 := by omega
        rcases this with rfl | rfl
        · simpa [alongOf] using c1
        · simpa [alongOf] using c2
      · obtain ⟨k3, k4⟩ := k2 c3
        refine ⟨3, by omega, by simp [lnW, c1, c2, c3], by simp [lnC, c1, c2, c3, alongOf], by simp [alongOf]; exact k3, fun v hv => ?_⟩
        have : v = 0 ∨ v = 1 ∨ v = 2 := by omega
        rcases this with rfl | rfl | rfl
        · simpa [alongOf] using c1
        · simpa [alongOf] using c2
        · simpa [alongOf] using k4

end Go.Proofs.YtehmoacggikfmaaGreatDoor
namespace Go.Proofs.YtehmoacggikfmaaGreatDoor
open Go.RowKit

theorem neqC (a b c d e : Int) (w : World) : (binOp .neq 55 (.agg #[.int .i64 a, .int .i64 b, .int .i64 c, .int .i64 d, .int .i64 e]) (.agg #[.int .i64 a, .int .i64 b, .int .i64 c, .int .i64 d, .int .i64 e])).run Tryz.prog w = .ok (.bool false) w := by
  simp [go_sem]
end Go.Proofs.YtehmoacggikfmaaGreatDoor
namespace Go.Proofs.YtehmoacggikfmaaGreatDoor
open Go.RowKit Go.ChangeMaps

/-- Are two maps one? -/
def sameM (a b c d e f A B C D E F : Int) : Bool := decide (a = A ∧ b = B ∧ c = C ∧ d = D ∧ e = E ∧ f = F)
/-- Maps in a row of memory that may be written. -/
def MCell (w : World) (g i : Nat) (m : M6) : Prop := w.cell? ⟨g, i * 6, none⟩ = some (.int .i64 m.1) ∧ w.cell? ⟨g, i * 6 + 1, none⟩ = some (.int .i64 m.2.1) ∧ w.cell? ⟨g, i * 6 + 2, none⟩ = some (.int .i64 m.2.2.1) ∧ w.cell? ⟨g, i * 6 + 3, none⟩ = some (.int .i64 m.2.2.2.1) ∧ w.cell? ⟨g, i * 6 + 4, none⟩ = some (.int .i64 m.2.2.2.2.1) ∧ w.cell? ⟨g, i * 6 + 5, none⟩ = some (.int .i64 m.2.2.2.2.2)
def MFree (w : World) (g i : Nat) : Prop := w.frozen? ⟨g, i * 6, none⟩ = false ∧ w.frozen? ⟨g, i * 6 + 1, none⟩ = false ∧ w.frozen? ⟨g, i * 6 + 2, none⟩ = false ∧ w.frozen? ⟨g, i * 6 + 3, none⟩ = false ∧ w.frozen? ⟨g, i * 6 + 4, none⟩ = false ∧ w.frozen? ⟨g, i * 6 + 5, none⟩ = false
def MRow (w : World) (g n : Nat) (M : Nat → M6) : Prop := ∀ i, i < n → MCell w g i (M i) ∧ MFree w g i
theorem MRow.grown {w w' : World} {g n : Nat} {M : Nat → M6} {row : Option Nat} (h : MRow w g n M) (hg : w.grownBy w' row) (hne : some g ≠ row) : MRow w' g n M := fun i hi => by
  obtain ⟨⟨a0, a1, a2, a3, a4, a5⟩, f0, f1, f2, f3, f4, f5⟩ := h i hi
  have q : ∀ o, w'.frozen? ⟨g, o, none⟩ = w.frozen? ⟨g, o, none⟩ := fun o => World.frozen?_of_block (a := ⟨g, o, none⟩) (hg.block g (World.block_lt_of_cell? _ _ a0) hne)
  exact ⟨⟨hg.cell a0 hne, hg.cell a1 hne, hg.cell a2 hne, hg.cell a3 hne, hg.cell a4 hne, hg.cell a5 hne⟩, (q _).trans f0, (q _).trans f1, (q _).trans f2, (q _).trans f3, (q _).trans f4, (q _).trans f5⟩
theorem MRow.kept {w w' : World} {g n : Nat} {M : Nat → M6} (h : MRow w g n M) (hb : Below w.heap.size w w') : MRow w' g n M := h.grown (bl_grown hb) (by simp)
/-- A map is written. -/
def set6 (w : World) (g j : Nat) (m : M6) : World := (((((w.setCell ⟨g, j * 6, none⟩ (.int .i64 m.1)).setCell ⟨g, j * 6 + 1, none⟩ (.int .i64 m.2.1)).setCell ⟨g, j * 6 + 2, none⟩ (.int .i64 m.2.2.1)).setCell ⟨g, j * 6 + 3, none⟩ (.int .i64 m.2.2.2.1)).setCell ⟨g, j * 6 + 4, none⟩ (.int .i64 m.2.2.2.2.1)).setCell ⟨g, j * 6 + 5, none⟩ (.int .i64 m.2.2.2.2.2)
theorem st_same {w : World} {g k : Nat} {u v : Value} (h : w.cell? ⟨g, k, none⟩ = some u) : (w.setCell ⟨g, k, none⟩ v).cell? ⟨g, k, none⟩ = some v := World.cell?_setCell_same _ _ _ h
theorem st_else {w : World} {g k k' : Nat} {u v : Value} (h : w.cell? ⟨g, k, none⟩ = some u) (hne : k ≠ k') : (w.setCell ⟨g, k', none⟩ v).cell? ⟨g, k, none⟩ = some u := by
  rw [World.cell?_setCell_other _ _ _ _ (by simp <;> omega)]
  exact h
theorem MRow.set6 {w : World} {g n j : Nat} {M : Nat → M6} (h : MRow w g n M) (hj : j < n) (m : M6) : MRow (set6 w g j m) g n (fun q => if q = j then m else M q) := fun i hi => by
  obtain ⟨⟨a0, a1, a2, a3, a4, a5⟩, hf⟩ := h i hi
  refine ⟨?_, by simpa only [MFree, YtehmoacggikfmaaGreatDoor.set6, World.frozen?_setCell] using hf⟩
  by_cases e : i = j
  · subst e
    simp only [if_true]
    unfold YtehmoacggikfmaaGreatDoor.set6
    refine ⟨?_, ?_, ?_, ?_, ?_, ?_⟩
    · exact st_else (st_else (st_else (st_else (st_else (st_same a0) (by omega)) (by omega)) (by omega)) (by omega)) (by omega)
    · exact st_else (st_else (st_else (st_else (st_same (st_else a1 (by omega))) (by omega)) (by omega)) (by omega)) (by omega)
    · exact st_else (st_else (st_else (st_same (st_else (st_else a2 (by omega)) (by omega))) (by omega)) (by omega)) (by omega)
    · exact st_else (st_else (st_same (st_else (st_else (st_else a3 (by omega)) (by omega)) (by omega))) (by omega)) (by omega)
    · exact st_else (st_same (st_else (st_else (st_else (st_else a4 (by omega)) (by omega)) (by omega)) (by omega))) (by omega)
    · exact st_same (st_else (st_else (st_else (st_else (st_else a5 (by omega)) (by omega)) (by omega)) (by omega)) (by omega))
  · simp only [if_neg e]
    unfold YtehmoacggikfmaaGreatDoor.set6
    have q : ∀ {o : Nat} {u : Value}, w.cell? ⟨g, i * 6 + o, none⟩ = some u → o < 6 → ((((((w.setCell ⟨g, j * 6, none⟩ (.int .i64 m.1)).setCell ⟨g, j * 6 + 1, none⟩ (.int .i64 m.2.1)).setCell ⟨g, j * 6 + 2, none⟩ (.int .i64 m.2.2.1)).setCell ⟨g, j * 6 + 3, none⟩ (.int .i64 m.2.2.2.1)).setCell ⟨g, j * 6 + 4, none⟩ (.int .i64 m.2.2.2.2.1)).setCell ⟨g, j * 6 + 5, none⟩ (.int .i64 m.2.2.2.2.2)).cell? ⟨g, i * 6 + o, none⟩ = some u := fun {o u} hu ho =>
      st_else (st_else (st_else (st_else (st_else (st_else hu (by omega)) (by omega)) (by omega)) (by omega)) (by omega)) (by omega)
    exact ⟨q (o := 0) a0 (by omega), q a1 (by omega), q a2 (by omega), q a3 (by omega), q a4 (by omega), q a5 (by omega)⟩
theorem set6_grown (w : World) (g j : Nat) (m : M6) : w.grownBy (set6 w g j m) (some g) := gb_then (gb_then (gb_then (gb_then (gb_then (grown_cell _ _ _ _) (grown_cell _ _ _ _)) (grown_cell _ _ _ _)) (grown_cell _ _ _ _)) (grown_cell _ _ _ _)) (grown_cell _ _ _ _)
theorem made_zero (n k : Nat) (hk : k < n * 6) : (madeCells #[.int .i64 0, .int .i64 0, .int .i64 0, .int .i64 0, .int .i64 0, .int .i64 0] (n * 6)).toList[k]? = some (.int .i64 0) := by
  rw [Array.getElem?_toList]
  unfold madeCells
  have h6 : k % 6 = 0 ∨ k % 6 = 1 ∨ k % 6 = 2 ∨ k % 6 = 3 ∨ k % 6 = 4 ∨ k % 6 = 5 := by omega
  rcases h6 with h | h | h | h | h | h <;> simp [hk, h]
end Go.Proofs.YtehmoacggikfmaaGreatDoor
namespace Go.Proofs.YtehmoacggikfmaaGreatDoor
open Go.RowKit

/-- Stacks in a row of memory. -/
def SRow (w : World) (a : Option Addr) (S : List ((Int × Int × Int) × List (Int × Int × Int))) : Prop :=
  ∀ i (h : i < S.length), ∃ g sa sc, a = some ⟨g, 0, none⟩ ∧ w.cell? ⟨g, i * 4, none⟩ = some (.int .i64 S[i].1.1) ∧ w.cell? ⟨g, i * 4 + 1, none⟩ = some (.int .i64 S[i].1.2.1) ∧ w.cell? ⟨g, i * 4 + 2, none⟩ = some (.int .i64 S[i].1.2.2) ∧ w.cell? ⟨g, i * 4 + 3, none⟩ = some (.slice sa S[i].2.length sc) ∧ TRow w sa S[i].2
theorem SRow.kept {w w' : World} {a : Option Addr} {S : List ((Int × Int × Int) × List (Int × Int × Int))} (h : SRow w a S) (hb : Below w.heap.size w w') : SRow w' a S := fun i hi => by
  obtain ⟨g, sa, sc, e, c0, c1, c2, c3, ht⟩ := h i hi
  exact ⟨g, sa, sc, e, cl_kept hb c0, cl_kept hb c1, cl_kept hb c2, cl_kept hb c3, ht.kept hb⟩
theorem neqT_same (a b c : Int) (w : World) : (binOp .neq 87 (.agg #[.int .i64 a, .int .i64 b, .int .i64 c]) (.agg #[.int .i64 a, .int .i64 b, .int .i64 c])).run Tryz.prog w = .ok (.bool false) w := by
  simp [go_sem]
end Go.Proofs.YtehmoacggikfmaaGreatDoor
