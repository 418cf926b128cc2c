import Derived.Test.YtoedcefbmbfnhabDoorPkal
import Derived.Test.YtoedcefbmbfnhabDoorPkai
import Derived.Test.YtoedcefbmbfnhabDoorPkae
/- A sheet that may be is laid out; one that may not be is not. -/
namespace Go.Proofs.YtoedcefbmbfnhabDoor
open Go.RowKit Go.ChangeMaps

/-- A paper that is laid out: its triangles, of each edge which have it, of each creased edge its kind; all of it newer than w0. -/
def PK (w0 w : World) (base ra rk : Nat) (vt : Value) (L : List (Int × Int × Int)) (G : Int × Int × Int × Int → List Int) (kd : Int × Int × Int × Int → Option Value) : Prop :=
  w.ownsRow base 79 3 vt L.length (flatV L) ∧ GP w base ra vt G ∧ (∃ ls c, EM w rk ls c ∧ Good ls c ∧ ∀ e, lk ls e = kd e) ∧ (w0.heap.size ≤ ra ∧ ra < base ∧ w0.heap.size ≤ rk ∧ rk < base ∧ ra ≠ rk ∧ base ≤ w.heap.size ∧ w0.heap.size ≤ base) ∧ Below w0.heap.size w0 w
theorem PP.pk {w0 w : World} {base pb ra rk : Nat} {vt : Value} {L : List (Int × Int × Int)} {G : Int × Int × Int × Int → List Int} (h : PP w0 w base pb ra rk vt L G) : PK w0 w base ra rk vt L G (fun _ => none) := by
  obtain ⟨h1, h2, h3, ⟨c, h4, h4g⟩, ⟨a1, a2, a3, a4, a5, a6, a7, a8⟩, h6⟩ := h
  exact ⟨h2, h3, ⟨[], c, h4, h4g, fun e => rfl⟩, ⟨a3, a4, a5, a6, a7, a8, by omega⟩, h6⟩
theorem PK.kept {w0 w w' : World} {base ra rk : Nat} {vt : Value} {L : List (Int × Int × Int)} {G : Int × Int × Int × Int → List Int} {kd : Int × Int × Int × Int → Option Value} (h : PK w0 w base ra rk vt L G kd) (hb : Below w.heap.size w w') : PK w0 w' base ra rk vt L G kd := by
  obtain ⟨h2, h3, ⟨ls, c, h4, h4g, h4k⟩, ⟨a1, a2, a3, a4, a5, a6, a7⟩, h6⟩ := h
  exact ⟨own_below h2 hb, h3.kept hb, ⟨ls, c, h4.grown (bl_grown hb) (by simp), h4g, h4k⟩, ⟨a1, a2, a3, a4, a5, Nat.le_trans a6 hb.size, a7⟩, bl_via h6 hb⟩
theorem PK.base {wf w0 w : World} {base ra rk : Nat} {vt : Value} {L : List (Int × Int × Int)} {G : Int × Int × Int × Int → List Int} {kd : Int × Int × Int × Int → Option Value} (h : PK w0 w base ra rk vt L G kd) (hf : Below wf.heap.size wf w0) : PK wf w base ra rk vt L G kd := by
  obtain ⟨h2, h3, h4, ⟨a1, a2, a3, a4, a5, a6, a7⟩, h6⟩ := h
  have := hf.size
  exact ⟨h2, h3, h4, ⟨by omega, a2, by omega, a4, a5, a6, by omega⟩, bl_via hf h6⟩
theorem PK.pa {w0 w : World} {base ra rk cc : Nat} {ad : Option Addr} {L : List (Int × Int × Int)} {kd : Int × Int × Int × Int → Option Value} (h : PK w0 w base ra rk (.slice ad L.length cc) L (gix L) kd) : PA w ad ra L := by
  obtain ⟨h2, ⟨ls, c, b1, b2, b3, b4, b5⟩, h4⟩ := h
  refine ⟨?_, fun e => ?_⟩
  · obtain ⟨a, cap, e, hT⟩ := own_tris h2
    simp only [Value.slice.injEq] at e
    rw [e.1]
    exact hT
  · cases hl : lk ls e with
    | none =>
      refine ⟨none, 0, by rw [b3 e hl]; intro i hi; simp at hi, fun wx hb => ?_⟩
      have := lookup27 Tryd.underlying60 zero70 (b1.grown (bl_grown hb) (by simp)) b2 e
      rw [hl] at this
      rw [b3 e hl]
      exact this
    | some v =>
      obtain ⟨d1, d2, d3⟩ := b4 e v hl
      obtain ⟨b, off, cap, hv, hr⟩ : ∃ b off cap, v = .slice (some ⟨b, off, none⟩) (gix L e).length cap ∧ Row w (some ⟨b, off, none⟩) (gix L e) := by
        rcases d1.2 with ⟨rfl, h0⟩ | ⟨g, cap, cur, rfl, _⟩
        · exact absurd (List.length_eq_zero_iff.1 h0) d2
        · refine ⟨g, 0, cap, rfl, fun i hi => ⟨g, 0, rfl, ?_⟩⟩
          have := d1.cellAt i (by omega)
          rw [Nat.zero_add, this]
          simp [hi]
      refine ⟨some ⟨b, off, none⟩, cap, hr, fun wx hb => ?_⟩
      have := lookup27 Tryd.underlying60 zero70 (b1.grown (bl_grown hb) (by simp)) b2 e
      rw [hl, hv] at this
      exact this
/-- A block that is not the paper's is written. -/
theorem PK.grown {w0 w w' : World} {base ra rk r : Nat} {vt : Value} {L : List (Int × Int × Int)} {G : Int × Int × Int × Int → List Int} {kd : Int × Int × Int × Int → Option Value} (h : PK w0 w base ra rk vt L G kd) (hg : w.grownBy w' (some r)) (hr : w0.heap.size ≤ r) (h1 : r ≠ ra) (h2 : r ≠ rk) (h3 : r < base) : PK w0 w' base ra rk vt L G kd := by
  obtain ⟨q2, ⟨ls, cl, b1, b2, b3, b4, b5⟩, ⟨lsk, c, q4, q4g, q4k⟩, ⟨a1, a2, a3, a4, a5, a6, a7⟩, q6⟩ := h
  have hn : ∀ {v : Value} {n : Nat} {e : TypeId} {s : Nat} {xs : List Value}, w.ownsRow base e s v n xs → v.ownBlock = none ∨ v.ownBlock ≠ some r := fun {v n e s xs} ho => by
    cases hu : v.ownBlock with
    | none => exact Or.inl rfl
    | some g =>
      refine Or.inr (fun e1 => ?_)
      have := (ho.lt g hu).1
      simp at e1
      omega
  refine ⟨q2.kept hg (hn q2), ⟨ls, cl, b1.grown hg (fun e => h1 (by simpa using e.symm)), b2, b3, fun e v he => ?_, b5⟩, ⟨lsk, c, q4.grown hg (fun e => h2 (by simpa using e.symm)), q4g, q4k⟩, ⟨a1, a2, a3, a4, a5, Nat.le_trans a6 hg.size, a7⟩, q6.grown hg q6.size (fun k hk => by simp at hk; omega)⟩
  obtain ⟨d1, d2, d3⟩ := b4 e v he
  exact ⟨d1.kept hg (hn d1), d2, d3⟩
/-- A crease's kind is put down. -/
theorem PK.update {w0 w : World} {base ra rk : Nat} {vt : Value} {L : List (Int × Int × Int)} {G : Int × Int × Int × Int → List Int} {kd : Int × Int × Int × Int → Option Value} (h : PK w0 w base ra rk vt L G kd) (e : Int × Int × Int × Int) (v : Value) :
    ∃ W', (Instr.mapUpdate 61 (.map (some rk)) (ek e) v).run Tryd.prog w = .ok () W' ∧ w.grownBy W' (some rk) ∧ PK w0 W' base ra rk vt L G (fun j => if j = e then some v else kd j) := by
  obtain ⟨q2, ⟨ls, cl, b1, b2, b3, b4, b5⟩, ⟨lsk, c, q4, q4g, q4k⟩, ⟨a1, a2, a3, a4, a5, a6, a7⟩, q6⟩ := h
  obtain ⟨ls', c', r1, r2, r3, _⟩ := update27 Tryd.underlying61 q4 q4g e v
  have hb := q4
  unfold EM at hb
  have hg := grown_set hb (.map (ls'.map toE).toArray c')
  have hn : ∀ {v : Value} {n : Nat} {e : TypeId} {s : Nat} {xs : List Value}, w.ownsRow base e s v n xs → v.ownBlock = none ∨ v.ownBlock ≠ some rk := fun {v n e s xs} ho => by
    cases hu : v.ownBlock with
    | none => exact Or.inl rfl
    | some g =>
      refine Or.inr (fun e1 => ?_)
      have := (ho.lt g hu).1
      simp at e1
      omega
  refine ⟨_, r1, hg, q2.kept hg (hn q2), ⟨ls, cl, b1.grown hg (fun e => a5 (by simpa using e)), b2, b3, fun e v he => ?_, b5⟩, ⟨ls', c', heap_setBlock_same hb _, r2, fun j => by rw [r3 j, q4k j]⟩, ⟨a1, a2, a3, a4, a5, Nat.le_trans a6 hg.size, a7⟩, q6.grown hg q6.size (fun k hk => by simp at hk; omega)⟩
  obtain ⟨d1, d2, d3⟩ := b4 e v he
  exact ⟨d1.kept hg (hn d1), d2, d3⟩

/-- The kinds of the first n creases, by their edges. -/
def kf (ks : List Int) : Nat → Int × Int × Int × Int → Option Value
  | 0, _ => none
  | i + 1, e => if e = (ck ks i 0, ck ks i 1, ck ks i 2, ck ks i 3) then some (.int .i64 (ck ks i 4)) else kf ks i e

set_option maxRecDepth 100000 in
set_option maxHeartbeats 6400000 in
theorem lay_nojoin (W H b off cap n ccap : Nat) (cb : Option Addr) (zs ks : List Int) (w : World) (hr : Row w (some ⟨b, off, none⟩) zs) (hW : 1 ≤ W ∧ W ≤ 8) (hH : 1 ≤ H ∧ H ≤ 8) (hl : zs.length = W * H) (hm : maskB zs = true) (hk : Row w cb ks) (hn : ks.length = n * 5) (hn2 : n ≤ 3518437208883) (hs : Steps w) (hJ : ¬ Joined (ty zs W H)) :
    Calls Tryd.prog 21 #[.agg #[.int .i64 (W : Int), .int .i64 (H : Int), .slice (some ⟨b, off, none⟩) zs.length cap, .slice cb n ccap]] w fun e w' => e = .returned (.tuple #[.agg #[.slice none 0 0, .map none, .map none], .bool false]) ∧ Below w.heap.size w w' := by
  have hcb : cellsB (W : Int) (H : Int) zs = true := by
    have e1 : sideB (W : Int) = true := by simp [sideB]; omega
    have e2 : sideB (H : Int) = true := by simp [sideB]; omega
    have e3 : (zs.length : Int) = (W : Int) * (H : Int) := by rw [hl]; simp
    simp only [cellsB, e1, e2, decide_eq_true e3, hm]
    rfl
  have hsW : sideB (W : Int) = true := by simp [sideB]; omega
  have hsH : sideB (H : Int) = true := by simp [sideB]; omega
  have hlW : (zs.length : Int) = (W : Int) * (H : Int) := by rw [hl]; simp
  have C93 : Hid (∀ W' : World, Below w.heap.size w W' → Calls Tryd.prog 48 #[.agg #[.int .i64 (W : Int), .int .i64 (H : Int), .slice (some ⟨b, off, none⟩) zs.length cap, .slice cb n ccap]] W' fun e w' => e = .returned (.bool true) ∧ ∃ o, w' = W'.alloc o) := fun W' hW' => hm ▸ mayMask_any W H _ cap zs _ W' hsW hsH (hr.kept hW') hlW
  have C92 : Hid (∀ W' : World, Calls Tryd.prog 47 #[.int .i64 (W : Int)] W' fun e w' => e = .returned (.bool true) ∧ w' = W') := fun W' => hsW ▸ maySide_any (W : Int) W'
  have C92' : Hid (∀ W' : World, Calls Tryd.prog 47 #[.int .i64 (H : Int)] W' fun e w' => e = .returned (.bool true) ∧ w' = W') := fun W' => hsH ▸ maySide_any (H : Int) W'
  have C94 : Hid (∀ W' : World, Below w.heap.size w W' → Calls Tryd.prog 49 #[.int .i64 (W : Int), .int .i64 (H : Int), .slice (some ⟨b, off, none⟩) zs.length cap] W' fun e w' => ∃ ad cc base pb ra rk, e = .returned (.agg #[.slice ad (ty zs W H).length cc, .map (some ra), .map (some rk)]) ∧ PP W' w' base pb ra rk (.slice ad (ty zs W H).length cc) (ty zs W H) (gix (ty zs W H))) := fun W' hW' => of_any W H b off cap zs W' (hs.kept hW') (hr.kept hW') hW hH hl hm
  have hlen : (ty zs W H).length ≤ 300 := by have := ty_len zs W H hW.2; omega
  have C95 : Hid (∀ (W' : World) (ad : Option Addr) (cc ra rk : Nat), Below w.heap.size w W' → PA W' ad ra (ty zs W H) → Calls Tryd.prog 50 #[.agg #[.slice ad (ty zs W H).length cc, .map (some ra), .map (some rk)]] W' fun e w' => ∃ bb : Bool, e = .returned (.bool bb) ∧ (bb = true ↔ Joined (ty zs W H)) ∧ Below W'.heap.size W' w') := fun W' ad cc ra rk hW' hp => joined_any W' cc ra rk ad _ (hs.kept hW') hp hlen (ty_nodup zs W H) (ty_bd hW.2 hH.2)
  have C96 : Hid (∀ (W' : World) (ad : Option Addr) (cc ra rk : Nat), Below w.heap.size w W' → PA W' ad ra (ty zs W H) → Calls Tryd.prog 51 #[.agg #[.slice ad (ty zs W H).length cc, .map (some ra), .map (some rk)], .slice cb n ccap] W' fun e w' => ∃ bb : Bool, e = .returned (.bool bb) ∧ (bb = true ↔ ∀ i, i < n → CrOk (ty zs W H) ks i) ∧ Below W'.heap.size W' w') := fun W' ad cc ra rk hW' hp => mayCreases_any W' cc ra rk n ccap ad cb _ ks hp (hk.kept hW') hn hn2
  have HCR : Hid (CRow w cb ks n) := row_crow hk hn
  clear hr hl hm hW hH hk hn hs hcb hsW hsH hlW
  obtain ⟨L, hL⟩ : ∃ L, L = ty zs W H := ⟨_, rfl⟩
  rw [← hL] at C94 C95 C96 hlen
  rw [← hL] at hJ
  clear hL
  go_enter Tryd.func21, Tryd.ntmps21
  go_wp2_with (first
    | (go_at_call 47; first | (refine (C92.out _).mono ?_; rintro e w9 ⟨rfl, hw9⟩; have hw9b := hw9.symm; clear hw9; subst hw9b) | (refine (C92'.out _).mono ?_; rintro e w9 ⟨rfl, hw9⟩; have hw9b := hw9.symm; clear hw9; subst hw9b))
    | (go_at_call 48; refine (C93.out _ (by with_reducible exact bl_alloc (bl_alloc (bl_refl _)))).mono ?_; rintro e w9 ⟨rfl, o9, rfl⟩)
    | (go_at_call 49; refine (C94.out _ (by with_reducible exact bl_alloc (bl_alloc (bl_alloc (bl_refl _))))).mono ?_; rintro e w3 ⟨ad, cc, base, pb, ra, rk, rfl, hPP⟩; have HK3 : Hid (PK ((w.alloc (.cells #[.int .i64 (W : Int), .int .i64 (H : Int), .slice (some ⟨b, off, none⟩) zs.length cap, .slice cb n ccap] 25)).alloc (.cells #[.slice none 0 0, .map none, .map none] 63)) w3 base ra rk (.slice ad L.length cc) L (gix L) (fun _ => none)) := hPP.pk.base (bl_alloc (bl_refl _)); have s0 : w3.cell? ⟨w.heap.size, 0, none⟩ = some (.int .i64 (W : Int)) := cl_kept HK3.out.2.2.2.2 (by simp [go_sem]); have s1 : w3.cell? ⟨w.heap.size, 1, none⟩ = some (.int .i64 (H : Int)) := cl_kept HK3.out.2.2.2.2 (by simp [go_sem]); have s2 : w3.cell? ⟨w.heap.size, 2, none⟩ = some (.slice (some ⟨b, off, none⟩) zs.length cap) := cl_kept HK3.out.2.2.2.2 (by simp [go_sem]); have s3 : w3.cell? ⟨w.heap.size, 3, none⟩ = some (.slice cb n ccap) := cl_kept HK3.out.2.2.2.2 (by simp [go_sem]); have z3 : w.heap.size < w3.heap.size := World.block_lt_of_cell? _ _ s0; have z3b : w.heap.size + 1 < w3.heap.size := Nat.lt_of_lt_of_le (by simp) HK3.out.2.2.2.2.size; clear hPP)
    | (go_at_call 50; refine (C95.out _ _ cc ra rk (bl_alloc (bl_via (bl_alloc (bl_alloc (bl_refl _))) HK3.out.2.2.2.2)) (HK3.out.pa.kept (bl_alloc (bl_refl _)))).mono ?_; rintro e w4 ⟨bb4, rfl, hb4, hbl4⟩; obtain rfl : bb4 = false := (by cases bb4 with | false => rfl | true => exact absurd (hb4.1 rfl) hJ); have HK4 : Hid (PK ((w.alloc (.cells #[.int .i64 (W : Int), .int .i64 (H : Int), .slice (some ⟨b, off, none⟩) zs.length cap, .slice cb n ccap] 25)).alloc (.cells #[.slice none 0 0, .map none, .map none] 63)) w4 base ra rk (.slice ad L.length cc) L (gix L) (fun _ => none) ∧ Below w3.heap.size w3 w4) := ⟨HK3.out.kept (bl_via (bl_alloc (bl_refl _)) hbl4), bl_via (bl_alloc (bl_refl _)) hbl4⟩; have r0 : w4.cell? ⟨w.heap.size, 0, none⟩ = some (.int .i64 (W : Int)) := cl_kept HK4.out.2 s0; have r1 : w4.cell? ⟨w.heap.size, 1, none⟩ = some (.int .i64 (H : Int)) := cl_kept HK4.out.2 s1; have r2 : w4.cell? ⟨w.heap.size, 2, none⟩ = some (.slice (some ⟨b, off, none⟩) zs.length cap) := cl_kept HK4.out.2 s2; have r3 : w4.cell? ⟨w.heap.size, 3, none⟩ = some (.slice cb n ccap) := cl_kept HK4.out.2 s3; have u0p : w4.cell? ⟨w3.heap.size, 0, none⟩ = some (.slice ad L.length cc) := cl_kept hbl4 (by simp [go_sem]); have u1p : w4.cell? ⟨w3.heap.size, 1, none⟩ = some (.map (some ra)) := cl_kept hbl4 (by simp [go_sem]); have u2p : w4.cell? ⟨w3.heap.size, 2, none⟩ = some (.map (some rk)) := cl_kept hbl4 (by simp [go_sem]); have z4 : w.heap.size < w4.heap.size := World.block_lt_of_cell? _ _ r0; have z4b : w3.heap.size < w4.heap.size := World.block_lt_of_cell? _ _ u0p; have c0r : w4.cell? ⟨w.heap.size + 1, 0, none⟩ = some (.slice none 0 0) := cl_kept HK4.out.1.2.2.2.2 (by simp [go_sem]); have c1r : w4.cell? ⟨w.heap.size + 1, 1, none⟩ = some (.map none) := cl_kept HK4.out.1.2.2.2.2 (by simp [go_sem]); have c2r : w4.cell? ⟨w.heap.size + 1, 2, none⟩ = some (.map none) := cl_kept HK4.out.1.2.2.2.2 (by simp [go_sem]); have f0r : w4.frozen? ⟨w.heap.size + 1, 0, none⟩ = false := (HK4.out.1.2.2.2.2.frozen (p := ⟨w.heap.size + 1, 0, none⟩) (by simp)).trans (by simp [go_sem]); have f1r : w4.frozen? ⟨w.heap.size + 1, 1, none⟩ = false := (HK4.out.1.2.2.2.2.frozen (p := ⟨w.heap.size + 1, 1, none⟩) (by simp)).trans (by simp [go_sem]); have f2r : w4.frozen? ⟨w.heap.size + 1, 2, none⟩ = false := (HK4.out.1.2.2.2.2.frozen (p := ⟨w.heap.size + 1, 2, none⟩) (by simp)).trans (by simp [go_sem]); clear hb4 hbl4))
  refine bodyPost_ret (v := .tuple #[.agg #[.slice none 0 0, .map none, .map none], .bool false]) ?_ rfl ⟨rfl, ?_⟩
  · simp [results, Tryd.results21, go_sem, c0r, c1r, c2r]
  · have hq := bl_via (bl_alloc (bl_alloc (bl_refl w))) HK4.out.1.2.2.2.2
    exact ((hq.setCell (p := ⟨w.heap.size + 1, 0, none⟩) (by simp) _).setCell (p := ⟨w.heap.size + 1, 1, none⟩) (by simp) _).setCell (p := ⟨w.heap.size + 1, 2, none⟩) (by simp) _

set_option maxRecDepth 100000 in
set_option maxHeartbeats 6400000 in
theorem lay_nocrease (W H b off cap n ccap : Nat) (cb : Option Addr) (zs ks : List Int) (w : World) (hr : Row w (some ⟨b, off, none⟩) zs) (hW : 1 ≤ W ∧ W ≤ 8) (hH : 1 ≤ H ∧ H ≤ 8) (hl : zs.length = W * H) (hm : maskB zs = true) (hk : Row w cb ks) (hn : ks.length = n * 5) (hn2 : n ≤ 3518437208883) (hs : Steps w) (hJ : Joined (ty zs W H)) (hC : ¬ ∀ i, i < n → CrOk (ty zs W H) ks i) :
    Calls Tryd.prog 21 #[.agg #[.int .i64 (W : Int), .int .i64 (H : Int), .slice (some ⟨b, off, none⟩) zs.length cap, .slice cb n ccap]] w fun e w' => e = .returned (.tuple #[.agg #[.slice none 0 0, .map none, .map none], .bool false]) ∧ Below w.heap.size w w' := by
  have hcb : cellsB (W : Int) (H : Int) zs = true := by
    have e1 : sideB (W : Int) = true := by simp [sideB]; omega
    have e2 : sideB (H : Int) = true := by simp [sideB]; omega
    have e3 : (zs.length : Int) = (W : Int) * (H : Int) := by rw [hl]; simp
    simp only [cellsB, e1, e2, decide_eq_true e3, hm]
    rfl
  have hsW : sideB (W : Int) = true := by simp [sideB]; omega
  have hsH : sideB (H : Int) = true := by simp [sideB]; omega
  have hlW : (zs.length : Int) = (W : Int) * (H : Int) := by rw [hl]; simp
  have C93 : Hid (∀ W' : World, Below w.heap.size w W' → Calls Tryd.prog 48 #[.agg #[.int .i64 (W : Int), .int .i64 (H : Int), .slice (some ⟨b, off, none⟩) zs.length cap, .slice cb n ccap]] W' fun e w' => e = .returned (.bool true) ∧ ∃ o, w' = W'.alloc o) := fun W' hW' => hm ▸ mayMask_any W H _ cap zs _ W' hsW hsH (hr.kept hW') hlW
  have C92 : Hid (∀ W' : World, Calls Tryd.prog 47 #[.int .i64 (W : Int)] W' fun e w' => e = .returned (.bool true) ∧ w' = W') := fun W' => hsW ▸ maySide_any (W : Int) W'
  have C92' : Hid (∀ W' : World, Calls Tryd.prog 47 #[.int .i64 (H : Int)] W' fun e w' => e = .returned (.bool true) ∧ w' = W') := fun W' => hsH ▸ maySide_any (H : Int) W'
  have C94 : Hid (∀ W' : World, Below w.heap.size w W' → Calls Tryd.prog 49 #[.int .i64 (W : Int), .int .i64 (H : Int), .slice (some ⟨b, off, none⟩) zs.length cap] W' fun e w' => ∃ ad cc base pb ra rk, e = .returned (.agg #[.slice ad (ty zs W H).length cc, .map (some ra), .map (some rk)]) ∧ PP W' w' base pb ra rk (.slice ad (ty zs W H).length cc) (ty zs W H) (gix (ty zs W H))) := fun W' hW' => of_any W H b off cap zs W' (hs.kept hW') (hr.kept hW') hW hH hl hm
  have hlen : (ty zs W H).length ≤ 300 := by have := ty_len zs W H hW.2; omega
  have C95 : Hid (∀ (W' : World) (ad : Option Addr) (cc ra rk : Nat), Below w.heap.size w W' → PA W' ad ra (ty zs W H) → Calls Tryd.prog 50 #[.agg #[.slice ad (ty zs W H).length cc, .map (some ra), .map (some rk)]] W' fun e w' => ∃ bb : Bool, e = .returned (.bool bb) ∧ (bb = true ↔ Joined (ty zs W H)) ∧ Below W'.heap.size W' w') := fun W' ad cc ra rk hW' hp => joined_any W' cc ra rk ad _ (hs.kept hW') hp hlen (ty_nodup zs W H) (ty_bd hW.2 hH.2)
  have C96 : Hid (∀ (W' : World) (ad : Option Addr) (cc ra rk : Nat), Below w.heap.size w W' → PA W' ad ra (ty zs W H) → Calls Tryd.prog 51 #[.agg #[.slice ad (ty zs W H).length cc, .map (some ra), .map (some rk)], .slice cb n ccap] W' fun e w' => ∃ bb : Bool, e = .returned (.bool bb) ∧ (bb = true ↔ ∀ i, i < n → CrOk (ty zs W H) ks i) ∧ Below W'.heap.size W' w') := fun W' ad cc ra rk hW' hp => mayCreases_any W' cc ra rk n ccap ad cb _ ks hp (hk.kept hW') hn hn2
  have HCR : Hid (CRow w cb ks n) := row_crow hk hn
  clear hr hl hm hW hH hk hn hs hcb hsW hsH hlW
  obtain ⟨L, hL⟩ : ∃ L, L = ty zs W H := ⟨_, rfl⟩
  rw [← hL] at C94 C95 C96 hlen
  rw [← hL] at hJ hC
  have HJ : Hid (Joined L) := hJ
  have HC : Hid (¬ ∀ i, i < n → CrOk L ks i) := hC
  clear hL hJ hC
  go_enter Tryd.func21, Tryd.ntmps21
  go_wp2_with (first
    | (go_at_call 47; first | (refine (C92.out _).mono ?_; rintro e w9 ⟨rfl, hw9⟩; have hw9b := hw9.symm; clear hw9; subst hw9b) | (refine (C92'.out _).mono ?_; rintro e w9 ⟨rfl, hw9⟩; have hw9b := hw9.symm; clear hw9; subst hw9b))
    | (go_at_call 48; refine (C93.out _ (by with_reducible exact bl_alloc (bl_alloc (bl_refl _)))).mono ?_; rintro e w9 ⟨rfl, o9, rfl⟩)
    | (go_at_call 49; refine (C94.out _ (by with_reducible exact bl_alloc (bl_alloc (bl_alloc (bl_refl _))))).mono ?_; rintro e w3 ⟨ad, cc, base, pb, ra, rk, rfl, hPP⟩; have HK3 : Hid (PK ((w.alloc (.cells #[.int .i64 (W : Int), .int .i64 (H : Int), .slice (some ⟨b, off, none⟩) zs.length cap, .slice cb n ccap] 25)).alloc (.cells #[.slice none 0 0, .map none, .map none] 63)) w3 base ra rk (.slice ad L.length cc) L (gix L) (fun _ => none)) := hPP.pk.base (bl_alloc (bl_refl _)); have s0 : w3.cell? ⟨w.heap.size, 0, none⟩ = some (.int .i64 (W : Int)) := cl_kept HK3.out.2.2.2.2 (by simp [go_sem]); have s1 : w3.cell? ⟨w.heap.size, 1, none⟩ = some (.int .i64 (H : Int)) := cl_kept HK3.out.2.2.2.2 (by simp [go_sem]); have s2 : w3.cell? ⟨w.heap.size, 2, none⟩ = some (.slice (some ⟨b, off, none⟩) zs.length cap) := cl_kept HK3.out.2.2.2.2 (by simp [go_sem]); have s3 : w3.cell? ⟨w.heap.size, 3, none⟩ = some (.slice cb n ccap) := cl_kept HK3.out.2.2.2.2 (by simp [go_sem]); have z3 : w.heap.size < w3.heap.size := World.block_lt_of_cell? _ _ s0; have z3b : w.heap.size + 1 < w3.heap.size := Nat.lt_of_lt_of_le (by simp) HK3.out.2.2.2.2.size; clear hPP)
    | (go_at_call 50; refine (C95.out _ _ cc ra rk (bl_alloc (bl_via (bl_alloc (bl_alloc (bl_refl _))) HK3.out.2.2.2.2)) (HK3.out.pa.kept (bl_alloc (bl_refl _)))).mono ?_; rintro e w4 ⟨bb4, rfl, hb4, hbl4⟩; obtain rfl : bb4 = true := hb4.2 HJ.out; have HK4 : Hid (PK ((w.alloc (.cells #[.int .i64 (W : Int), .int .i64 (H : Int), .slice (some ⟨b, off, none⟩) zs.length cap, .slice cb n ccap] 25)).alloc (.cells #[.slice none 0 0, .map none, .map none] 63)) w4 base ra rk (.slice ad L.length cc) L (gix L) (fun _ => none) ∧ Below w3.heap.size w3 w4) := ⟨HK3.out.kept (bl_via (bl_alloc (bl_refl _)) hbl4), bl_via (bl_alloc (bl_refl _)) hbl4⟩; have r0 : w4.cell? ⟨w.heap.size, 0, none⟩ = some (.int .i64 (W : Int)) := cl_kept HK4.out.2 s0; have r1 : w4.cell? ⟨w.heap.size, 1, none⟩ = some (.int .i64 (H : Int)) := cl_kept HK4.out.2 s1; have r2 : w4.cell? ⟨w.heap.size, 2, none⟩ = some (.slice (some ⟨b, off, none⟩) zs.length cap) := cl_kept HK4.out.2 s2; have r3 : w4.cell? ⟨w.heap.size, 3, none⟩ = some (.slice cb n ccap) := cl_kept HK4.out.2 s3; have u0p : w4.cell? ⟨w3.heap.size, 0, none⟩ = some (.slice ad L.length cc) := cl_kept hbl4 (by simp [go_sem]); have u1p : w4.cell? ⟨w3.heap.size, 1, none⟩ = some (.map (some ra)) := cl_kept hbl4 (by simp [go_sem]); have u2p : w4.cell? ⟨w3.heap.size, 2, none⟩ = some (.map (some rk)) := cl_kept hbl4 (by simp [go_sem]); have z4 : w.heap.size < w4.heap.size := World.block_lt_of_cell? _ _ r0; have z4b : w3.heap.size < w4.heap.size := World.block_lt_of_cell? _ _ u0p; clear hb4 hbl4)
    | (go_at_call 51; refine (C96.out _ _ cc ra rk (bl_via (bl_alloc (bl_alloc (bl_refl _))) HK4.out.1.2.2.2.2) HK4.out.1.pa).mono ?_; rintro e w5 ⟨bb5, rfl, hb5, hbl5⟩; obtain rfl : bb5 = false := (by cases bb5 with | false => rfl | true => exact absurd (hb5.1 rfl) HC.out); have HK5 : Hid (PK ((w.alloc (.cells #[.int .i64 (W : Int), .int .i64 (H : Int), .slice (some ⟨b, off, none⟩) zs.length cap, .slice cb n ccap] 25)).alloc (.cells #[.slice none 0 0, .map none, .map none] 63)) w5 base ra rk (.slice ad L.length cc) L (gix L) (fun _ => none)) := HK4.out.1.kept hbl5; have v0 : w5.cell? ⟨w.heap.size, 0, none⟩ = some (.int .i64 (W : Int)) := cl_kept hbl5 r0; have v1 : w5.cell? ⟨w.heap.size, 1, none⟩ = some (.int .i64 (H : Int)) := cl_kept hbl5 r1; have v2 : w5.cell? ⟨w.heap.size, 2, none⟩ = some (.slice (some ⟨b, off, none⟩) zs.length cap) := cl_kept hbl5 r2; have v3 : w5.cell? ⟨w.heap.size, 3, none⟩ = some (.slice cb n ccap) := cl_kept hbl5 r3; have x0p : w5.cell? ⟨w3.heap.size, 0, none⟩ = some (.slice ad L.length cc) := cl_kept hbl5 u0p; have x1p : w5.cell? ⟨w3.heap.size, 1, none⟩ = some (.map (some ra)) := cl_kept hbl5 u1p; have x2p : w5.cell? ⟨w3.heap.size, 2, none⟩ = some (.map (some rk)) := cl_kept hbl5 u2p; have z5 : w.heap.size < w5.heap.size := World.block_lt_of_cell? _ _ v0; have c0r : w5.cell? ⟨w.heap.size + 1, 0, none⟩ = some (.slice none 0 0) := cl_kept HK5.out.2.2.2.2 (by simp [go_sem]); have c1r : w5.cell? ⟨w.heap.size + 1, 1, none⟩ = some (.map none) := cl_kept HK5.out.2.2.2.2 (by simp [go_sem]); have c2r : w5.cell? ⟨w.heap.size + 1, 2, none⟩ = some (.map none) := cl_kept HK5.out.2.2.2.2 (by simp [go_sem]); have f0r : w5.frozen? ⟨w.heap.size + 1, 0, none⟩ = false := (HK5.out.2.2.2.2.frozen (p := ⟨w.heap.size + 1, 0, none⟩) (by simp)).trans (by simp [go_sem]); have f1r : w5.frozen? ⟨w.heap.size + 1, 1, none⟩ = false := (HK5.out.2.2.2.2.frozen (p := ⟨w.heap.size + 1, 1, none⟩) (by simp)).trans (by simp [go_sem]); have f2r : w5.frozen? ⟨w.heap.size + 1, 2, none⟩ = false := (HK5.out.2.2.2.2.frozen (p := ⟨w.heap.size + 1, 2, none⟩) (by simp)).trans (by simp [go_sem]); clear hb5 hbl5))
  refine bodyPost_ret (v := .tuple #[.agg #[.slice none 0 0, .map none, .map none], .bool false]) ?_ rfl ⟨rfl, ?_⟩
  · simp [results, Tryd.results21, go_sem, c0r, c1r, c2r]
  · have hq := bl_via (bl_alloc (bl_alloc (bl_refl w))) HK5.out.2.2.2.2
    exact ((hq.setCell (p := ⟨w.heap.size + 1, 0, none⟩) (by simp) _).setCell (p := ⟨w.heap.size + 1, 1, none⟩) (by simp) _).setCell (p := ⟨w.heap.size + 1, 2, none⟩) (by simp) _
end Go.Proofs.YtoedcefbmbfnhabDoor

/- A sheet that may be is laid out. -/
namespace Go.Proofs.YtoedcefbmbfnhabDoor
open Go.RowKit Go.ChangeMaps

set_option maxRecDepth 100000 in
set_option maxHeartbeats 6400000 in
theorem lay_yes (W H b off cap n ccap : Nat) (cb : Option Addr) (zs ks : List Int) (w : World) (hr : Row w (some ⟨b, off, none⟩) zs) (hW : 1 ≤ W ∧ W ≤ 8) (hH : 1 ≤ H ∧ H ≤ 8) (hl : zs.length = W * H) (hm : maskB zs = true) (hk : Row w cb ks) (hn : ks.length = n * 5) (hn2 : n ≤ 3518437208883) (hs : Steps w) (hJ : Joined (ty zs W H)) (hC : ∀ i, i < n → CrOk (ty zs W H) ks i) :
    Calls Tryd.prog 21 #[.agg #[.int .i64 (W : Int), .int .i64 (H : Int), .slice (some ⟨b, off, none⟩) zs.length cap, .slice cb n ccap]] w fun e w' => ∃ ad cc base ra rk, e = .returned (.tuple #[.agg #[.slice ad (ty zs W H).length cc, .map (some ra), .map (some rk)], .bool true]) ∧ PK w w' base ra rk (.slice ad (ty zs W H).length cc) (ty zs W H) (gix (ty zs W H)) (kf ks n) := by
  have hcb : cellsB (W : Int) (H : Int) zs = true := by
    have e1 : sideB (W : Int) = true := by simp [sideB]; omega
    have e2 : sideB (H : Int) = true := by simp [sideB]; omega
    have e3 : (zs.length : Int) = (W : Int) * (H : Int) := by rw [hl]; simp
    simp only [cellsB, e1, e2, decide_eq_true e3, hm]
    rfl
  have hsW : sideB (W : Int) = true := by simp [sideB]; omega
  have hsH : sideB (H : Int) = true := by simp [sideB]; omega
  have hlW : (zs.length : Int) = (W : Int) * (H : Int) := by rw [hl]; simp
  have C93 : Hid (∀ W' : World, Below w.heap.size w W' → Calls Tryd.prog 48 #[.agg #[.int .i64 (W : Int), .int .i64 (H : Int), .slice (some ⟨b, off, none⟩) zs.length cap, .slice cb n ccap]] W' fun e w' => e = .returned (.bool true) ∧ ∃ o, w' = W'.alloc o) := fun W' hW' => hm ▸ mayMask_any W H _ cap zs _ W' hsW hsH (hr.kept hW') hlW
  have C92 : Hid (∀ W' : World, Calls Tryd.prog 47 #[.int .i64 (W : Int)] W' fun e w' => e = .returned (.bool true) ∧ w' = W') := fun W' => hsW ▸ maySide_any (W : Int) W'
  have C92' : Hid (∀ W' : World, Calls Tryd.prog 47 #[.int .i64 (H : Int)] W' fun e w' => e = .returned (.bool true) ∧ w' = W') := fun W' => hsH ▸ maySide_any (H : Int) W'
  have C94 : Hid (∀ W' : World, Below w.heap.size w W' → Calls Tryd.prog 49 #[.int .i64 (W : Int), .int .i64 (H : Int), .slice (some ⟨b, off, none⟩) zs.length cap] W' fun e w' => ∃ ad cc base pb ra rk, e = .returned (.agg #[.slice ad (ty zs W H).length cc, .map (some ra), .map (some rk)]) ∧ PP W' w' base pb ra rk (.slice ad (ty zs W H).length cc) (ty zs W H) (gix (ty zs W H))) := fun W' hW' => of_any W H b off cap zs W' (hs.kept hW') (hr.kept hW') hW hH hl hm
  have hlen : (ty zs W H).length ≤ 300 := by have := ty_len zs W H hW.2; omega
  have C95 : Hid (∀ (W' : World) (ad : Option Addr) (cc ra rk : Nat), Below w.heap.size w W' → PA W' ad ra (ty zs W H) → Calls Tryd.prog 50 #[.agg #[.slice ad (ty zs W H).length cc, .map (some ra), .map (some rk)]] W' fun e w' => ∃ bb : Bool, e = .returned (.bool bb) ∧ (bb = true ↔ Joined (ty zs W H)) ∧ Below W'.heap.size W' w') := fun W' ad cc ra rk hW' hp => joined_any W' cc ra rk ad _ (hs.kept hW') hp hlen (ty_nodup zs W H) (ty_bd hW.2 hH.2)
  have C96 : Hid (∀ (W' : World) (ad : Option Addr) (cc ra rk : Nat), Below w.heap.size w W' → PA W' ad ra (ty zs W H) → Calls Tryd.prog 51 #[.agg #[.slice ad (ty zs W H).length cc, .map (some ra), .map (some rk)], .slice cb n ccap] W' fun e w' => ∃ bb : Bool, e = .returned (.bool bb) ∧ (bb = true ↔ ∀ i, i < n → CrOk (ty zs W H) ks i) ∧ Below W'.heap.size W' w') := fun W' ad cc ra rk hW' hp => mayCreases_any W' cc ra rk n ccap ad cb _ ks hp (hk.kept hW') hn hn2
  have HCR : Hid (CRow w cb ks n) := row_crow hk hn
  clear hr hl hm hW hH hk hn hs hcb hsW hsH hlW
  obtain ⟨L, hL⟩ : ∃ L, L = ty zs W H := ⟨_, rfl⟩
  rw [← hL] at C94 C95 C96 hlen
  rw [← hL] at hJ hC ⊢
  have HJ : Hid (Joined L) := hJ
  have HC : Hid (∀ i, i < n → CrOk L ks i) := hC
  clear hL hJ hC
  go_enter Tryd.func21, Tryd.ntmps21
  go_wp2_with (first
    | (go_at_call 47; first | (refine (C92.out _).mono ?_; rintro e w9 ⟨rfl, hw9⟩; have hw9b := hw9.symm; clear hw9; subst hw9b) | (refine (C92'.out _).mono ?_; rintro e w9 ⟨rfl, hw9⟩; have hw9b := hw9.symm; clear hw9; subst hw9b))
    | (go_at_call 48; refine (C93.out _ (by with_reducible exact bl_alloc (bl_alloc (bl_refl _)))).mono ?_; rintro e w9 ⟨rfl, o9, rfl⟩)
    | (go_at_call 49; refine (C94.out _ (by with_reducible exact bl_alloc (bl_alloc (bl_alloc (bl_refl _))))).mono ?_; rintro e w3 ⟨ad, cc, base, pb, ra, rk, rfl, hPP⟩; have HK3 : Hid (PK ((w.alloc (.cells #[.int .i64 (W : Int), .int .i64 (H : Int), .slice (some ⟨b, off, none⟩) zs.length cap, .slice cb n ccap] 25)).alloc (.cells #[.slice none 0 0, .map none, .map none] 63)) w3 base ra rk (.slice ad L.length cc) L (gix L) (fun _ => none)) := hPP.pk.base (bl_alloc (bl_refl _)); have s0 : w3.cell? ⟨w.heap.size, 0, none⟩ = some (.int .i64 (W : Int)) := cl_kept HK3.out.2.2.2.2 (by simp [go_sem]); have s1 : w3.cell? ⟨w.heap.size, 1, none⟩ = some (.int .i64 (H : Int)) := cl_kept HK3.out.2.2.2.2 (by simp [go_sem]); have s2 : w3.cell? ⟨w.heap.size, 2, none⟩ = some (.slice (some ⟨b, off, none⟩) zs.length cap) := cl_kept HK3.out.2.2.2.2 (by simp [go_sem]); have s3 : w3.cell? ⟨w.heap.size, 3, none⟩ = some (.slice cb n ccap) := cl_kept HK3.out.2.2.2.2 (by simp [go_sem]); have z3 : w.heap.size < w3.heap.size := World.block_lt_of_cell? _ _ s0; have z3b : w.heap.size + 1 < w3.heap.size := Nat.lt_of_lt_of_le (by simp) HK3.out.2.2.2.2.size; clear hPP)
    | (go_at_call 50; refine (C95.out _ _ cc ra rk (bl_alloc (bl_via (bl_alloc (bl_alloc (bl_refl _))) HK3.out.2.2.2.2)) (HK3.out.pa.kept (bl_alloc (bl_refl _)))).mono ?_; rintro e w4 ⟨bb4, rfl, hb4, hbl4⟩; obtain rfl : bb4 = true := hb4.2 HJ.out; have HK4 : Hid (PK ((w.alloc (.cells #[.int .i64 (W : Int), .int .i64 (H : Int), .slice (some ⟨b, off, none⟩) zs.length cap, .slice cb n ccap] 25)).alloc (.cells #[.slice none 0 0, .map none, .map none] 63)) w4 base ra rk (.slice ad L.length cc) L (gix L) (fun _ => none) ∧ Below w3.heap.size w3 w4) := ⟨HK3.out.kept (bl_via (bl_alloc (bl_refl _)) hbl4), bl_via (bl_alloc (bl_refl _)) hbl4⟩; have r0 : w4.cell? ⟨w.heap.size, 0, none⟩ = some (.int .i64 (W : Int)) := cl_kept HK4.out.2 s0; have r1 : w4.cell? ⟨w.heap.size, 1, none⟩ = some (.int .i64 (H : Int)) := cl_kept HK4.out.2 s1; have r2 : w4.cell? ⟨w.heap.size, 2, none⟩ = some (.slice (some ⟨b, off, none⟩) zs.length cap) := cl_kept HK4.out.2 s2; have r3 : w4.cell? ⟨w.heap.size, 3, none⟩ = some (.slice cb n ccap) := cl_kept HK4.out.2 s3; have u0p : w4.cell? ⟨w3.heap.size, 0, none⟩ = some (.slice ad L.length cc) := cl_kept hbl4 (by simp [go_sem]); have u1p : w4.cell? ⟨w3.heap.size, 1, none⟩ = some (.map (some ra)) := cl_kept hbl4 (by simp [go_sem]); have u2p : w4.cell? ⟨w3.heap.size, 2, none⟩ = some (.map (some rk)) := cl_kept hbl4 (by simp [go_sem]); have z4 : w.heap.size < w4.heap.size := World.block_lt_of_cell? _ _ r0; have z4b : w3.heap.size < w4.heap.size := World.block_lt_of_cell? _ _ u0p; clear hb4 hbl4)
    | (go_at_call 51; refine (C96.out _ _ cc ra rk (bl_via (bl_alloc (bl_alloc (bl_refl _))) HK4.out.1.2.2.2.2) HK4.out.1.pa).mono ?_; rintro e w5 ⟨bb5, rfl, hb5, hbl5⟩; obtain rfl : bb5 = true := hb5.2 HC.out; have HK5 : Hid (PK ((w.alloc (.cells #[.int .i64 (W : Int), .int .i64 (H : Int), .slice (some ⟨b, off, none⟩) zs.length cap, .slice cb n ccap] 25)).alloc (.cells #[.slice none 0 0, .map none, .map none] 63)) w5 base ra rk (.slice ad L.length cc) L (gix L) (fun _ => none)) := HK4.out.1.kept hbl5; have v0 : w5.cell? ⟨w.heap.size, 0, none⟩ = some (.int .i64 (W : Int)) := cl_kept hbl5 r0; have v1 : w5.cell? ⟨w.heap.size, 1, none⟩ = some (.int .i64 (H : Int)) := cl_kept hbl5 r1; have v2 : w5.cell? ⟨w.heap.size, 2, none⟩ = some (.slice (some ⟨b, off, none⟩) zs.length cap) := cl_kept hbl5 r2; have v3 : w5.cell? ⟨w.heap.size, 3, none⟩ = some (.slice cb n ccap) := cl_kept hbl5 r3; have x0p : w5.cell? ⟨w3.heap.size, 0, none⟩ = some (.slice ad L.length cc) := cl_kept hbl5 u0p; have x1p : w5.cell? ⟨w3.heap.size, 1, none⟩ = some (.map (some ra)) := cl_kept hbl5 u1p; have x2p : w5.cell? ⟨w3.heap.size, 2, none⟩ = some (.map (some rk)) := cl_kept hbl5 u2p; have z5 : w.heap.size < w5.heap.size := World.block_lt_of_cell? _ _ v0; clear hb5 hbl5))
  have zbase : base ≤ w3.heap.size := HK3.out.2.2.2.1.2.2.2.2.2.1
  go_loopg [44] n (fun gk s44 wx => ∃ i : Nat, i ≤ n ∧ gk = n - i ∧ s44 = .int .i64 (i : Int) ∧ PK ((w.alloc (.cells #[.int .i64 (W : Int), .int .i64 (H : Int), .slice (some ⟨b, off, none⟩) zs.length cap, .slice cb n ccap] 25)).alloc (.cells #[.slice none 0 0, .map none, .map none] 63)) wx base ra rk (.slice ad L.length cc) L (gix L) (kf ks i) ∧ (wx.cell? ⟨w3.heap.size, 0, none⟩ = some (.slice ad L.length cc) ∧ wx.cell? ⟨w3.heap.size, 1, none⟩ = some (.map (some ra)) ∧ wx.cell? ⟨w3.heap.size, 2, none⟩ = some (.map (some rk))))
  case atStart => exact ⟨0, by omega, rfl, rfl, HK5.out, x0p, x1p, x2p⟩
  case round =>
    clear HK5 HK4 x0p x1p x2p u0p u1p u2p s0 s1 s2 s3 r0 r1 r2 r3 v0 v1 v2 v3 z4 z4b z5
    obtain ⟨i, hi, rfl, rfl, hK, y0, y1, y2⟩ := hrel
    have HK : Hid (PK ((w.alloc (.cells #[.int .i64 (W : Int), .int .i64 (H : Int), .slice (some ⟨b, off, none⟩) zs.length cap, .slice cb n ccap] 25)).alloc (.cells #[.slice none 0 0, .map none, .map none] 63)) wr base ra rk (.slice ad L.length cc) L (gix L) (kf ks i)) := hK
    have HB : Hid (Below w.heap.size w wr) := bl_via (bl_alloc (bl_alloc (bl_refl _))) hK.2.2.2.2
    clear hK
    have zy : w3.heap.size < wr.heap.size := World.block_lt_of_cell? _ _ y0
    by_cases h1 : i < n
    · have i1 : (i : Int) < (n : Int) := by omega
      have i0 : (0 : Int) ≤ (i : Int) := by omega
      obtain ⟨bb, bo, rfl, c0, c1, c2, c3, c4⟩ := (HCR.out.kept HB.out) i h1
      have zb : bb < wr.heap.size := World.block_lt_of_cell? _ _ c0
      obtain ⟨W', hu, hg, hK'⟩ := (HK.out.kept (w' := wr.alloc (.cells #[.int .i64 (ck ks i 0), .int .i64 (ck ks i 1), .int .i64 (ck ks i 2), .int .i64 (ck ks i 3), .int .i64 (ck ks i 4)] 73)) (bl_alloc (bl_refl _))).update ((ck ks i 0), (ck ks i 1), (ck ks i 2), (ck ks i 3)) (.int .i64 (ck ks i 4))
      have hu' : (Instr.mapUpdate 61 (.map (some rk)) (.agg #[.int .i64 (ck ks i 0), .int .i64 (ck ks i 1), .int .i64 (ck ks i 2), .int .i64 (ck ks i 3)]) (.int .i64 (ck ks i 4))).run Tryd.prog (wr.alloc (.cells #[.int .i64 (ck ks i 0), .int .i64 (ck ks i 1), .int .i64 (ck ks i 2), .int .i64 (ck ks i 3), .int .i64 (ck ks i 4)] 73)) = .ok () W' := hu
      have hne : some w3.heap.size ≠ some rk := fun e => by
        have := HK.out.2.2.2.1.2.2.2.1
        simp at e
        omega
      have HN : Hid (PK ((w.alloc (.cells #[.int .i64 (W : Int), .int .i64 (H : Int), .slice (some ⟨b, off, none⟩) zs.length cap, .slice (some ⟨bb, bo, none⟩) n ccap] 25)).alloc (.cells #[.slice none 0 0, .map none, .map none] 63)) W' base ra rk (.slice ad L.length cc) L (gix L) (kf ks (i + 1)) ∧ (W'.cell? ⟨w3.heap.size, 0, none⟩ = some (.slice ad L.length cc) ∧ W'.cell? ⟨w3.heap.size, 1, none⟩ = some (.map (some ra)) ∧ W'.cell? ⟨w3.heap.size, 2, none⟩ = some (.map (some rk)))) := ⟨hK', hg.cell (al_old y0) hne, hg.cell (al_old y1) hne, hg.cell (al_old y2) hne⟩
      clear hu hg hK' hne
      go_wp2
      go_roundg (n - (i + 1))
      case measure => omega
      case rel => exact ⟨i + 1, by omega, rfl, by go_num, HN.out.1, HN.out.2⟩
    · have i1 : ¬ (i : Int) < (n : Int) := by omega
      obtain rfl : i = n := by omega
      have c0r : wr.cell? ⟨w.heap.size + 1, 0, none⟩ = some (.slice none 0 0) := cl_kept HK.out.2.2.2.2 (by simp [go_sem])
      have c1r : wr.cell? ⟨w.heap.size + 1, 1, none⟩ = some (.map none) := cl_kept HK.out.2.2.2.2 (by simp [go_sem])
      have c2r : wr.cell? ⟨w.heap.size + 1, 2, none⟩ = some (.map none) := cl_kept HK.out.2.2.2.2 (by simp [go_sem])
      have f0r : wr.frozen? ⟨w.heap.size + 1, 0, none⟩ = false := (HK.out.2.2.2.2.frozen (p := ⟨w.heap.size + 1, 0, none⟩) (by simp)).trans (by simp [go_sem])
      have f1r : wr.frozen? ⟨w.heap.size + 1, 1, none⟩ = false := (HK.out.2.2.2.2.frozen (p := ⟨w.heap.size + 1, 1, none⟩) (by simp)).trans (by simp [go_sem])
      have f2r : wr.frozen? ⟨w.heap.size + 1, 2, none⟩ = false := (HK.out.2.2.2.2.frozen (p := ⟨w.heap.size + 1, 2, none⟩) (by simp)).trans (by simp [go_sem])
      go_wp2
      have hz2 := HK.out.2.2.2.1
      refine bodyPost_ret (v := .tuple #[.agg #[.slice ad L.length cc, .map (some ra), .map (some rk)], .bool true]) ?_ rfl ⟨ad, cc, base, ra, rk, rfl, (HK.out.base (bl_alloc (bl_alloc (bl_refl w)))).grown (gb_then (gb_then (grown_cell _ _ 0 _) (grown_cell _ _ 1 _)) (grown_cell _ _ 2 _)) (by omega) ?_ ?_ ?_⟩
      · simp [results, Tryd.results21, go_sem, c0r, c1r, c2r]
      · have := hz2.1
        simp at this
        omega
      · have := hz2.2.2.1
        simp at this
        omega
      · have := hz2.2.2.2.2.2.2
        simp at this
        omega
end Go.Proofs.YtoedcefbmbfnhabDoor

/- Where each triangle comes to: maps that are handed on across edges, the mathematics. -/
namespace Go.Proofs.YtoedcefbmbfnhabDoor
open Go.RowKit Go.ChangeMaps

/-- Maps, number by number; the one that leaves all where it is; none. -/
abbrev M6 := Int × Int × Int × Int × Int × Int
def idM : M6 := (1, 0, 0, 1, 0, 0)
def noM : M6 := (0, 0, 0, 0, 0, 0)
/-- First one map, then another. -/
def aft (m n : M6) : M6 :=
  (dot n.1 n.2.1 m.1 m.2.2.1, dot n.1 n.2.1 m.2.1 m.2.2.2.1, dot n.2.2.1 n.2.2.2.1 m.1 m.2.2.1, dot n.2.2.1 n.2.2.2.1 m.2.1 m.2.2.2.1, dot n.1 n.2.1 m.2.2.2.2.1 m.2.2.2.2.2 + n.2.2.2.2.1, dot n.2.2.1 n.2.2.2.1 m.2.2.2.2.1 m.2.2.2.2.2 + n.2.2.2.2.2)
/-- The line of an edge, and the mirror at a line. -/
def lnW (e : Int × Int × Int × Int) : Int := if e.1 = e.2.2.1 then 0 else if e.2.1 = e.2.2.2 then 1 else if e.2.2.2 < e.2.1 then 2 else 3
def lnC (e : Int × Int × Int × Int) : Int := if e.1 = e.2.2.1 then e.1 else if e.2.1 = e.2.2.2 then e.2.1 else if e.2.2.2 < e.2.1 then e.1 + e.2.1 else e.1 - e.2.1
def mir (v c : Int) : M6 := (mA v, mB v, mB v, mD v, mE v c, mF v c)
/-- The map beyond an edge. -/
def farM (kd : Int × Int × Int × Int → Int) (e : Int × Int × Int × Int) (m : M6) : M6 := if kd e = 0 then m else aft (mir (lnW e) (lnC e)) m
def mapM (m : M6) : Bool := mapB m.1 m.2.1 m.2.2.1 m.2.2.2.1 m.2.2.2.2.1 m.2.2.2.2.2
def GoodM (m : M6) (B : Int) : Prop := mapM m = true ∧ (-B ≤ m.2.2.2.2.1 ∧ m.2.2.2.2.1 ≤ B) ∧ (-B ≤ m.2.2.2.2.2 ∧ m.2.2.2.2.2 ≤ B)
theorem GoodM.mono {m : M6} {B C : Int} (h : GoodM m B) (hB : B ≤ C) : GoodM m C := ⟨h.1, ⟨by have := h.2.1; omega, by have := h.2.1; omega⟩, ⟨by have := h.2.2; omega, by have := h.2.2; omega⟩⟩
theorem idM_good : GoodM idM 0 := ⟨by decide, by decide, by decide⟩
theorem noM_not : mapM noM = false := by decide

theorem line_may {t : Int × Int × Int} {e : Int × Int × Int × Int} (h : hasT t e = true) (hb : (0 ≤ t.1 ∧ t.1 ≤ 8) ∧ (0 ≤ t.2.1 ∧ t.2.1 ≤ 8) ∧ (0 ≤ t.2.2 ∧ t.2.2 ≤ 3)) : lineB (lnW e) (lnC e) = true ∧ -40 ≤ lnC e ∧ lnC e ≤ 40 := by
  obtain ⟨x, y, k⟩ := t
  obtain ⟨p, q, r, s⟩ := e
  simp only [hasT] at h hb
  rw [hasB_or] at h
  obtain ⟨hx, hy, hk⟩ := hb
  have hk4 : k = 0 ∨ k = 1 ∨ k = 2 ∨ k = 3 := by omega
  have key : (p = r → p % 2 = 0) ∧ (q = s → q % 2 = 0) ∧ (p + q) % 2 = 0 ∧ (0 ≤ p ∧ p ≤ 18) ∧ (0 ≤ q ∧ q ≤ 18) := by
    rcases hk4 with rfl | rfl | rfl | rfl <;> simp only [e0_0, e0_1, e0_2, e0_3, e1_0, e1_1, e1_2, e1_3, e2_0, e2_1, e2_2, e2_3] at h <;> omega
  clear h hk4
  by_cases c1 : p = r
  · simp only [lineB, lnW, lnC, if_pos c1, decide_eq_true_eq]
    omega
  · by_cases c2 : q = s
    · simp only [lineB, lnW, lnC, if_neg c1, if_pos c2, decide_eq_true_eq]
      omega
    · by_cases c3 : s < q
      · simp only [lineB, lnW, lnC, if_neg c1, if_neg c2, if_pos c3, decide_eq_true_eq]
        omega
      · simp only [lineB, lnW, lnC, if_neg c1, if_neg c2, if_neg c3, decide_eq_true_eq]
        omega

theorem mir_may {v c : Int} (h : lineB v c = true) (hb : -40 ≤ c ∧ c ≤ 40) : GoodM (mir v c) 80 := by
  obtain ⟨h0, h3, b1, b2, b3⟩ := line_bd h
  have hv : v = 0 ∨ v = 1 ∨ v = 2 ∨ v = 3 := by omega
  rcases hv with rfl | rfl | rfl | rfl <;> simp [GoodM, mapM, mir, mapB, mA, mB, mD, mE, mF, unitB, evenB] <;> omega

/-- The four numbers of a map that may be: a turn or a mirror. -/
theorem map_lin {a b c d e f : Int} (h : mapB a b c d e f = true) : ((a = 1 ∨ a = -1) ∧ b = 0 ∧ c = 0 ∧ (d = 1 ∨ d = -1)) ∨ (a = 0 ∧ (b = 1 ∨ b = -1) ∧ (c = 1 ∨ c = -1) ∧ d = 0) := by
  simp only [mapB, unitB, Bool.and_eq_true, Bool.or_eq_true, decide_eq_true_eq] at h
  omega
theorem map_of {a b c d e f : Int} (h : ((a = 1 ∨ a = -1) ∧ b = 0 ∧ c = 0 ∧ (d = 1 ∨ d = -1)) ∨ (a = 0 ∧ (b = 1 ∨ b = -1) ∧ (c = 1 ∨ c = -1) ∧ d = 0)) (he : e % 2 = 0 ∧ -1000000 ≤ e ∧ e ≤ 1000000) (hf : f % 2 = 0 ∧ -1000000 ≤ f ∧ f ≤ 1000000) : mapB a b c d e f = true := by
  simp only [mapB, unitB, evenB, Bool.and_eq_true, Bool.or_eq_true, decide_eq_true_eq]
  omega
theorem aft_good {m n : M6} {B : Int} (hm : GoodM m 80) (hn : GoodM n B) (hB : B ≤ 900000) : GoodM (aft m n) (B + 160) := by
  obtain ⟨a, b, c, d, e, f⟩ := m
  obtain ⟨A, B', C, D, E, F⟩ := n
  obtain ⟨m1, m2, m3⟩ := hm
  obtain ⟨n1, n2, n3⟩ := hn
  simp only [mapM] at m1 m2 m3 n1 n2 n3
  have me := (map_bd m1).2.2
  have ne := (map_bd n1).2.2
  have ml := map_lin m1
  have nl := map_lin n1
  have key : (((dot A B' a c = 1 ∨ dot A B' a c = -1) ∧ dot A B' b d = 0 ∧ dot C D a c = 0 ∧ (dot C D b d = 1 ∨ dot C D b d = -1)) ∨ (dot A B' a c = 0 ∧ (dot A B' b d = 1 ∨ dot A B' b d = -1) ∧ (dot C D a c = 1 ∨ dot C D a c = -1) ∧ dot C D b d = 0)) ∧ (dot A B' e f = e ∨ dot A B' e f = -e ∨ dot A B' e f = f ∨ dot A B' e f = -f) ∧ (dot C D e f = e ∨ dot C D e f = -e ∨ dot C D e f = f ∨ dot C D e f = -f) := by
    clear m1 m2 m3 n1 n2 n3 me ne
    refine ⟨?_, ?_, ?_⟩
    · rcases ml with ⟨rfl | rfl, rfl, rfl, rfl | rfl⟩ | ⟨rfl, rfl | rfl, rfl | rfl, rfl⟩ <;> rcases nl with ⟨rfl | rfl, rfl, rfl, rfl | rfl⟩ | ⟨rfl, rfl | rfl, rfl | rfl, rfl⟩ <;> decide
    · rcases nl with ⟨rfl | rfl, rfl, rfl, rfl | rfl⟩ | ⟨rfl, rfl | rfl, rfl | rfl, rfl⟩ <;> simp [dot]
    · rcases nl with ⟨rfl | rfl, rfl, rfl, rfl | rfl⟩ | ⟨rfl, rfl | rfl, rfl | rfl, rfl⟩ <;> simp [dot]
  obtain ⟨k1, k2, k3⟩ := key
  clear ml nl m1 n1
  refine ⟨?_, ?_, ?_⟩
  · refine map_of (by simp only [aft]; exact k1) ?_ ?_ <;> simp only [aft] <;> omega
  · simp only [aft]
    omega
  · simp only [aft]
    omega
theorem far_good {kd : Int × Int × Int × Int → Int} {t : Int × Int × Int} {e : Int × Int × Int × Int} {m : M6} {B : Int} (h : hasT t e = true) (hb : (0 ≤ t.1 ∧ t.1 ≤ 8) ∧ (0 ≤ t.2.1 ∧ t.2.1 ≤ 8) ∧ (0 ≤ t.2.2 ∧ t.2.2 ≤ 3)) (hm : GoodM m B) (hB : B ≤ 900000) : GoodM (farM kd e m) (B + 160) := by
  unfold farM
  split
  · exact hm.mono (by omega)
  · exact aft_good (mir_may (line_may h hb).1 (line_may h hb).2) hm hB

/-- Maps that are so for all edges. -/
def Cons (kd : Int × Int × Int × Int → Int) (L : List (Int × Int × Int)) (N : Nat → M6) : Prop :=
  N 0 = idM ∧ ∀ i j (hi : i < L.length) (hj : j < L.length) e, i ≠ j → hasT L[i] e = true → hasT L[j] e = true → N j = farM kd e (N i)
/-- What has been handed on: the triangles K have their maps. -/
def MI (kd : Int × Int × Int × Int → Int) (L : List (Int × Int × Int)) (K : List Nat) (M : Nat → M6) : Prop :=
  0 ∈ K ∧ K.Nodup ∧ M 0 = idM ∧ (∀ i ∈ K, i < L.length ∧ GoodM (M i) (160 * (K.length : Int))) ∧ ∀ N, Cons kd L N → ∀ i ∈ K, M i = N i
theorem MI.start {kd : Int × Int × Int × Int → Int} {L : List (Int × Int × Int)} {M : Nat → M6} (h0 : 0 < L.length) (hM : M 0 = idM) : MI kd L [0] M := by
  refine ⟨by simp, by simp, hM, fun i hi => ?_, fun N hN i hi => ?_⟩
  · simp at hi
    subst hi
    rw [hM]
    exact ⟨h0, idM_good.mono (by simp)⟩
  · simp at hi
    subst hi
    rw [hM, hN.1]
theorem MI.len {kd : Int × Int × Int × Int → Int} {L : List (Int × Int × Int)} {K : List Nat} {M : Nat → M6} (h : MI kd L K M) : K.length ≤ L.length := nodup_len _ _ h.2.1 (fun i hi => (h.2.2.2.1 i hi).1)
theorem snoc_nodup {K : List Nat} {j : Nat} (h : K.Nodup) (hj : j ∉ K) : (K ++ [j]).Nodup := by
  rw [List.nodup_append]
  refine ⟨h, by simp, fun a ha b hb => ?_⟩
  simp at hb
  subst hb
  exact fun e => hj (e ▸ ha)
theorem MI.found {kd : Int × Int × Int × Int → Int} {L : List (Int × Int × Int)} {K : List Nat} {M : Nat → M6} (h : MI kd L K M) (hL : L.length ≤ 300) (hbd : ∀ t ∈ L, (0 ≤ t.1 ∧ t.1 ≤ 8) ∧ (0 ≤ t.2.1 ∧ t.2.1 ≤ 8) ∧ (0 ≤ t.2.2 ∧ t.2.2 ≤ 3)) {i j : Nat} (hi : i ∈ K) (hj : j < L.length) (hn : j ∉ K) {e : Int × Int × Int × Int} (h1 : ∀ hi' : i < L.length, hasT L[i] e = true) (h2 : hasT L[j] e = true) : MI kd L (K ++ [j]) (fun q => if q = j then farM kd e (M i) else M q) := by
  have hlen := h.len
  obtain ⟨a1, a2, a3, a4, a5⟩ := h
  obtain ⟨hi', hgi⟩ := a4 i hi
  have hne : i ≠ j := fun e => hn (e ▸ hi)
  have h0 : (0 : Nat) ≠ j := fun e => hn (e ▸ a1)
  refine ⟨List.mem_append_left _ a1, snoc_nodup a2 hn, ?_, fun q hq => ?_, fun N hN q hq => ?_⟩
  · simp only [if_neg h0]
    exact a3
  · have hl : ((K ++ [j]).length : Int) = (K.length : Int) + 1 := by simp
    rw [hl]
    rcases List.mem_append.1 hq with hq | hq
    · have : q ≠ j := fun e => hn (e ▸ hq)
      simp only [if_neg this]
      exact ⟨(a4 q hq).1, (a4 q hq).2.mono (by omega)⟩
    · simp at hq
      subst hq
      simp only [if_true]
      exact ⟨hj, (far_good (h1 hi') (hbd _ (List.getElem_mem hi')) hgi (by omega)).mono (by omega)⟩
  · rcases List.mem_append.1 hq with hq | hq
    · have : q ≠ j := fun e => hn (e ▸ hq)
      simp only [if_neg this]
      exact a5 N hN q hq
    · simp at hq
      subst hq
      simp only [if_true]
      rw [hN.2 i q hi' hj e hne (h1 hi') h2, a5 N hN i hi]
theorem MI.tear {kd : Int × Int × Int × Int → Int} {L : List (Int × Int × Int)} {K : List Nat} {M : Nat → M6} (h : MI kd L K M) {i j : Nat} (hi : i ∈ K) (hj : j ∈ K) (hne : i ≠ j) {e : Int × Int × Int × Int} (h1 : ∀ hi' : i < L.length, hasT L[i] e = true) (h2 : ∀ hj' : j < L.length, hasT L[j] e = true) (hM : M j ≠ farM kd e (M i)) : ¬ ∃ N, Cons kd L N := by
  rintro ⟨N, hN⟩
  obtain ⟨a1, a2, a3, a4, a5⟩ := h
  have hi' := (a4 i hi).1
  have hj' := (a4 j hj).1
  apply hM
  rw [a5 N hN i hi, a5 N hN j hj]
  exact hN.2 i j hi' hj' e hne (h1 hi') (h2 hj')

/-- Across one edge of triangle i all is told, and as it should be. -/
def EdK (kd : Int × Int × Int × Int → Int) (L : List (Int × Int × Int)) (K : List Nat) (M : Nat → M6) (i : Nat) (e : Int × Int × Int × Int) : Prop := ∀ j (hj : j < L.length), i ≠ j → hasT L[j] e = true → j ∈ K ∧ M j = farM kd e (M i)
/-- .. across the first n edges. -/
def EdN (kd : Int × Int × Int × Int → Int) (L : List (Int × Int × Int)) (K : List Nat) (M : Nat → M6) (i n : Nat) : Prop := ∀ k, k < n → ∀ hi : i < L.length, EdK kd L K M i (edg L[i] k)
theorem EdK.mono {kd : Int × Int × Int × Int → Int} {L : List (Int × Int × Int)} {K K' : List Nat} {M M' : Nat → M6} {i : Nat} {e : Int × Int × Int × Int} (h : EdK kd L K M i e) (hi : i ∈ K) (hs : ∀ q ∈ K, q ∈ K' ∧ M' q = M q) : EdK kd L K' M' i e := fun j hj hne ht => by
  obtain ⟨a, b⟩ := h j hj hne ht
  exact ⟨(hs j a).1, by rw [(hs j a).2, (hs i hi).2]; exact b⟩
theorem EdN.mono {kd : Int × Int × Int × Int → Int} {L : List (Int × Int × Int)} {K K' : List Nat} {M M' : Nat → M6} {i n : Nat} (h : EdN kd L K M i n) (hi : i ∈ K) (hs : ∀ q ∈ K, q ∈ K' ∧ M' q = M q) : EdN kd L K' M' i n := fun k hk hi' => (h k hk hi').mono hi hs
theorem EdN.step {kd : Int × Int × Int × Int → Int} {L : List (Int × Int × Int)} {K : List Nat} {M : Nat → M6} {i n : Nat} (h : EdN kd L K M i n) (hd : ∀ hi : i < L.length, EdK kd L K M i (edg L[i] n)) : EdN kd L K M i (n + 1) := fun k hk hi => by
  by_cases e : k = n
  · subst e
    exact hd hi
  · exact h k (by omega) hi
theorem found_mono {K : List Nat} {M : Nat → M6} {j : Nat} {v : M6} (hn : j ∉ K) : ∀ q ∈ K, q ∈ K ++ [j] ∧ (fun q => if q = j then v else M q) q = M q := fun q hq => ⟨List.mem_append_left _ hq, by
  have : q ≠ j := fun e => hn (e ▸ hq)
  simp only [if_neg this]⟩

/-- A set of triangles with all their neighbours is all of them. -/
theorem closed_all {L : List (Int × Int × Int)} (hJ : Joined L) (hnd : L.Nodup) (S : Nat → Prop) (h0 : S 0) (hc : ∀ i j (hi : i < L.length) (hj : j < L.length), S i → Adj L[i] L[j] → S j) : ∀ i, i < L.length → S i := by
  obtain ⟨hp, hr⟩ := hJ
  intro i hi
  obtain ⟨c, hc', e, hs⟩ := (hr i hi).2 (fun u => ∃ c, ∃ hc' : c < L.length, L[c] = u ∧ S c) ⟨0, hp, rfl, h0⟩ (fun a b ha hb hab => by
    obtain ⟨c, hc', e, hs⟩ := ha
    obtain ⟨q, hq, e2⟩ := List.getElem_of_mem hb
    subst e e2
    exact ⟨q, hq, rfl, hc c q hc' hq hs hab⟩)
  have := nodup_inj hnd hc' hi e
  subst this
  exact hs
theorem EdN.adj {kd : Int × Int × Int × Int → Int} {L : List (Int × Int × Int)} {K : List Nat} {M : Nat → M6} {i j : Nat} (h : EdN kd L K M i 3) (hi : i < L.length) (hj : j < L.length) (hne : i ≠ j) {e : Int × Int × Int × Int} (h1 : hasT L[i] e = true) (h2 : hasT L[j] e = true) : j ∈ K ∧ M j = farM kd e (M i) := by
  obtain ⟨k, hk, rfl⟩ := hasT_edg h1
  exact h k hk hi j hj hne h2
theorem adj_ne {L : List (Int × Int × Int)} {i j : Nat} {hi : i < L.length} {hj : j < L.length} (h : Adj L[i] L[j]) : i ≠ j := fun e => by
  subst e
  exact h.1 rfl
theorem closed_k {kd : Int × Int × Int × Int → Int} {L : List (Int × Int × Int)} {K KS : List Nat} {M : Nat → M6} (hJ : Joined L) (hnd : L.Nodup) (h0 : 0 ∈ KS) (hsub : ∀ i ∈ K, i ∈ KS) (hcl : ∀ i ∈ KS, EdN kd L K M i 3) : ∀ i, i < L.length → i ∈ KS :=
  closed_all hJ hnd (fun i => i ∈ KS) h0 (fun i j hi hj hs ha => by
    obtain ⟨e, h1, h2⟩ := ha.2
    exact hsub _ ((hcl i hs).adj hi hj (adj_ne ha) h1 h2).1)
/-- All has been told, and as it should be. -/
theorem MI.cons {kd : Int × Int × Int × Int → Int} {L : List (Int × Int × Int)} {K : List Nat} {M : Nat → M6} (hJ : Joined L) (hnd : L.Nodup) (h : MI kd L K M) (hcl : ∀ i ∈ K, EdN kd L K M i 3) : (∀ i, i < L.length → i ∈ K) ∧ Cons kd L M := by
  have ha := closed_k hJ hnd h.1 (fun _ h => h) hcl
  exact ⟨ha, h.2.2.1, fun i j hi hj e hne h1 h2 => ((hcl i (ha i hi)).adj hi hj hne h1 h2).2⟩
theorem MI.conss {kd : Int × Int × Int × Int → Int} {L : List (Int × Int × Int)} {K KS : List Nat} {M : Nat → M6} (h : MI kd L K M) (ha : ∀ i, i < L.length → i ∈ KS) (hcl : ∀ i ∈ KS, EdN kd L K M i 3) : Cons kd L M :=
  ⟨h.2.2.1, fun i _j hi hj _e hne h1 h2 => ((hcl i (ha i hi)).adj hi hj hne h1 h2).2⟩
theorem cons_one {kd : Int × Int × Int × Int → Int} {L : List (Int × Int × Int)} {N N' : Nat → M6} (hJ : Joined L) (hnd : L.Nodup) (h : Cons kd L N) (h' : Cons kd L N') : ∀ i, i < L.length → N i = N' i :=
  closed_all hJ hnd (fun i => N i = N' i) (h.1.trans h'.1.symm) (fun i j hi hj hs ha => by
    obtain ⟨e, h1, h2⟩ := ha.2
    rw [h.2 i j hi hj e (adj_ne ha) h1 h2, h'.2 i j hi hj e (adj_ne ha) h1 h2, hs])
theorem all_of_len {K : List Nat} {n : Nat} (h : K.Nodup) (hb : ∀ i ∈ K, i < n) (hl : n ≤ K.length) : ∀ i, i < n → i ∈ K := fun i hi => by
  refine Classical.byContradiction fun hno => ?_
  have := nodup_len n (K ++ [i]) (snoc_nodup h hno) (fun j hj => by
    rcases List.mem_append.1 hj with hj | hj
    · exact hb j hj
    · simp at hj
      omega)
  simp at this
  omega
/-- A round in which none was found had them all. -/
theorem round_all {kd : Int × Int × Int × Int → Int} {L : List (Int × Int × Int)} {KS X : List Nat} {M : Nat → M6} (hJ : Joined L) (hnd : L.Nodup) (h0 : 0 ∈ KS) (hcl : ∀ i ∈ KS, EdN kd L (KS ++ X) M i 3) : (∀ i, i < L.length → i ∈ KS) ∨ 0 < X.length := by
  cases X with
  | nil => exact Or.inl (closed_k hJ hnd h0 (by simp) hcl)
  | cons a r => exact Or.inr (by simp)
theorem edge_bd {t : Int × Int × Int} {e : Int × Int × Int × Int} (h : hasT t e = true) (hb : (0 ≤ t.1 ∧ t.1 ≤ 8) ∧ (0 ≤ t.2.1 ∧ t.2.1 ≤ 8) ∧ (0 ≤ t.2.2 ∧ t.2.2 ≤ 3)) : (0 ≤ e.1 ∧ e.1 ≤ 100) ∧ (0 ≤ e.2.1 ∧ e.2.1 ≤ 100) ∧ (0 ≤ e.2.2.1 ∧ e.2.2.1 ≤ 100) ∧ (0 ≤ e.2.2.2 ∧ e.2.2.2 ≤ 100) := by
  obtain ⟨x, y, k⟩ := t
  obtain ⟨p, q, r, s⟩ := e
  simp only [hasT] at h hb
  rw [hasB_or] at h
  obtain ⟨hx, hy, hk⟩ := hb
  have hk4 : k = 0 ∨ k = 1 ∨ k = 2 ∨ k = 3 := by omega
  dsimp only
  rcases hk4 with rfl | rfl | rfl | rfl <;> simp only [e0_0, e0_1, e0_2, e0_3, e1_0, e1_1, e1_2, e1_3, e2_0, e2_1, e2_2, e2_3] at h <;> omega
theorem len_of_all : ∀ (n : Nat) (R : List Nat), (∀ i, i < n → i ∈ R) → n ≤ R.length
  | 0, _, _ => Nat.zero_le _
  | n + 1, R, h => by
    have hn := h n (by omega)
    have h1 := len_of_all n (R.erase n) (fun i hi => (List.mem_erase_of_ne (by omega)).2 (h i (by omega)))
    rw [List.length_erase_of_mem hn] at h1
    have := List.length_pos_of_mem hn
    omega
end Go.Proofs.YtoedcefbmbfnhabDoor

