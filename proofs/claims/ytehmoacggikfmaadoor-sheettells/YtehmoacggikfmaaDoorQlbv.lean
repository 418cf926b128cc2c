/- A sheet that may be is laid out; one that may not be is not. -/
import Derived.Test.YtehmoacggikfmaaDoorQlbu
namespace Go.Proofs.YtehmoacggikfmaaDoor
open Go.RowKit Go.ChangeMaps

/-- A paper that is laid out: its triangles, of each edge which have it, of each creased edge its kind; all of it newer than w0. -/
def PK (w0 w : World) (base ra rk : Nat) (vt : Value) (L : List (Int × Int × Int)) (G : Int × Int × Int × Int → List Int) (kd : Int × Int × Int × Int → Option Value) : Prop :=
  w.ownsRow base 52 3 vt L.length (flatV L) ∧ GP w base ra vt G ∧ (∃ ls c, EM w rk ls c ∧ Good ls c ∧ ∀ e, lk ls e = kd e) ∧ (w0.heap.size ≤ ra ∧ ra < base ∧ w0.heap.size ≤ rk ∧ rk < base ∧ ra ≠ rk ∧ base ≤ w.heap.size ∧ w0.heap.size ≤ base) ∧ Below w0.heap.size w0 w
theorem PP.pk {w0 w : World} {base pb ra rk : Nat} {vt : Value} {L : List (Int × Int × Int)} {G : Int × Int × Int × Int → List Int} (h : PP w0 w base pb ra rk vt L G) : PK w0 w base ra rk vt L G (fun _ => none) := by
  obtain ⟨h1, h2, h3, ⟨c, h4, h4g⟩, ⟨a1, a2, a3, a4, a5, a6, a7, a8⟩, h6⟩ := h
  exact ⟨h2, h3, ⟨[], c, h4, h4g, fun e => rfl⟩, ⟨a3, a4, a5, a6, a7, a8, by omega⟩, h6⟩
theorem PK.kept {w0 w w' : World} {base ra rk : Nat} {vt : Value} {L : List (Int × Int × Int)} {G : Int × Int × Int × Int → List Int} {kd : Int × Int × Int × Int → Option Value} (h : PK w0 w base ra rk vt L G kd) (hb : Below w.heap.size w w') : PK w0 w' base ra rk vt L G kd := by
  obtain ⟨h2, h3, ⟨ls, c, h4, h4g, h4k⟩, ⟨a1, a2, a3, a4, a5, a6, a7⟩, h6⟩ := h
  exact ⟨own_below h2 hb, h3.kept hb, ⟨ls, c, h4.grown (bl_grown hb) (by simp), h4g, h4k⟩, ⟨a1, a2, a3, a4, a5, Nat.le_trans a6 hb.size, a7⟩, bl_via h6 hb⟩
theorem PK.base {wf w0 w : World} {base ra rk : Nat} {vt : Value} {L : List (Int × Int × Int)} {G : Int × Int × Int × Int → List Int} {kd : Int × Int × Int × Int → Option Value} (h : PK w0 w base ra rk vt L G kd) (hf : Below wf.heap.size wf w0) : PK wf w base ra rk vt L G kd := by
  obtain ⟨h2, h3, h4, ⟨a1, a2, a3, a4, a5, a6, a7⟩, h6⟩ := h
  have := hf.size
  exact ⟨h2, h3, h4, ⟨by omega, a2, by omega, a4, a5, a6, by omega⟩, bl_via hf h6⟩
theorem PK.pa {w0 w : World} {base ra rk cc : Nat} {ad : Option Addr} {L : List (Int × Int × Int)} {kd : Int × Int × Int × Int → Option Value} (h : PK w0 w base ra rk (.slice ad L.length cc) L (gix L) kd) : PA w ad ra L := by
  obtain ⟨h2, ⟨ls, c, b1, b2, b3, b4, b5⟩, h4⟩ := h
  refine ⟨?_, fun e => ?_⟩
  · obtain ⟨a, cap, e, hT⟩ := own_tris h2
    simp only [Value.slice.injEq] at e
    rw [e.1]
    exact hT
  · cases hl : lk ls e with
    | none =>
      refine ⟨none, 0, by rw [b3 e hl]; intro i hi; simp at hi, fun wx hb => ?_⟩
      have := lookup27 Tryd.underlying37 zero70 (b1.grown (bl_grown hb) (by simp)) b2 e
      rw [hl] at this
      rw [b3 e hl]
      exact this
    | some v =>
      obtain ⟨d1, d2, d3⟩ := b4 e v hl
      obtain ⟨b, off, cap, hv, hr⟩ : ∃ b off cap, v = .slice (some ⟨b, off, none⟩) (gix L e).length cap ∧ Row w (some ⟨b, off, none⟩) (gix L e) := by
        rcases d1.2 with ⟨rfl, h0⟩ | ⟨g, cap, cur, rfl, _⟩
        · exact absurd (List.length_eq_zero_iff.1 h0) d2
        · refine ⟨g, 0, cap, rfl, fun i hi => ⟨g, 0, rfl, ?_⟩⟩
          have := d1.cellAt i (by omega)
          rw [Nat.zero_add, this]
          simp [hi]
      refine ⟨some ⟨b, off, none⟩, cap, hr, fun wx hb => ?_⟩
      have := lookup27 Tryd.underlying37 zero70 (b1.grown (bl_grown hb) (by simp)) b2 e
      rw [hl, hv] at this
      exact this
/-- A block that is not the paper's is written. -/
theorem PK.grown {w0 w w' : World} {base ra rk r : Nat} {vt : Value} {L : List (Int × Int × Int)} {G : Int × Int × Int × Int → List Int} {kd : Int × Int × Int × Int → Option Value} (h : PK w0 w base ra rk vt L G kd) (hg : w.grownBy w' (some r)) (hr : w0.heap.size ≤ r) (h1 : r ≠ ra) (h2 : r ≠ rk) (h3 : r < base) : PK w0 w' base ra rk vt L G kd := by
  obtain ⟨q2, ⟨ls, cl, b1, b2, b3, b4, b5⟩, ⟨lsk, c, q4, q4g, q4k⟩, ⟨a1, a2, a3, a4, a5, a6, a7⟩, q6⟩ := h
  have hn : ∀ {v : Value} {n : Nat} {e : TypeId} {s : Nat} {xs : List Value}, w.ownsRow base e s v n xs → v.ownBlock = none ∨ v.ownBlock ≠ some r := fun {v n e s xs} ho => by
    cases hu : v.ownBlock with
    | none => exact Or.inl rfl
    | some g =>
      refine Or.inr (fun e1 => ?_)
      have := (ho.lt g hu).1
      simp at e1
      omega
  refine ⟨q2.kept hg (hn q2), ⟨ls, cl, b1.grown hg (fun e => h1 (by simpa using e.symm)), b2, b3, fun e v he => ?_, b5⟩, ⟨lsk, c, q4.grown hg (fun e => h2 (by simpa using e.symm)), q4g, q4k⟩, ⟨a1, a2, a3, a4, a5, Nat.le_trans a6 hg.size, a7⟩, q6.grown hg q6.size (fun k hk => by simp at hk; omega)⟩
  obtain ⟨d1, d2, d3⟩ := b4 e v he
  exact ⟨d1.kept hg (hn d1), d2, d3⟩
/-- A crease's kind is put down. -/
theorem PK.update {w0 w : World} {base ra rk : Nat} {vt : Value} {L : List (Int × Int × Int)} {G : Int × Int × Int × Int → List Int} {kd : Int × Int × Int × Int → Option Value} (h : PK w0 w base ra rk vt L G kd) (e : Int × Int × Int × Int) (v : Value) :
    ∃ W', (Instr.mapUpdate 38 (.map (some rk)) (ek e) v).run Tryd.prog w = .ok () W' ∧ w.grownBy W' (some rk) ∧ PK w0 W' base ra rk vt L G (fun j => if j = e then some v else kd j) := by
  obtain ⟨q2, ⟨ls, cl, b1, b2, b3, b4, b5⟩, ⟨lsk, c, q4, q4g, q4k⟩, ⟨a1, a2, a3, a4, a5, a6, a7⟩, q6⟩ := h
  obtain ⟨ls', c', r1, r2, r3, _⟩ := update27 Tryd.underlying38 q4 q4g e v
  have hb := q4
  unfold EM at hb
  have hg := grown_set hb (.map (ls'.map toE).toArray c')
  have hn : ∀ {v : Value} {n : Nat} {e : TypeId} {s : Nat} {xs : List Value}, w.ownsRow base e s v n xs → v.ownBlock = none ∨ v.ownBlock ≠ some rk := fun {v n e s xs} ho => by
    cases hu : v.ownBlock with
    | none => exact Or.inl rfl
    | some g =>
      refine Or.inr (fun e1 => ?_)
      have := (ho.lt g hu).1
      simp at e1
      omega
  refine ⟨_, r1, hg, q2.kept hg (hn q2), ⟨ls, cl, b1.grown hg (fun e => a5 (by simpa using e)), b2, b3, fun e v he => ?_, b5⟩, ⟨ls', c', heap_setBlock_same hb _, r2, fun j => by rw [r3 j, q4k j]⟩, ⟨a1, a2, a3, a4, a5, Nat.le_trans a6 hg.size, a7⟩, q6.grown hg q6.size (fun k hk => by simp at hk; omega)⟩
  obtain ⟨d1, d2, d3⟩ := b4 e v he
  exact ⟨d1.kept hg (hn d1), d2, d3⟩

/-- The kinds of the first n creases, by their edges. -/
def kf (ks : List Int) : Nat → Int × Int × Int × Int → Option Value
  | 0, _ => none
  | i + 1, e => if e = (ck ks i 0, ck ks i 1, ck ks i 2, ck ks i 3) then some (.int .i64 (ck ks i 4)) else kf ks i e

set_option maxRecDepth 100000 in
set_option maxHeartbeats 6400000 in
theorem lay_nojoin (W H b off cap n ccap : Nat) (cb : Option Addr) (zs ks : List Int) (w : World) (hr : Row w (some ⟨b, off, none⟩) zs) (hW : 1 ≤ W ∧ W ≤ 8) (hH : 1 ≤ H ∧ H ≤ 8) (hl : zs.length = W * H) (hm : maskB zs = true) (hk : Row w cb ks) (hn : ks.length = n * 5) (hn2 : n ≤ 3518437208883) (hs : Steps w) (hJ : ¬ Joined (ty zs W H)) :
    Calls Tryd.prog 12 #[.agg #[.int .i64 (W : Int), .int .i64 (H : Int), .slice (some ⟨b, off, none⟩) zs.length cap, .slice cb n ccap]] w fun e w' => e = .returned (.tuple #[.agg #[.slice none 0 0, .map none, .map none], .bool false]) ∧ Below w.heap.size w w' := by
  have hcb : cellsB (W : Int) (H : Int) zs = true := by
    have e1 : sideB (W : Int) = true := by simp [sideB]; omega
    have e2 : sideB (H : Int) = true := by simp [sideB]; omega
    have e3 : (zs.length : Int) = (W : Int) * (H : Int) := by rw [hl]; simp
    simp only [cellsB, e1, e2, decide_eq_true e3, hm]
    rfl
  have hsW : sideB (W : Int) = true := by simp [sideB]; omega
  have hsH : sideB (H : Int) = true := by simp [sideB]; omega
  have hlW : (zs.length : Int) = (W : Int) * (H : Int) := by rw [hl]; simp
  have C93 : Hid (∀ W' : World, Below w.heap.size w W' → Calls Tryd.prog 21 #[.agg #[.int .i64 (W : Int), .int .i64 (H : Int), .slice (some ⟨b, off, none⟩) zs.length cap, .slice cb n ccap]] W' fun e w' => e = .returned (.bool true) ∧ ∃ o, w' = W'.alloc o) := fun W' hW' => hm ▸ mayMask_any W H _ cap zs _ W' hsW hsH (hr.kept hW') hlW
  have C92 : Hid (∀ W' : World, Calls Tryd.prog 20 #[.int .i64 (W : Int)] W' fun e w' => e = .returned (.bool true) ∧ w' = W') := fun W' => hsW ▸ maySide_any (W : Int) W'
  have C92' : Hid (∀ W' : World, Calls Tryd.prog 20 #[.int .i64 (H : Int)] W' fun e w' => e = .returned (.bool true) ∧ w' = W') := fun W' => hsH ▸ maySide_any (H : Int) W'
  have C94 : Hid (∀ W' : World, Below w.heap.size w W' → Calls Tryd.prog 22 #[.int .i64 (W : Int), .int .i64 (H : Int), .slice (some ⟨b, off, none⟩) zs.length cap] W' fun e w' => ∃ ad cc base pb ra rk, e = .returned (.agg #[.slice ad (ty zs W H).length cc, .map (some ra), .map (some rk)]) ∧ PP W' w' base pb ra rk (.slice ad (ty zs W H).length cc) (ty zs W H) (gix (ty zs W H))) := fun W' hW' => of_any W H b off cap zs W' (hs.kept hW') (hr.kept hW') hW hH hl hm
  have hlen : (ty zs W H).length ≤ 300 := by have := ty_len zs W H hW.2; omega
  have C95 : Hid (∀ (W' : World) (ad : Option Addr) (cc ra rk : Nat), Below w.heap.size w W' → PA W' ad ra (ty zs W H) → Calls Tryd.prog 23 #[.agg #[.slice ad (ty zs W H).length cc, .map (some ra), .map (some rk)]] W' fun e w' => ∃ bb : Bool, e = .returned (.bool bb) ∧ (bb = true ↔ Joined (ty zs W H)) ∧ Below W'.heap.size W' w') := fun W' ad cc ra rk hW' hp => joined_any W' cc ra rk ad _ (hs.kept hW') hp hlen (ty_nodup zs W H) (ty_bd hW.2 hH.2)
  have C96 : Hid (∀ (W' : World) (ad : Option Addr) (cc ra rk : Nat), Below w.heap.size w W' → PA W' ad ra (ty zs W H) → Calls Tryd.prog 24 #[.agg #[.slice ad (ty zs W H).length cc, .map (some ra), .map (some rk)], .slice cb n ccap] W' fun e w' => ∃ bb : Bool, e = .returned (.bool bb) ∧ (bb = true ↔ ∀ i, i < n → CrOk (ty zs W H) ks i) ∧ Below W'.heap.size W' w') := fun W' ad cc ra rk hW' hp => mayCreases_any W' cc ra rk n ccap ad cb _ ks hp (hk.kept hW') hn hn2
  have HCR : Hid (CRow w cb ks n) := row_crow hk hn
  clear hr hl hm hW hH hk hn hs hcb hsW hsH hlW
  obtain ⟨L, hL⟩ : ∃ L, L = ty zs W H := ⟨_, rfl⟩
  rw [← hL] at C94 C95 C96 hlen
  rw [← hL] at hJ
  clear hL
  go_enter Tryd.func12, Tryd.ntmps12
  go_wp2_with (first
    | (go_at_call 20; first | (refine (C92.out _).mono ?_; rintro e w9 ⟨rfl, hw9⟩; have hw9b := hw9.symm; clear hw9; subst hw9b) | (refine (C92'.out _).mono ?_; rintro e w9 ⟨rfl, hw9⟩; have hw9b := hw9.symm; clear hw9; subst hw9b))
    | (go_at_call 21; refine (C93.out _ (by with_reducible exact bl_alloc (bl_alloc (bl_refl _)))).mono ?_; rintro e w9 ⟨rfl, o9, rfl⟩)
    | (go_at_call 22; refine (C94.out _ (by with_reducible exact bl_alloc (bl_alloc (bl_alloc (bl_refl _))))).mono ?_; rintro e w3 ⟨ad, cc, base, pb, ra, rk, rfl, hPP⟩; have HK3 : Hid (PK ((w.alloc (.cells #[.int .i64 (W : Int), .int .i64 (H : Int), .slice (some ⟨b, off, none⟩) zs.length cap, .slice cb n ccap] 25)).alloc (.cells #[.slice none 0 0, .map none, .map none] 40)) w3 base ra rk (.slice ad L.length cc) L (gix L) (fun _ => none)) := hPP.pk.base (bl_alloc (bl_refl _)); have s0 : w3.cell? ⟨w.heap.size, 0, none⟩ = some (.int .i64 (W : Int)) := cl_kept HK3.out.2.2.2.2 (by simp [go_sem]); have s1 : w3.cell? ⟨w.heap.size, 1, none⟩ = some (.int .i64 (H : Int)) := cl_kept HK3.out.2.2.2.2 (by simp [go_sem]); have s2 : w3.cell? ⟨w.heap.size, 2, none⟩ = some (.slice (some ⟨b, off, none⟩) zs.length cap) := cl_kept HK3.out.2.2.2.2 (by simp [go_sem]); have s3 : w3.cell? ⟨w.heap.size, 3, none⟩ = some (.slice cb n ccap) := cl_kept HK3.out.2.2.2.2 (by simp [go_sem]); have z3 : w.heap.size < w3.heap.size := World.block_lt_of_cell? _ _ s0; have z3b : w.heap.size + 1 < w3.heap.size := Nat.lt_of_lt_of_le (by simp) HK3.out.2.2.2.2.size; clear hPP)
    | (go_at_call 23; refine (C95.out _ _ cc ra rk (bl_alloc (bl_via (bl_alloc (bl_alloc (bl_refl _))) HK3.out.2.2.2.2)) (HK3.out.pa.kept (bl_alloc (bl_refl _)))).mono ?_; rintro e w4 ⟨bb4, rfl, hb4, hbl4⟩; obtain rfl : bb4 = false := (by cases bb4 with | false => rfl | true => exact absurd (hb4.1 rfl) hJ); have HK4 : Hid (PK ((w.alloc (.cells #[.int .i64 (W : Int), .int .i64 (H : Int), .slice (some ⟨b, off, none⟩) zs.length cap, .slice cb n ccap] 25)).alloc (.cells #[.slice none 0 0, .map none, .map none] 40)) w4 base ra rk (.slice ad L.length cc) L (gix L) (fun _ => none) ∧ Below w3.heap.size w3 w4) := ⟨HK3.out.kept (bl_via (bl_alloc (bl_refl _)) hbl4), bl_via (bl_alloc (bl_refl _)) hbl4⟩; have r0 : w4.cell? ⟨w.heap.size, 0, none⟩ = some (.int .i64 (W : Int)) := cl_kept HK4.out.2 s0; have r1 : w4.cell? ⟨w.heap.size, 1, none⟩ = some (.int .i64 (H : Int)) := cl_kept HK4.out.2 s1; have r2 : w4.cell? ⟨w.heap.size, 2, none⟩ = some (.slice (some ⟨b, off, none⟩) zs.length cap) := cl_kept HK4.out.2 s2; have r3 : w4.cell? ⟨w.heap.size, 3, none⟩ = some (.slice cb n ccap) := cl_kept HK4.out.2 s3; have u0p : w4.cell? ⟨w3.heap.size, 0, none⟩ = some (.slice ad L.length cc) := cl_kept hbl4 (by simp [go_sem]); have u1p : w4.cell? ⟨w3.heap.size, 1, none⟩ = some (.map (some ra)) := cl_kept hbl4 (by simp [go_sem]); have u2p : w4.cell? ⟨w3.heap.size, 2, none⟩ = some (.map (some rk)) := cl_kept hbl4 (by simp [go_sem]); have z4 : w.heap.size < w4.heap.size := World.block_lt_of_cell? _ _ r0; have z4b : w3.heap.size < w4.heap.size := World.block_lt_of_cell? _ _ u0p; have c0r : w4.cell? ⟨w.heap.size + 1, 0, none⟩ = some (.slice none 0 0) := cl_kept HK4.out.1.2.2.2.2 (by simp [go_sem]); have c1r : w4.cell? ⟨w.heap.size + 1, 1, none⟩ = some (.map none) := cl_kept HK4.out.1.2.2.2.2 (by simp [go_sem]); have c2r : w4.cell? ⟨w.heap.size + 1, 2, none⟩ = some (.map none) := cl_kept HK4.out.1.2.2.2.2 (by simp [go_sem]); have f0r : w4.frozen? ⟨w.heap.size + 1, 0, none⟩ = false := (HK4.out.1.2.2.2.2.frozen (p := ⟨w.heap.size + 1, 0, none⟩) (by simp)).trans (by simp [go_sem]); have f1r : w4.frozen? ⟨w.heap.size + 1, 1, none⟩ = false := (HK4.out.1.2.2.2.2.frozen (p := ⟨w.heap.size + 1, 1, none⟩) (by simp)).trans (by simp [go_sem]); have f2r : w4.frozen? ⟨w.heap.size + 1, 2, none⟩ = false := (HK4.out.1.2.2.2.2.frozen (p := ⟨w.heap.size + 1, 2, none⟩) (by simp)).trans (by simp [go_sem]); clear hb4 hbl4))
  refine bodyPost_ret (v := .tuple #[.agg #[.slice none 0 0, .map none, .map none], .bool false]) ?_ rfl ⟨rfl, ?_⟩
  · simp [results, Tryd.results12, go_sem, c0r, c1r, c2r]
  · have hq := bl_via (bl_alloc (bl_alloc (bl_refl w))) HK4.out.1.2.2.2.2
    exact ((hq.setCell (p := ⟨w.heap.size + 1, 0, none⟩) (by simp) _).setCell (p := ⟨w.heap.size + 1, 1, none⟩) (by simp) _).setCell (p := ⟨w.heap.size + 1, 2, none⟩) (by simp) _

set_option maxRecDepth 100000 in
set_option maxHeartbeats 6400000 in
theorem lay_nocrease (W H b off cap n ccap : Nat) (cb : Option Addr) (zs ks : List Int) (w : World) (hr : Row w (some ⟨b, off, none⟩) zs) (hW : 1 ≤ W ∧ W ≤ 8) (hH : 1 ≤ H ∧ H ≤ 8) (hl : zs.length = W * H) (hm : maskB zs = true) (hk : Row w cb ks) (hn : ks.length = n * 5) (hn2 : n ≤ 3518437208883) (hs : Steps w) (hJ : Joined (ty zs W H)) (hC : ¬ ∀ i, i < n → CrOk (ty zs W H) ks i) :
    Calls Tryd.prog 12 #[.agg #[.int .i64 (W : Int), .int .i64 (H : Int), .slice (some ⟨b, off, none⟩) zs.length cap, .slice cb n ccap]] w fun e w' => e = .returned (.tuple #[.agg #[.slice none 0 0, .map none, .map none], .bool false]) ∧ Below w.heap.size w w' := by
  have hcb : cellsB (W : Int) (H : Int) zs = true := by
    have e1 : sideB (W : Int) = true := by simp [sideB]; omega
    have e2 : sideB (H : Int) = true := by simp [sideB]; omega
    have e3 : (zs.length : Int) = (W : Int) * (H : Int) := by rw [hl]; simp
    simp only [cellsB, e1, e2, decide_eq_true e3, hm]
    rfl
  have hsW : sideB (W : Int) = true := by simp [sideB]; omega
  have hsH : sideB (H : Int) = true := by simp [sideB]; omega
  have hlW : (zs.length : Int) = (W : Int) * (H : Int) := by rw [hl]; simp
  have C93 : Hid (∀ W' : World, Below w.heap.size w W' → Calls Tryd.prog 21 #[.agg #[.int .i64 (W : Int), .int .i64 (H : Int), .slice (some ⟨b, off, none⟩) zs.length cap, .slice cb n ccap]] W' fun e w' => e = .returned (.bool true) ∧ ∃ o, w' = W'.alloc o) := fun W' hW' => hm ▸ mayMask_any W H _ cap zs _ W' hsW hsH (hr.kept hW') hlW
  have C92 : Hid (∀ W' : World, Calls Tryd.prog 20 #[.int .i64 (W : Int)] W' fun e w' => e = .returned (.bool true) ∧ w' = W') := fun W' => hsW ▸ maySide_any (W : Int) W'
  have C92' : Hid (∀ W' : World, Calls Tryd.prog 20 #[.int .i64 (H : Int)] W' fun e w' => e = .returned (.bool true) ∧ w' = W') := fun W' => hsH ▸ maySide_any (H : Int) W'
  have C94 : Hid (∀ W' : World, Below w.heap.size w W' → Calls Tryd.prog 22 #[.int .i64 (W : Int), .int .i64 (H : Int), .slice (some ⟨b, off, none⟩) zs.length cap] W' fun e w' => ∃ ad cc base pb ra rk, e = .returned (.agg #[.slice ad (ty zs W H).length cc, .map (some ra), .map (some rk)]) ∧ PP W' w' base pb ra rk (.slice ad (ty zs W H).length cc) (ty zs W H) (gix (ty zs W H))) := fun W' hW' => of_any W H b off cap zs W' (hs.kept hW') (hr.kept hW') hW hH hl hm
  have hlen : (ty zs W H).length ≤ 300 := by have := ty_len zs W H hW.2; omega
  have C95 : Hid (∀ (W' : World) (ad : Option Addr) (cc ra rk : Nat), Below w.heap.size w W' → PA W' ad ra (ty zs W H) → Calls Tryd.prog 23 #[.agg #[.slice ad (ty zs W H).length cc, .map (some ra), .map (some rk)]] W' fun e w' => ∃ bb : Bool, e = .returned (.bool bb) ∧ (bb = true ↔ Joined (ty zs W H)) ∧ Below W'.heap.size W' w') := fun W' ad cc ra rk hW' hp => joined_any W' cc ra rk ad _ (hs.kept hW') hp hlen (ty_nodup zs W H) (ty_bd hW.2 hH.2)
  have C96 : Hid (∀ (W' : World) (ad : Option Addr) (cc ra rk : Nat), Below w.heap.size w W' → PA W' ad ra (ty zs W H) → Calls Tryd.prog 24 #[.agg #[.slice ad (ty zs W H).length cc, .map (some ra), .map (some rk)], .slice cb n ccap] W' fun e w' => ∃ bb : Bool, e = .returned (.bool bb) ∧ (bb = true ↔ ∀ i, i < n → CrOk (ty zs W H) ks i) ∧ Below W'.heap.size W' w') := fun W' ad cc ra rk hW' hp => mayCreases_any W' cc ra rk n ccap ad cb _ ks hp (hk.kept hW') hn hn2
  have HCR : Hid (CRow w cb ks n) := row_crow hk hn
  clear hr hl hm hW hH hk hn hs hcb hsW hsH hlW
  obtain ⟨L, hL⟩ : ∃ L, L = ty zs W H := ⟨_, rfl⟩
  rw [← hL] at C94 C95 C96 hlen
  rw [← hL] at hJ hC
  have HJ : Hid (Joined L) := hJ
  have HC : Hid (¬ ∀ i, i < n → CrOk L ks i) := hC
  clear hL hJ hC
  go_enter Tryd.func12, Tryd.ntmps12
  go_wp2_with (first
    | (go_at_call 20; first | (refine (C92.out _).mono ?_; rintro e w9 ⟨rfl, hw9⟩; have hw9b := hw9.symm; clear hw9; subst hw9b) | (refine (C92'.out _).mono ?_; rintro e w9 ⟨rfl, hw9⟩; have hw9b := hw9.symm; clear hw9; subst hw9b))
    | (go_at_call 21; refine (C93.out _ (by with_reducible exact bl_alloc (bl_alloc (bl_refl _)))).mono ?_; rintro e w9 ⟨rfl, o9, rfl⟩)
    | (go_at_call 22; refine (C94.out _ (by with_reducible exact bl_alloc (bl_alloc (bl_alloc (bl_refl _))))).mono ?_; rintro e w3 ⟨ad, cc, base, pb, ra, rk, rfl, hPP⟩; have HK3 : Hid (PK ((w.alloc (.cells #[.int .i64 (W : Int), .int .i64 (H : Int), .slice (some ⟨b, off, none⟩) zs.length cap, .slice cb n ccap] 25)).alloc (.cells #[.slice none 0 0, .map none, .map none] 40)) w3 base ra rk (.slice ad L.length cc) L (gix L) (fun _ => none)) := hPP.pk.base (bl_alloc (bl_refl _)); have s0 : w3.cell? ⟨w.heap.size, 0, none⟩ = some (.int .i64 (W : Int)) := cl_kept HK3.out.2.2.2.2 (by simp [go_sem]); have s1 : w3.cell? ⟨w.heap.size, 1, none⟩ = some (.int .i64 (H : Int)) := cl_kept HK3.out.2.2.2.2 (by simp [go_sem]); have s2 : w3.cell? ⟨w.heap.size, 2, none⟩ = some (.slice (some ⟨b, off, none⟩) zs.length cap) := cl_kept HK3.out.2.2.2.2 (by simp [go_sem]); have s3 : w3.cell? ⟨w.heap.size, 3, none⟩ = some (.slice cb n ccap) := cl_kept HK3.out.2.2.2.2 (by simp [go_sem]); have z3 : w.heap.size < w3.heap.size := World.block_lt_of_cell? _ _ s0; have z3b : w.heap.size + 1 < w3.heap.size := Nat.lt_of_lt_of_le (by simp) HK3.out.2.2.2.2.size; clear hPP)
    | (go_at_call 23; refine (C95.out _ _ cc ra rk (bl_alloc (bl_via (bl_alloc (bl_alloc (bl_refl _))) HK3.out.2.2.2.2)) (HK3.out.pa.kept (bl_alloc (bl_refl _)))).mono ?_; rintro e w4 ⟨bb4, rfl, hb4, hbl4⟩; obtain rfl : bb4 = true := hb4.2 HJ.out; have HK4 : Hid (PK ((w.alloc (.cells #[.int .i64 (W : Int), .int .i64 (H : Int), .slice (some ⟨b, off, none⟩) zs.length cap, .slice cb n ccap] 25)).alloc (.cells #[.slice none 0 0, .map none, .map none] 40)) w4 base ra rk (.slice ad L.length cc) L (gix L) (fun _ => none) ∧ Below w3.heap.size w3 w4) := ⟨HK3.out.kept (bl_via (bl_alloc (bl_refl _)) hbl4), bl_via (bl_alloc (bl_refl _)) hbl4⟩; have r0 : w4.cell? ⟨w.heap.size, 0, none⟩ = some (.int .i64 (W : Int)) := cl_kept HK4.out.2 s0; have r1 : w4.cell? ⟨w.heap.size, 1, none⟩ = some (.int .i64 (H : Int)) := cl_kept HK4.out.2 s1; have r2 : w4.cell? ⟨w.heap.size, 2, none⟩ = some (.slice (some ⟨b, off, none⟩) zs.length cap) := cl_kept HK4.out.2 s2; have r3 : w4.cell? ⟨w.heap.size, 3, none⟩ = some (.slice cb n ccap) := cl_kept HK4.out.2 s3; have u0p : w4.cell? ⟨w3.heap.size, 0, none⟩ = some (.slice ad L.length cc) := cl_kept hbl4 (by simp [go_sem]); have u1p : w4.cell? ⟨w3.heap.size, 1, none⟩ = some (.map (some ra)) := cl_kept hbl4 (by simp [go_sem]); have u2p : w4.cell? ⟨w3.heap.size, 2, none⟩ = some (.map (some rk)) := cl_kept hbl4 (by simp [go_sem]); have z4 : w.heap.size < w4.heap.size := World.block_lt_of_cell? _ _ r0; have z4b : w3.heap.size < w4.heap.size := World.block_lt_of_cell? _ _ u0p; clear hb4 hbl4)
    | (go_at_call 24; refine (C96.out _ _ cc ra rk (bl_via (bl_alloc (bl_alloc (bl_refl _))) HK4.out.1.2.2.2.2) HK4.out.1.pa).mono ?_; rintro e w5 ⟨bb5, rfl, hb5, hbl5⟩; obtain rfl : bb5 = false := (by cases bb5 with | false => rfl | true => exact absurd (hb5.1 rfl) HC.out); have HK5 : Hid (PK ((w.alloc (.cells #[.int .i64 (W : Int), .int .i64 (H : Int), .slice (some ⟨b, off, none⟩) zs.length cap, .slice cb n ccap] 25)).alloc (.cells #[.slice none 0 0, .map none, .map none] 40)) w5 base ra rk (.slice ad L.length cc) L (gix L) (fun _ => none)) := HK4.out.1.kept hbl5; have v0 : w5.cell? ⟨w.heap.size, 0, none⟩ = some (.int .i64 (W : Int)) := cl_kept hbl5 r0; have v1 : w5.cell? ⟨w.heap.size, 1, none⟩ = some (.int .i64 (H : Int)) := cl_kept hbl5 r1; have v2 : w5.cell? ⟨w.heap.size, 2, none⟩ = some (.slice (some ⟨b, off, none⟩) zs.length cap) := cl_kept hbl5 r2; have v3 : w5.cell? ⟨w.heap.size, 3, none⟩ = some (.slice cb n ccap) := cl_kept hbl5 r3; have x0p : w5.cell? ⟨w3.heap.size, 0, none⟩ = some (.slice ad L.length cc) := cl_kept hbl5 u0p; have x1p : w5.cell? ⟨w3.heap.size, 1, none⟩ = some (.map (some ra)) := cl_kept hbl5 u1p; have x2p : w5.cell? ⟨w3.heap.size, 2, none⟩ = some (.map (some rk)) := cl_kept hbl5 u2p; have z5 : w.heap.size < w5.heap.size := World.block_lt_of_cell? _ _ v0; have c0r : w5.cell? ⟨w.heap.size + 1, 0, none⟩ = some (.slice none 0 0) := cl_kept HK5.out.2.2.2.2 (by simp [go_sem]); have c1r : w5.cell? ⟨w.heap.size + 1, 1, none⟩ = some (.map none) := cl_kept HK5.out.2.2.2.2 (by simp [go_sem]); have c2r : w5.cell? ⟨w.heap.size + 1, 2, none⟩ = some (.map none) := cl_kept HK5.out.2.2.2.2 (by simp [go_sem]); have f0r : w5.frozen? ⟨w.heap.size + 1, 0, none⟩ = false := (HK5.out.2.2.2.2.frozen (p := ⟨w.heap.size + 1, 0, none⟩) (by simp)).trans (by simp [go_sem]); have f1r : w5.frozen? ⟨w.heap.size + 1, 1, none⟩ = false := (HK5.out.2.2.2.2.frozen (p := ⟨w.heap.size + 1, 1, none⟩) (by simp)).trans (by simp [go_sem]); have f2r : w5.frozen? ⟨w.heap.size + 1, 2, none⟩ = false := (HK5.out.2.2.2.2.frozen (p := ⟨w.heap.size + 1, 2, none⟩) (by simp)).trans (by simp [go_sem]); clear hb5 hbl5))
  refine bodyPost_ret (v := .tuple #[.agg #[.slice none 0 0, .map none, .map none], .bool false]) ?_ rfl ⟨rfl, ?_⟩
  · simp [results, Tryd.results12, go_sem, c0r, c1r, c2r]
  · have hq := bl_via (bl_alloc (bl_alloc (bl_refl w))) HK5.out.2.2.2.2
    exact ((hq.setCell (p := ⟨w.heap.size + 1, 0, none⟩) (by simp) _).setCell (p := ⟨w.heap.size + 1, 1, none⟩) (by simp) _).setCell (p := ⟨w.heap.size + 1, 2, none⟩) (by simp) _
end Go.Proofs.YtehmoacggikfmaaDoor
