/- A part of the proof of a law on sheets. -/
import Derived.Test.YtmjneoaciopioaaDoorQmbv
import Derived.Test.YtmjneoaciopioaaDoorQmbq
import Derived.Test.YtmjneoaciopioaaDoorQmae
import Derived.Test.YtmjneoaciopioaaDoorQmbt
import Derived.Test.YtmjneoaciopioaaDoorQmbx
namespace Go.Proofs.YtmjneoaciopioaaDoor
open Go.RowKit Go.ChangeMaps

set_option maxRecDepth 100000 in
set_option maxHeartbeats 3200000 in
theorem facesTell_no (W H : Int) (a c : Option Addr) (ca cc n : Nat) (zs ks : List Int) (w : World) (hz : Row w a zs) (hk : Row w c ks) (hn : ks.length = n * 5) (h1 : zs.length ≤ 17592186044416) (h2 : n ≤ 3518437208883) (hLay : LayNo w W H zs ks n) (hMay : MayIs w W H a c ca cc zs n false) :
    Calls Tryd.prog 3 #[.agg #[.int .i64 W, .int .i64 H, .slice a zs.length ca, .slice c n cc]] w fun e w' => e = .returned (.bool true) ∧ Below w.heap.size w w' := by
  have HZ : Hid (Row w a zs) := hz
  have HK : Hid (Row w c ks) := hk
  have HN : Hid (ks.length = n * 5 ∧ zs.length ≤ 17592186044416 ∧ n ≤ 3518437208883) := ⟨hn, h1, h2⟩
  have HLAY : Hid (LayNo w W H zs ks n) := hLay
  have HMAY : Hid (MayIs w W H a c ca cc zs n false) := hMay
  clear hz hk hn h1 h2 hLay hMay
  go_enter Tryd.func3, Tryd.ntmps3
  go_wp2_with (first
    | (go_at_call 8; refine (sheetOf_any W H a c ca cc n zs ks _ (HZ.out.kept (by with_reducible (first | exact HB.out | exact bl_alloc (bl_refl _)))) (HK.out.kept (by with_reducible (first | exact HB.out | exact bl_alloc (bl_refl _)))) HN.out.1 HN.out.2.1 HN.out.2.2).mono ?_; rintro e w2 ⟨a', ca', b', cb', rfl, hrow, hrk, hb⟩; have s0 : w2.cell? ⟨w.heap.size, 0, none⟩ = some (.int .i64 W) := cl_kept hb (by first | (with_reducible assumption) | (simp [go_sem]; done)); have s1 : w2.cell? ⟨w.heap.size, 1, none⟩ = some (.int .i64 H) := cl_kept hb (by first | (with_reducible assumption) | (simp [go_sem]; done)); have s2 : w2.cell? ⟨w.heap.size, 2, none⟩ = some (.slice a zs.length ca) := cl_kept hb (by first | (with_reducible assumption) | (simp [go_sem]; done)); have s3 : w2.cell? ⟨w.heap.size, 3, none⟩ = some (.slice c n cc) := cl_kept hb (by first | (with_reducible assumption) | (simp [go_sem]; done)); have HRow : Hid (Row w2 a' zs ∧ Row w2 b' ks) := ⟨hrow.row, hrk.row⟩; clear hrow hrk; have hq : Below w.heap.size w w2 := (by with_reducible (first | exact bl_via HB.out hb | exact bl_via (bl_alloc (bl_refl _)) hb)); have HB : Hid (Below w.heap.size w w2) := hq; have zs0 : w.heap.size < w2.heap.size := World.block_lt_of_cell? _ _ s0; clear hb hq)
    | (go_at_call 7; refine (Faces_no W H _ _ _ _ _ _ _ (fun W' hW' => HLAY.out W' _ _ _ _ (bl_via HB.out hW') (HRow.out.1.kept hW') (HRow.out.2.kept hW'))).mono ?_; rintro e w2 ⟨rfl, hb⟩; have s0 : w2.cell? ⟨w.heap.size, 0, none⟩ = some (.int .i64 W) := cl_kept hb (by first | (with_reducible assumption) | (simp [go_sem]; done)); have s1 : w2.cell? ⟨w.heap.size, 1, none⟩ = some (.int .i64 H) := cl_kept hb (by first | (with_reducible assumption) | (simp [go_sem]; done)); have s2 : w2.cell? ⟨w.heap.size, 2, none⟩ = some (.slice a zs.length ca) := cl_kept hb (by first | (with_reducible assumption) | (simp [go_sem]; done)); have s3 : w2.cell? ⟨w.heap.size, 3, none⟩ = some (.slice c n cc) := cl_kept hb (by first | (with_reducible assumption) | (simp [go_sem]; done)); have hq : Below w.heap.size w w2 := (by with_reducible (first | exact bl_via HB.out hb | exact bl_via (bl_alloc (bl_refl _)) hb)); have HB : Hid (Below w.heap.size w w2) := hq; have zs0 : w.heap.size < w2.heap.size := World.block_lt_of_cell? _ _ s0; clear hb hq)
    | (go_at_call 9; refine (Holes_no W H _ _ _ _ _ _ _ (fun W' hW' => HLAY.out W' _ _ _ _ (bl_via HB.out hW') (HRow.out.1.kept hW') (HRow.out.2.kept hW'))).mono ?_; rintro e w2 ⟨rfl, hb⟩; have s0 : w2.cell? ⟨w.heap.size, 0, none⟩ = some (.int .i64 W) := cl_kept hb (by first | (with_reducible assumption) | (simp [go_sem]; done)); have s1 : w2.cell? ⟨w.heap.size, 1, none⟩ = some (.int .i64 H) := cl_kept hb (by first | (with_reducible assumption) | (simp [go_sem]; done)); have s2 : w2.cell? ⟨w.heap.size, 2, none⟩ = some (.slice a zs.length ca) := cl_kept hb (by first | (with_reducible assumption) | (simp [go_sem]; done)); have s3 : w2.cell? ⟨w.heap.size, 3, none⟩ = some (.slice c n cc) := cl_kept hb (by first | (with_reducible assumption) | (simp [go_sem]; done)); have hq : Below w.heap.size w w2 := (by with_reducible (first | exact bl_via HB.out hb | exact bl_via (bl_alloc (bl_refl _)) hb)); have HB : Hid (Below w.heap.size w w2) := hq; have zs0 : w.heap.size < w2.heap.size := World.block_lt_of_cell? _ _ s0; clear hb hq)
    | (go_at_call 10; refine (HMAY.out _ (by with_reducible (first | exact HB.out | exact bl_alloc (bl_refl _)))).mono ?_; rintro e w2 ⟨rfl, hb⟩; have s0 : w2.cell? ⟨w.heap.size, 0, none⟩ = some (.int .i64 W) := cl_kept hb (by first | (with_reducible assumption) | (simp [go_sem]; done)); have s1 : w2.cell? ⟨w.heap.size, 1, none⟩ = some (.int .i64 H) := cl_kept hb (by first | (with_reducible assumption) | (simp [go_sem]; done)); have s2 : w2.cell? ⟨w.heap.size, 2, none⟩ = some (.slice a zs.length ca) := cl_kept hb (by first | (with_reducible assumption) | (simp [go_sem]; done)); have s3 : w2.cell? ⟨w.heap.size, 3, none⟩ = some (.slice c n cc) := cl_kept hb (by first | (with_reducible assumption) | (simp [go_sem]; done)); have hq : Below w.heap.size w w2 := (by with_reducible (first | exact bl_via HB.out hb | exact bl_via (bl_alloc (bl_refl _)) hb)); have HB : Hid (Below w.heap.size w w2) := hq; have zs0 : w.heap.size < w2.heap.size := World.block_lt_of_cell? _ _ s0; clear hb hq))
  go_ret
  exact ⟨rfl, HB.out⟩

theorem once_is {α : Type} [DecidableEq α] : ∀ l : List α, ∃ E : List α, E.Nodup ∧ ∀ x, x ∈ E ↔ x ∈ l
  | [] => ⟨[], by simp, by simp⟩
  | a :: l => by
    obtain ⟨E, h1, h2⟩ := once_is l
    by_cases h : a ∈ E
    · refine ⟨E, h1, fun x => ?_⟩
      rw [List.mem_cons, ← h2 x]
      constructor
      · exact Or.inr
      · rintro (rfl | q)
        · exact h
        · exact q
    · exact ⟨a :: E, List.nodup_cons.2 ⟨h, h1⟩, fun x => by rw [List.mem_cons, List.mem_cons, h2 x]⟩
theorem edges_is (L : List (Int × Int × Int)) : ∃ E, EdgeSet L E := by
  obtain ⟨E, h1, h2⟩ := once_is (L.flatMap fun t => [edg t 0, edg t 1, edg t 2])
  refine ⟨E, h1, fun e => ?_⟩
  rw [h2 e, List.mem_flatMap]
  constructor
  · rintro ⟨t, ht, he⟩
    refine ⟨t, ht, ?_⟩
    simp only [List.mem_cons, List.not_mem_nil, or_false] at he
    rcases he with rfl | rfl | rfl <;> exact edg_own _ _
  · rintro ⟨t, ht, he⟩
    obtain ⟨k, hk, rfl⟩ := hasT_edg he
    refine ⟨t, ht, ?_⟩
    have : k = 0 ∨ k = 1 ∨ k = 2 := by omega
    rcases this with rfl | rfl | rfl <;> simp
theorem NRd.kept' {w wx : World} {a : Option Addr} {F : List (List (Int × Int × Int))} (h : NRd w a F) (hb : Below w.heap.size w wx) : Hid (NRd wx a F) := h.kept hb

set_option maxRecDepth 100000 in
set_option maxHeartbeats 3200000 in
theorem facesTell_yes (Wn Hn b off ca n cc : Nat) (c : Option Addr) (zs ks : List Int) (w : World) (hr : Row w (some ⟨b, off, none⟩) zs) (hW : 1 ≤ Wn ∧ Wn ≤ 8) (hH : 1 ≤ Hn ∧ Hn ≤ 8) (hl : zs.length = Wn * Hn) (hm : maskB zs = true) (hk : Row w c ks) (hn : ks.length = n * 5) (hn2 : n ≤ 3518437208883) (hs : Steps w) (hJ : Joined (ty zs Wn Hn)) (hC : ∀ i, i < n → CrOk (ty zs Wn Hn) ks i) (hMay : MayIs w (Wn : Int) (Hn : Int) (some ⟨b, off, none⟩) c ca cc zs n true) :
    Calls Tryd.prog 3 #[.agg #[.int .i64 (Wn : Int), .int .i64 (Hn : Int), .slice (some ⟨b, off, none⟩) zs.length ca, .slice c n cc]] w fun e w' => e = .returned (.bool true) ∧ Below w.heap.size w w' := by
  have HZ : Hid (Row w (some ⟨b, off, none⟩) zs) := hr
  have HK : Hid (Row w c ks) := hk
  have h64 : zs.length ≤ 64 := by rw [hl]; exact Nat.le_trans (Nat.mul_le_mul hW.2 hH.2) (by decide)
  have HN : Hid (ks.length = n * 5 ∧ zs.length ≤ 17592186044416 ∧ n ≤ 3518437208883) := ⟨hn, by omega, hn2⟩
  have h0 : 0 < zs.length := by
    rw [hl]
    exact Nat.mul_pos (by omega) (by omega)
  have HN0 : Hid (0 < zs.length) := h0
  have HMAY : Hid (MayIs w (Wn : Int) (Hn : Int) (some ⟨b, off, none⟩) c ca cc zs n true) := hMay
  have hlen : (ty zs Wn Hn).length ≤ 256 := by have := ty_len zs Wn Hn hW.2; omega
  have hkd : ∀ t ∈ ty zs Wn Hn, Kd t := fun t ht => (ty_bd hW.2 hH.2 t ht).2.2
  have hnd := ty_nodup zs Wn Hn
  obtain ⟨pts, hpts, hpl0⟩ := spt_is ((ty zs Wn Hn).flatMap cnr)
  have hpl : pts.length ≤ 3 * (ty zs Wn Hn).length := by
    refine Nat.le_trans hpl0 (Nat.le_of_eq ?_)
    generalize ty zs Wn Hn = l
    induction l with
    | nil => rfl
    | cons t l ih =>
      rw [List.flatMap_cons, List.length_append, ih, List.length_cons]
      simp [cnr]
      omega
  -- what the two sides answer, in one form
  have CF : Hid (∀ (W' : World) (ba oa ca' : Nat) (c' : Option Addr) (cc' : Nat), Below w.heap.size w W' → Row W' (some ⟨ba, oa, none⟩) zs → Row W' c' ks → Calls Tryd.prog 7 #[.agg #[.int .i64 (Wn : Int), .int .i64 (Hn : Int), .slice (some ⟨ba, oa, none⟩) zs.length ca', .slice c' n cc']] W' fun e w' => ∃ F part a3 c3, e = .returned (.tuple #[.slice a3 F.length c3, .int .i64 0]) ∧ (PartsOk (fun e => decide (kdn ks n e = 0)) (ty zs Wn Hn) part ∧ F = fcs (ty zs Wn Hn) part (ty zs Wn Hn).length) ∧ NRd w' a3 F ∧ Below W'.heap.size W' w') := fun W' ba oa ca' c' cc' hb q1 q2 => (Faces_yes Wn Hn ba oa ca' n cc' c' zs ks W' q1 hW hH hl hm q2 hn hn2 (hs.kept hb) hJ hC).mono fun e w' ⟨hb', v, part, hp, he, hN⟩ => by
    obtain ⟨a3, c3, rfl, hR⟩ := hN.read
    exact ⟨_, part, a3, c3, he, ⟨hp, rfl⟩, hR, hb'⟩
  have CR : Hid (∀ W' : World, Below w.heap.size w W' → Calls Tryd.prog 11 #[.agg #[.int .i64 (Wn : Int), .int .i64 (Hn : Int), .slice (some ⟨b, off, none⟩) zs.length ca, .slice c n cc]] W' fun e w' => ∃ F a4 c4, e = .returned (.slice a4 F.length c4) ∧ (∀ part, PartsOk (fun e => decide (kdn ks n e = 0)) (ty zs Wn Hn) part → fcs (ty zs Wn Hn) part (ty zs Wn Hn).length = F) ∧ NRd w' a4 F ∧ Below W'.heap.size W' w') := fun W' hb => (refFaces_any Wn Hn b off ca n cc c zs ks W' (hr.kept hb) hW hH hl hm (row_crow (hk.kept hb) hn) (cr_one hC) hn2).mono fun e w' ⟨v, who, he, hw, hN, hb'⟩ => by
    obtain ⟨a4, c4, rfl, hR⟩ := hN.read
    exact ⟨_, a4, c4, he, fun part hp => faces_same hnd hkd hp hw.1 hw.2, hR, hb'⟩
  obtain ⟨m, hm2⟩ : ∃ m : Nat, ((ty zs Wn Hn).map (g3 (ty zs Wn Hn))).sum = 2 * m ∧ ∀ E, EdgeSet (ty zs Wn Hn) E → E.length = m := by
    obtain ⟨E, hE⟩ := edges_is (ty zs Wn Hn)
    exact ⟨E.length, edges_twice hE hnd hkd, fun E2 h2 => same_len h2.1 hE.1 (fun e => by rw [h2.2 e, hE.2 e])⟩
  have CH : Hid (∀ (W' : World) (ba oa ca' : Nat) (c' : Option Addr) (cc' : Nat), Below w.heap.size w W' → Row W' (some ⟨ba, oa, none⟩) zs → Row W' c' ks → Calls Tryd.prog 9 #[.agg #[.int .i64 (Wn : Int), .int .i64 (Hn : Int), .slice (some ⟨ba, oa, none⟩) zs.length ca', .slice c' n cc']] W' fun e w' => e = .returned (.tuple #[.int .i64 (1 - (pts.length : Int) + (m : Int) - ((ty zs Wn Hn).length : Int)), .int .i64 0]) ∧ Below W'.heap.size W' w') := fun W' ba oa ca' c' cc' hb q1 q2 => (Holes_yes Wn Hn ba oa ca' n cc' c' zs ks W' q1 hW hH hl hm q2 hn hn2 (hs.kept hb) hJ hC pts hpts hpl).mono fun e w' ⟨E, hE, _, he, hb'⟩ => ⟨by rw [he, hm2.2 E hE], hb'⟩
  have CHR : Hid (∀ W' : World, Below w.heap.size w W' → Calls Tryd.prog 12 #[.agg #[.int .i64 (Wn : Int), .int .i64 (Hn : Int), .slice (some ⟨b, off, none⟩) zs.length ca, .slice c n cc]] W' fun e w' => e = .returned (.int .i64 (1 - (pts.length : Int) + (m : Int) - ((ty zs Wn Hn).length : Int))) ∧ Below W'.heap.size W' w') := fun W' hb => (holesOf_any Wn Hn b off ca zs c n cc m W' (hr.kept hb) hW hH hl hm hm2.1).mono fun e w' ⟨pts2, he, hS, _, hb'⟩ => ⟨by rw [he, same_len hS.nodup hpts.nodup (fun p => by rw [hS.2 p, hpts.2 p])], hb'⟩
  obtain ⟨L, hL⟩ : ∃ L, L = ty zs Wn Hn := ⟨_, rfl⟩
  rw [← hL] at CF CR CH CHR hlen
  obtain ⟨Z, hZ⟩ : ∃ Z : Int, Z = 1 - (pts.length : Int) + (m : Int) - (L.length : Int) := ⟨_, rfl⟩
  rw [← hZ] at CH CHR
  clear hr hk hl hm hW hH hn hs hJ hC hMay h0 h64 hL hkd hnd hpts hpl0 hpl hm2 hZ
  go_enter Tryd.func3, Tryd.ntmps3
  go_wp2_with (first
    | (go_at_call 8; refine (sheetOf_any (Wn : Int) (Hn : Int) (some ⟨b, off, none⟩) c ca cc n zs ks _ (HZ.out.kept (by with_reducible (first | exact HB.out | exact bl_alloc (bl_refl _)))) (HK.out.kept (by with_reducible (first | exact HB.out | exact bl_alloc (bl_refl _)))) HN.out.1 HN.out.2.1 HN.out.2.2).mono ?_; rintro e w2 ⟨a', ca', b', cb', rfl, hrow, hrk, hb⟩; have s0 : w2.cell? ⟨w.heap.size, 0, none⟩ = some (.int .i64 (Wn : Int)) := cl_kept hb (by first | (with_reducible assumption) | (simp [go_sem]; done)); have s1 : w2.cell? ⟨w.heap.size, 1, none⟩ = some (.int .i64 (Hn : Int)) := cl_kept hb (by first | (with_reducible assumption) | (simp [go_sem]; done)); have s2 : w2.cell? ⟨w.heap.size, 2, none⟩ = some (.slice (some ⟨b, off, none⟩) zs.length ca) := cl_kept hb (by first | (with_reducible assumption) | (simp [go_sem]; done)); have s3 : w2.cell? ⟨w.heap.size, 3, none⟩ = some (.slice c n cc) := cl_kept hb (by first | (with_reducible assumption) | (simp [go_sem]; done)); obtain ⟨ba, oa, rfl, _⟩ := hrow.row 0 HN0.out; have HRow : Hid (Row w2 (some ⟨ba, oa, none⟩) zs ∧ Row w2 b' ks) := ⟨hrow.row, hrk.row⟩; clear hrow hrk; (try (have HM := HM.out.kept' hb)); have hq : Below w.heap.size w w2 := (by with_reducible (first | exact bl_via HB.out hb | exact bl_via (bl_alloc (bl_refl _)) hb)); have HB : Hid (Below w.heap.size w w2) := hq; have zs0 : w.heap.size < w2.heap.size := World.block_lt_of_cell? _ _ s0; clear hb hq)
    | (go_at_call 7; refine (CF.out _ _ _ _ _ _ HB.out HRow.out.1 HRow.out.2).mono ?_; rintro e w2 ⟨F, part, a3, c3, rfl, hpf, hnr, hb⟩; have s0 : w2.cell? ⟨w.heap.size, 0, none⟩ = some (.int .i64 (Wn : Int)) := cl_kept hb (by first | (with_reducible assumption) | (simp [go_sem]; done)); have s1 : w2.cell? ⟨w.heap.size, 1, none⟩ = some (.int .i64 (Hn : Int)) := cl_kept hb (by first | (with_reducible assumption) | (simp [go_sem]; done)); have s2 : w2.cell? ⟨w.heap.size, 2, none⟩ = some (.slice (some ⟨b, off, none⟩) zs.length ca) := cl_kept hb (by first | (with_reducible assumption) | (simp [go_sem]; done)); have s3 : w2.cell? ⟨w.heap.size, 3, none⟩ = some (.slice c n cc) := cl_kept hb (by first | (with_reducible assumption) | (simp [go_sem]; done)); have HPF : Hid (PartsOk (fun e => decide (kdn ks n e = 0)) L part ∧ F = fcs L part L.length) := hpf; have HM : Hid (NRd w2 a3 F) := hnr; clear hpf hnr; have hq : Below w.heap.size w w2 := (by with_reducible (first | exact bl_via HB.out hb | exact bl_via (bl_alloc (bl_refl _)) hb)); have HB : Hid (Below w.heap.size w w2) := hq; have zs0 : w.heap.size < w2.heap.size := World.block_lt_of_cell? _ _ s0; clear hb hq)
    | (go_at_call 9; refine (CH.out _ _ _ _ _ _ HB.out HRow.out.1 HRow.out.2).mono ?_; rintro e w2 ⟨rfl, hb⟩; have s0 : w2.cell? ⟨w.heap.size, 0, none⟩ = some (.int .i64 (Wn : Int)) := cl_kept hb (by first | (with_reducible assumption) | (simp [go_sem]; done)); have s1 : w2.cell? ⟨w.heap.size, 1, none⟩ = some (.int .i64 (Hn : Int)) := cl_kept hb (by first | (with_reducible assumption) | (simp [go_sem]; done)); have s2 : w2.cell? ⟨w.heap.size, 2, none⟩ = some (.slice (some ⟨b, off, none⟩) zs.length ca) := cl_kept hb (by first | (with_reducible assumption) | (simp [go_sem]; done)); have s3 : w2.cell? ⟨w.heap.size, 3, none⟩ = some (.slice c n cc) := cl_kept hb (by first | (with_reducible assumption) | (simp [go_sem]; done)); have HM := HM.out.kept' hb; have hq : Below w.heap.size w w2 := (by with_reducible (first | exact bl_via HB.out hb | exact bl_via (bl_alloc (bl_refl _)) hb)); have HB : Hid (Below w.heap.size w w2) := hq; have zs0 : w.heap.size < w2.heap.size := World.block_lt_of_cell? _ _ s0; clear hb hq)
    | (go_at_call 10; refine (HMAY.out _ (by with_reducible (first | exact HB.out | exact bl_alloc (bl_refl _)))).mono ?_; rintro e w2 ⟨rfl, hb⟩; have s0 : w2.cell? ⟨w.heap.size, 0, none⟩ = some (.int .i64 (Wn : Int)) := cl_kept hb (by first | (with_reducible assumption) | (simp [go_sem]; done)); have s1 : w2.cell? ⟨w.heap.size, 1, none⟩ = some (.int .i64 (Hn : Int)) := cl_kept hb (by first | (with_reducible assumption) | (simp [go_sem]; done)); have s2 : w2.cell? ⟨w.heap.size, 2, none⟩ = some (.slice (some ⟨b, off, none⟩) zs.length ca) := cl_kept hb (by first | (with_reducible assumption) | (simp [go_sem]; done)); have s3 : w2.cell? ⟨w.heap.size, 3, none⟩ = some (.slice c n cc) := cl_kept hb (by first | (with_reducible assumption) | (simp [go_sem]; done)); have HM := HM.out.kept' hb; have hq : Below w.heap.size w w2 := (by with_reducible (first | exact bl_via HB.out hb | exact bl_via (bl_alloc (bl_refl _)) hb)); have HB : Hid (Below w.heap.size w w2) := hq; have zs0 : w.heap.size < w2.heap.size := World.block_lt_of_cell? _ _ s0; clear hb hq)
    | (go_at_call 11; refine (CR.out _ HB.out).mono ?_; rintro e w2 ⟨F2, a4, c4, rfl, hf2, hnr, hb⟩; have s0 : w2.cell? ⟨w.heap.size, 0, none⟩ = some (.int .i64 (Wn : Int)) := cl_kept hb (by first | (with_reducible assumption) | (simp [go_sem]; done)); have s1 : w2.cell? ⟨w.heap.size, 1, none⟩ = some (.int .i64 (Hn : Int)) := cl_kept hb (by first | (with_reducible assumption) | (simp [go_sem]; done)); have s2 : w2.cell? ⟨w.heap.size, 2, none⟩ = some (.slice (some ⟨b, off, none⟩) zs.length ca) := cl_kept hb (by first | (with_reducible assumption) | (simp [go_sem]; done)); have s3 : w2.cell? ⟨w.heap.size, 3, none⟩ = some (.slice c n cc) := cl_kept hb (by first | (with_reducible assumption) | (simp [go_sem]; done)); have HM := HM.out.kept' hb; obtain rfl : F2 = F := ((hf2 part HPF.out.1).symm.trans HPF.out.2.symm); have HM2 : Hid (NRd w2 a4 F2) := hnr; clear hf2 hnr; have hq : Below w.heap.size w w2 := (by with_reducible (first | exact bl_via HB.out hb | exact bl_via (bl_alloc (bl_refl _)) hb)); have HB : Hid (Below w.heap.size w w2) := hq; have zs0 : w.heap.size < w2.heap.size := World.block_lt_of_cell? _ _ s0; clear hb hq)
    | (go_at_call 12; refine (CHR.out _ HB.out).mono ?_; rintro e w2 ⟨rfl, hb⟩; have s0 : w2.cell? ⟨w.heap.size, 0, none⟩ = some (.int .i64 (Wn : Int)) := cl_kept hb (by first | (with_reducible assumption) | (simp [go_sem]; done)); have s1 : w2.cell? ⟨w.heap.size, 1, none⟩ = some (.int .i64 (Hn : Int)) := cl_kept hb (by first | (with_reducible assumption) | (simp [go_sem]; done)); have s2 : w2.cell? ⟨w.heap.size, 2, none⟩ = some (.slice (some ⟨b, off, none⟩) zs.length ca) := cl_kept hb (by first | (with_reducible assumption) | (simp [go_sem]; done)); have s3 : w2.cell? ⟨w.heap.size, 3, none⟩ = some (.slice c n cc) := cl_kept hb (by first | (with_reducible assumption) | (simp [go_sem]; done)); have HM := HM.out.kept' hb; have HM2 := HM2.out.kept' hb; have hq : Below w.heap.size w w2 := (by with_reducible (first | exact bl_via HB.out hb | exact bl_via (bl_alloc (bl_refl _)) hb)); have HB : Hid (Below w.heap.size w w2) := hq; have zs0 : w.heap.size < w2.heap.size := World.block_lt_of_cell? _ _ s0; clear hb hq))
  have hfl : F2.length ≤ 256 := by
    rw [HPF.out.2]
    exact Nat.le_trans (fcs_le L part L.length) hlen
  have HRB : Hid (∀ f ∈ F2, f.length ≤ 300) := fun f hf => by
    have h8 := HPF.out.2
    rw [h8] at hf
    have := fcs_row L part L.length f hf
    omega
  clear s0 s1 s2 s3 zs0
  go_loopg [8] F2.length (fun gk s8 wx => ∃ i : Nat, i ≤ F2.length ∧ gk = F2.length - i ∧ s8 = .int .i64 (i : Int) ∧ NRd wx a3 F2 ∧ NRd wx a4 F2 ∧ Below w.heap.size w wx)
  case atStart => exact ⟨0, by omega, rfl, rfl, HM.out, HM2.out, HB.out⟩
  case round =>
    obtain ⟨i, hi, rfl, rfl, hr1, hr2, hbw⟩ := hrel
    have HR : Hid (NRd wr a3 F2 ∧ NRd wr a4 F2 ∧ Below w.heap.size w wr) := ⟨hr1, hr2, hbw⟩
    clear hr1 hr2 hbw
    by_cases hi1 : i < F2.length
    · have i1 : (i : Int) < (F2.length : Int) := by omega
      have i0 : (0 : Int) ≤ (i : Int) := by omega
      obtain ⟨g1, a5, c5, ea3, y0, T1⟩ := HR.out.1 i hi1
      obtain ⟨g2, a6, c6, ea4, x0, T2⟩ := HR.out.2.1 i hi1
      subst ea3
      subst ea4
      have z1 : g1 < wr.heap.size := World.block_lt_of_cell? _ _ y0
      have z2 : g2 < wr.heap.size := World.block_lt_of_cell? _ _ x0
      have CS : Hid (∀ W' : World, Below wr.heap.size wr W' → Calls Tryd.prog 13 #[.slice a5 F2[i].length c5, .slice a6 F2[i].length c6] W' fun e w' => e = .returned (.bool true) ∧ Below W'.heap.size W' w') := fun W' hW' => sameTris_yes a5 a6 c5 c6 F2[i] W' (HRB.out _ (List.getElem_mem hi1)) (T1.kept hW') (T2.kept hW')
      obtain ⟨fl, hfl2⟩ : ∃ q, q = F2[i].length := ⟨_, rfl⟩
      rw [← hfl2] at CS y0 x0
      clear T1 T2 hfl2
      have kc := Kin.cells wr
      have kn : Nonempty (Kin wr) := ⟨⟨wr, bl_refl _⟩⟩
      go_wp2
      refine wp_region_kin (by kernel_rfl) (by kernel_rfl) ?_
      repeat (go_big_quiet_step ((go_at_call 13; exact kin_of (CS.out _ (Kin.h _)))))
      refine wpQuiet_nil ?_
      intro wq hw'
      obtain ⟨nq, hw''⟩ := hw'
      have hq : Below wr.heap.size wr wq := hw'' ▸ nq.h
      have HQ : Hid (NRd wq (some ⟨g1, 0, none⟩) F2 ∧ NRd wq (some ⟨g2, 0, none⟩) F2 ∧ Below w.heap.size w wq) := ⟨HR.out.1.kept hq, HR.out.2.1.kept hq, bl_via HR.out.2.2 hq⟩
      clear hw'' nq hq kc kn z1 z2 y0 x0
      go_wp2
      go_roundg (F2.length - (i + 1))
      case measure => omega
      case rel => exact ⟨i + 1, by omega, rfl, by go_num, HQ.out.1, HQ.out.2.1, HQ.out.2.2⟩
    · have i1 : ¬ (i : Int) < (F2.length : Int) := by omega
      go_wp2
      go_ret
      exact ⟨rfl, HR.out.2.2⟩

theorem facesTell_any (W H : Int) (a c : Option Addr) (ca cc n : Nat) (zs ks : List Int) (w : World) (hz : Row w a zs) (hk : Row w c ks) (hn : ks.length = n * 5) (h1 : zs.length ≤ 17592186044416) (h2 : n ≤ 3518437208883) (hs : Steps w) :
    Calls Tryd.prog 3 #[.agg #[.int .i64 W, .int .i64 H, .slice a zs.length ca, .slice c n cc]] w fun e w' => e = .returned (.bool true) ∧ Below w.heap.size w w' := by
  rcases sheet_either W H a c ca cc n zs ks w hz hk hn h2 hs with ⟨q1, q2⟩ | ⟨Wn, Hn, b, off, rfl, rfl, rfl, hW, hH, hl, hm, hJ, hC, hMay⟩
  · exact facesTell_no W H a c ca cc n zs ks w hz hk hn h1 h2 q1 q2
  · exact facesTell_yes Wn Hn b off ca n cc c zs ks w hz hW hH hl hm hk hn h2 hs hJ hC hMay

set_option maxRecDepth 100000 in
set_option maxHeartbeats 3200000 in
theorem facesStars_no (W H : Int) (a c : Option Addr) (ca cc n : Nat) (zs ks : List Int) (w : World) (hz : Row w a zs) (hk : Row w c ks) (hn : ks.length = n * 5) (h1 : zs.length ≤ 17592186044416) (h2 : n ≤ 3518437208883) (hLay : LayNo w W H zs ks n) (hMay : MayIs w W H a c ca cc zs n false) :
    Calls Tryd.prog 4 #[.agg #[.int .i64 W, .int .i64 H, .slice a zs.length ca, .slice c n cc]] w fun e w' => e = .returned (.bool true) ∧ Below w.heap.size w w' := by
  have HZ : Hid (Row w a zs) := hz
  have HK : Hid (Row w c ks) := hk
  have HN : Hid (ks.length = n * 5 ∧ zs.length ≤ 17592186044416 ∧ n ≤ 3518437208883) := ⟨hn, h1, h2⟩
  have HLAY : Hid (LayNo w W H zs ks n) := hLay
  have HMAY : Hid (MayIs w W H a c ca cc zs n false) := hMay
  clear hz hk hn h1 h2 hLay hMay
  go_enter Tryd.func4, Tryd.ntmps4
  go_wp2_with (first
    | (go_at_call 8; refine (sheetOf_any W H a c ca cc n zs ks _ (HZ.out.kept (by with_reducible (first | exact HB.out | exact bl_alloc (bl_refl _)))) (HK.out.kept (by with_reducible (first | exact HB.out | exact bl_alloc (bl_refl _)))) HN.out.1 HN.out.2.1 HN.out.2.2).mono ?_; rintro e w2 ⟨a', ca', b', cb', rfl, hrow, hrk, hb⟩; have s0 : w2.cell? ⟨w.heap.size, 0, none⟩ = some (.int .i64 W) := cl_kept hb (by first | (with_reducible assumption) | (simp [go_sem]; done)); have s1 : w2.cell? ⟨w.heap.size, 1, none⟩ = some (.int .i64 H) := cl_kept hb (by first | (with_reducible assumption) | (simp [go_sem]; done)); have s2 : w2.cell? ⟨w.heap.size, 2, none⟩ = some (.slice a zs.length ca) := cl_kept hb (by first | (with_reducible assumption) | (simp [go_sem]; done)); have s3 : w2.cell? ⟨w.heap.size, 3, none⟩ = some (.slice c n cc) := cl_kept hb (by first | (with_reducible assumption) | (simp [go_sem]; done)); have HRow : Hid (Row w2 a' zs ∧ Row w2 b' ks) := ⟨hrow.row, hrk.row⟩; clear hrow hrk; have hq : Below w.heap.size w w2 := (by with_reducible (first | exact bl_via HB.out hb | exact bl_via (bl_alloc (bl_refl _)) hb)); have HB : Hid (Below w.heap.size w w2) := hq; have zs0 : w.heap.size < w2.heap.size := World.block_lt_of_cell? _ _ s0; clear hb hq)
    | (go_at_call 14; refine (Stars_no W H _ _ _ _ _ _ _ (fun W' hW' => HLAY.out W' _ _ _ _ (bl_via HB.out hW') (HRow.out.1.kept hW') (HRow.out.2.kept hW'))).mono ?_; rintro e w2 ⟨rfl, hb⟩; have s0 : w2.cell? ⟨w.heap.size, 0, none⟩ = some (.int .i64 W) := cl_kept hb (by first | (with_reducible assumption) | (simp [go_sem]; done)); have s1 : w2.cell? ⟨w.heap.size, 1, none⟩ = some (.int .i64 H) := cl_kept hb (by first | (with_reducible assumption) | (simp [go_sem]; done)); have s2 : w2.cell? ⟨w.heap.size, 2, none⟩ = some (.slice a zs.length ca) := cl_kept hb (by first | (with_reducible assumption) | (simp [go_sem]; done)); have s3 : w2.cell? ⟨w.heap.size, 3, none⟩ = some (.slice c n cc) := cl_kept hb (by first | (with_reducible assumption) | (simp [go_sem]; done)); have hq : Below w.heap.size w w2 := (by with_reducible (first | exact bl_via HB.out hb | exact bl_via (bl_alloc (bl_refl _)) hb)); have HB : Hid (Below w.heap.size w w2) := hq; have zs0 : w.heap.size < w2.heap.size := World.block_lt_of_cell? _ _ s0; clear hb hq)
    | (go_at_call 10; refine (HMAY.out _ (by with_reducible (first | exact HB.out | exact bl_alloc (bl_refl _)))).mono ?_; rintro e w2 ⟨rfl, hb⟩; have s0 : w2.cell? ⟨w.heap.size, 0, none⟩ = some (.int .i64 W) := cl_kept hb (by first | (with_reducible assumption) | (simp [go_sem]; done)); have s1 : w2.cell? ⟨w.heap.size, 1, none⟩ = some (.int .i64 H) := cl_kept hb (by first | (with_reducible assumption) | (simp [go_sem]; done)); have s2 : w2.cell? ⟨w.heap.size, 2, none⟩ = some (.slice a zs.length ca) := cl_kept hb (by first | (with_reducible assumption) | (simp [go_sem]; done)); have s3 : w2.cell? ⟨w.heap.size, 3, none⟩ = some (.slice c n cc) := cl_kept hb (by first | (with_reducible assumption) | (simp [go_sem]; done)); have hq : Below w.heap.size w w2 := (by with_reducible (first | exact bl_via HB.out hb | exact bl_via (bl_alloc (bl_refl _)) hb)); have HB : Hid (Below w.heap.size w w2) := hq; have zs0 : w.heap.size < w2.heap.size := World.block_lt_of_cell? _ _ s0; clear hb hq))
  go_ret
  exact ⟨rfl, HB.out⟩

set_option maxRecDepth 100000 in
set_option maxHeartbeats 3200000 in
theorem facesStars_yes (Wn Hn b off ca n cc : Nat) (c : Option Addr) (zs ks : List Int) (w : World) (hr : Row w (some ⟨b, off, none⟩) zs) (hW : 1 ≤ Wn ∧ Wn ≤ 8) (hH : 1 ≤ Hn ∧ Hn ≤ 8) (hl : zs.length = Wn * Hn) (hm : maskB zs = true) (hk : Row w c ks) (hn : ks.length = n * 5) (hn2 : n ≤ 3518437208883) (hs : Steps w) (hJ : Joined (ty zs Wn Hn)) (hC : ∀ i, i < n → CrOk (ty zs Wn Hn) ks i) (hMay : MayIs w (Wn : Int) (Hn : Int) (some ⟨b, off, none⟩) c ca cc zs n true) :
    Calls Tryd.prog 4 #[.agg #[.int .i64 (Wn : Int), .int .i64 (Hn : Int), .slice (some ⟨b, off, none⟩) zs.length ca, .slice c n cc]] w fun e w' => e = .returned (.bool true) ∧ Below w.heap.size w w' := by
  have HZ : Hid (Row w (some ⟨b, off, none⟩) zs) := hr
  have HK : Hid (Row w c ks) := hk
  have h64 : zs.length ≤ 64 := by rw [hl]; exact Nat.le_trans (Nat.mul_le_mul hW.2 hH.2) (by decide)
  have HN : Hid (ks.length = n * 5 ∧ zs.length ≤ 17592186044416 ∧ n ≤ 3518437208883) := ⟨hn, by omega, hn2⟩
  have h0 : 0 < zs.length := by
    rw [hl]
    exact Nat.mul_pos (by omega) (by omega)
  have HN0 : Hid (0 < zs.length) := h0
  have HMAY : Hid (MayIs w (Wn : Int) (Hn : Int) (some ⟨b, off, none⟩) c ca cc zs n true) := hMay
  have hlen : (ty zs Wn Hn).length ≤ 256 := by have := ty_len zs Wn Hn hW.2; omega
  have hkd : ∀ t ∈ ty zs Wn Hn, Kd t := fun t ht => (ty_bd hW.2 hH.2 t ht).2.2
  have hnd := ty_nodup zs Wn Hn
  have hge : ∀ i, i < n → GE (ck ks i 0, ck ks i 1, ck ks i 2, ck ks i 3) := fun i hi => ge_crease (hC i hi) hkd
  obtain ⟨pts, hpts, hpl0⟩ := spt_is ((ty zs Wn Hn).flatMap cnr)
  have hpl : pts.length ≤ 3 * (ty zs Wn Hn).length := by
    refine Nat.le_trans hpl0 (Nat.le_of_eq ?_)
    generalize ty zs Wn Hn = l
    induction l with
    | nil => rfl
    | cons t l ih =>
      rw [List.flatMap_cons, List.length_append, ih, List.length_cons]
      simp [cnr]
      omega
  obtain ⟨F, hF⟩ : ∃ F : Int × Int → Nat → Int, F = fun pt d => kdn ks n (eP pt d) := ⟨_, rfl⟩
  obtain ⟨K, hK⟩ : ∃ K, K = pts.filter (gref (ty zs Wn Hn) F) := ⟨_, rfl⟩
  have hKl : K.length ≤ 800 := by
    have h9 : K.length ≤ pts.length := by rw [hK]; exact List.length_filter_le ..
    omega
  have CF : Hid (∀ (W' : World) (ba oa ca' : Nat) (c' : Option Addr) (cc' : Nat), Below w.heap.size w W' → Row W' (some ⟨ba, oa, none⟩) zs → Row W' c' ks → Calls Tryd.prog 14 #[.agg #[.int .i64 (Wn : Int), .int .i64 (Hn : Int), .slice (some ⟨ba, oa, none⟩) zs.length ca', .slice c' n cc']] W' fun e w' => ∃ a3 c3, e = .returned (.tuple #[.slice a3 K.length c3, .int .i64 0]) ∧ SRk w' a3 K F ∧ Below W'.heap.size W' w') := fun W' ba oa ca' c' cc' hb q1 q2 => by
    rw [hK, hF]
    exact (Stars_yes Wn Hn ba oa ca' n cc' c' zs ks W' q1 hW hH hl hm q2 hn hn2 (hs.kept hb) hJ hC).mono fun e w' h => stars_to h hnd hkd hge hpts
  have CR : Hid (∀ W' : World, Below w.heap.size w W' → Calls Tryd.prog 15 #[.agg #[.int .i64 (Wn : Int), .int .i64 (Hn : Int), .slice (some ⟨b, off, none⟩) zs.length ca, .slice c n cc]] W' fun e w' => ∃ a4 c4, e = .returned (.slice a4 K.length c4) ∧ SRk w' a4 K F ∧ Below W'.heap.size W' w') := fun W' hb => by
    rw [hK, hF]
    exact (refStars_any Wn Hn b off ca n cc c zs ks W' (hr.kept hb) hW hH hl hm (hk.kept hb) hn hn2 (cr_one hC)).mono fun e w' h => ref_to (RefR.ofA h) hpts
  clear hr hk hl hm hW hH hn hs hJ hC hMay h0 h64 hkd hnd hpts hpl0 hpl hge hlen hK hF
  go_enter Tryd.func4, Tryd.ntmps4
  go_wp2_with (first
    | (go_at_call 8; refine (sheetOf_any (Wn : Int) (Hn : Int) (some ⟨b, off, none⟩) c ca cc n zs ks _ (HZ.out.kept (by with_reducible (first | exact HB.out | exact bl_alloc (bl_refl _)))) (HK.out.kept (by with_reducible (first | exact HB.out | exact bl_alloc (bl_refl _)))) HN.out.1 HN.out.2.1 HN.out.2.2).mono ?_; rintro e w2 ⟨a', ca', b', cb', rfl, hrow, hrk, hb⟩; have s0 : w2.cell? ⟨w.heap.size, 0, none⟩ = some (.int .i64 (Wn : Int)) := cl_kept hb (by first | (with_reducible assumption) | (simp [go_sem]; done)); have s1 : w2.cell? ⟨w.heap.size, 1, none⟩ = some (.int .i64 (Hn : Int)) := cl_kept hb (by first | (with_reducible assumption) | (simp [go_sem]; done)); have s2 : w2.cell? ⟨w.heap.size, 2, none⟩ = some (.slice (some ⟨b, off, none⟩) zs.length ca) := cl_kept hb (by first | (with_reducible assumption) | (simp [go_sem]; done)); have s3 : w2.cell? ⟨w.heap.size, 3, none⟩ = some (.slice c n cc) := cl_kept hb (by first | (with_reducible assumption) | (simp [go_sem]; done)); obtain ⟨ba, oa, rfl, _⟩ := hrow.row 0 HN0.out; have HRow : Hid (Row w2 (some ⟨ba, oa, none⟩) zs ∧ Row w2 b' ks) := ⟨hrow.row, hrk.row⟩; clear hrow hrk; (try (have HM := HM.out.kept' hb)); have hq : Below w.heap.size w w2 := (by with_reducible (first | exact bl_via HB.out hb | exact bl_via (bl_alloc (bl_refl _)) hb)); have HB : Hid (Below w.heap.size w w2) := hq; have zs0 : w.heap.size < w2.heap.size := World.block_lt_of_cell? _ _ s0; clear hb hq)
    | (go_at_call 14; refine (CF.out _ _ _ _ _ _ HB.out HRow.out.1 HRow.out.2).mono ?_; rintro e w2 ⟨a3, c3, rfl, hnr, hb⟩; have s0 : w2.cell? ⟨w.heap.size, 0, none⟩ = some (.int .i64 (Wn : Int)) := cl_kept hb (by first | (with_reducible assumption) | (simp [go_sem]; done)); have s1 : w2.cell? ⟨w.heap.size, 1, none⟩ = some (.int .i64 (Hn : Int)) := cl_kept hb (by first | (with_reducible assumption) | (simp [go_sem]; done)); have s2 : w2.cell? ⟨w.heap.size, 2, none⟩ = some (.slice (some ⟨b, off, none⟩) zs.length ca) := cl_kept hb (by first | (with_reducible assumption) | (simp [go_sem]; done)); have s3 : w2.cell? ⟨w.heap.size, 3, none⟩ = some (.slice c n cc) := cl_kept hb (by first | (with_reducible assumption) | (simp [go_sem]; done)); have HM : Hid (SRk w2 a3 K F) := hnr; clear hnr; have hq : Below w.heap.size w w2 := (by with_reducible (first | exact bl_via HB.out hb | exact bl_via (bl_alloc (bl_refl _)) hb)); have HB : Hid (Below w.heap.size w w2) := hq; have zs0 : w.heap.size < w2.heap.size := World.block_lt_of_cell? _ _ s0; clear hb hq)
    | (go_at_call 10; refine (HMAY.out _ (by with_reducible (first | exact HB.out | exact bl_alloc (bl_refl _)))).mono ?_; rintro e w2 ⟨rfl, hb⟩; have s0 : w2.cell? ⟨w.heap.size, 0, none⟩ = some (.int .i64 (Wn : Int)) := cl_kept hb (by first | (with_reducible assumption) | (simp [go_sem]; done)); have s1 : w2.cell? ⟨w.heap.size, 1, none⟩ = some (.int .i64 (Hn : Int)) := cl_kept hb (by first | (with_reducible assumption) | (simp [go_sem]; done)); have s2 : w2.cell? ⟨w.heap.size, 2, none⟩ = some (.slice (some ⟨b, off, none⟩) zs.length ca) := cl_kept hb (by first | (with_reducible assumption) | (simp [go_sem]; done)); have s3 : w2.cell? ⟨w.heap.size, 3, none⟩ = some (.slice c n cc) := cl_kept hb (by first | (with_reducible assumption) | (simp [go_sem]; done)); have HM := HM.out.kept' hb; have hq : Below w.heap.size w w2 := (by with_reducible (first | exact bl_via HB.out hb | exact bl_via (bl_alloc (bl_refl _)) hb)); have HB : Hid (Below w.heap.size w w2) := hq; have zs0 : w.heap.size < w2.heap.size := World.block_lt_of_cell? _ _ s0; clear hb hq)
    | (go_at_call 15; refine (CR.out _ HB.out).mono ?_; rintro e w2 ⟨a4, c4, rfl, hnr, hb⟩; have s0 : w2.cell? ⟨w.heap.size, 0, none⟩ = some (.int .i64 (Wn : Int)) := cl_kept hb (by first | (with_reducible assumption) | (simp [go_sem]; done)); have s1 : w2.cell? ⟨w.heap.size, 1, none⟩ = some (.int .i64 (Hn : Int)) := cl_kept hb (by first | (with_reducible assumption) | (simp [go_sem]; done)); have s2 : w2.cell? ⟨w.heap.size, 2, none⟩ = some (.slice (some ⟨b, off, none⟩) zs.length ca) := cl_kept hb (by first | (with_reducible assumption) | (simp [go_sem]; done)); have s3 : w2.cell? ⟨w.heap.size, 3, none⟩ = some (.slice c n cc) := cl_kept hb (by first | (with_reducible assumption) | (simp [go_sem]; done)); have HM := HM.out.kept' hb; have HM2 : Hid (SRk w2 a4 K F) := hnr; clear hnr; have hq : Below w.heap.size w w2 := (by with_reducible (first | exact bl_via HB.out hb | exact bl_via (bl_alloc (bl_refl _)) hb)); have HB : Hid (Below w.heap.size w w2) := hq; have zs0 : w.heap.size < w2.heap.size := World.block_lt_of_cell? _ _ s0; clear hb hq))
  clear s0 s1 s2 s3 zs0
  go_loopg [6] K.length (fun gk s6 wx => ∃ i : Nat, i ≤ K.length ∧ gk = K.length - i ∧ s6 = .int .i64 (i : Int) ∧ SRk wx a3 K F ∧ SRk wx a4 K F ∧ Below w.heap.size w wx)
  case atStart => exact ⟨0, by omega, rfl, rfl, HM.out, HM2.out, HB.out⟩
  case round =>
    obtain ⟨i, hi, rfl, rfl, hr1, hr2, hbw⟩ := hrel
    have HR : Hid (SRk wr a3 K F ∧ SRk wr a4 K F ∧ Below w.heap.size w wr) := ⟨hr1, hr2, hbw⟩
    clear hr1 hr2 hbw
    by_cases hi1 : i < K.length
    · have i1 : (i : Int) < (K.length : Int) := by omega
      have i0 : (0 : Int) ≤ (i : Int) := by omega
      obtain ⟨g1, dA, dC, kA, kC, ea3, y0, y1, y2, y3, T1, T2⟩ := HR.out.1 i hi1
      obtain ⟨g2, eA', eC', lA, lC, ea4, x0, x1, x2, x3, T3, T4⟩ := HR.out.2.1 i hi1
      subst ea3
      subst ea4
      have z1 : g1 < wr.heap.size := World.block_lt_of_cell? _ _ y0
      have z2 : g2 < wr.heap.size := World.block_lt_of_cell? _ _ x0
      have hd8 := (sdirs_len (F K[i]) 8).2
      have hk8 : (skinds (F K[i]) 8).length ≤ 8 := by rw [← (sdirs_len (F K[i]) 8).1]; exact hd8
      have CS : Hid (∀ W' : World, Below wr.heap.size wr W' → Calls Tryd.prog 16 #[.slice dA (sdirs (F K[i]) 8).length dC, .slice eA' (sdirs (F K[i]) 8).length eC'] W' fun e w' => e = .returned (.bool true) ∧ Below W'.heap.size W' w') := fun W' hW' => (sameInts_any dA eA' dC eC' _ _ W' (T1.kept hW') (T3.kept hW') hd8 hd8).mono fun e w' ⟨h1, h2⟩ => ⟨by rw [h1]; simp, h2⟩
      have CS2 : Hid (∀ W' : World, Below wr.heap.size wr W' → Calls Tryd.prog 16 #[.slice kA (skinds (F K[i]) 8).length kC, .slice lA (skinds (F K[i]) 8).length lC] W' fun e w' => e = .returned (.bool true) ∧ Below W'.heap.size W' w') := fun W' hW' => (sameInts_any kA lA kC lC _ _ W' (T2.kept hW') (T4.kept hW') hk8 hk8).mono fun e w' ⟨h1, h2⟩ => ⟨by rw [h1]; simp, h2⟩
      obtain ⟨nD, hnD⟩ : ∃ q, q = (sdirs (F K[i]) 8).length := ⟨_, rfl⟩
      obtain ⟨nK, hnK⟩ : ∃ q, q = (skinds (F K[i]) 8).length := ⟨_, rfl⟩
      obtain ⟨px, hpx⟩ : ∃ q, q = K[i].1 := ⟨_, rfl⟩
      obtain ⟨py, hpy⟩ : ∃ q, q = K[i].2 := ⟨_, rfl⟩
      rw [← hnD] at CS y2 x2
      rw [← hnK] at CS2 y3 x3
      rw [← hpx] at y0 x0
      rw [← hpy] at y1 x1
      clear T1 T2 T3 T4 hnD hnK hpx hpy hd8 hk8
      have hne := neqP_same px py
      have kc := Kin.cells wr
      have kn : Nonempty (Kin wr) := ⟨⟨wr, bl_refl _⟩⟩
      go_wp2
      refine wp_region_kin (by kernel_rfl) (by kernel_rfl) ?_
      repeat (go_big_quiet_step ((first | (go_at_call 16; with_reducible exact kin_of (CS.out _ (Kin.h _))) | (go_at_call 16; with_reducible exact kin_of (CS2.out _ (Kin.h _))))))
      refine wpQuiet_nil ?_
      intro wq hw'
      obtain ⟨nq, hw''⟩ := hw'
      have hq : Below wr.heap.size wr wq := hw'' ▸ nq.h
      have HQ : Hid (SRk wq (some ⟨g1, 0, none⟩) K F ∧ SRk wq (some ⟨g2, 0, none⟩) K F ∧ Below w.heap.size w wq) := ⟨HR.out.1.kept hq, HR.out.2.1.kept hq, bl_via HR.out.2.2 hq⟩
      clear hw'' nq hq kc kn z1 z2 y0 x0 y1 x1 y2 x2 y3 x3
      go_wp2
      go_roundg (K.length - (i + 1))
      case measure => omega
      case rel => exact ⟨i + 1, by omega, rfl, by go_num, HQ.out.1, HQ.out.2.1, HQ.out.2.2⟩
    · have i1 : ¬ (i : Int) < (K.length : Int) := by omega
      go_wp2
      go_ret
      exact ⟨rfl, HR.out.2.2⟩

theorem facesStars_any (W H : Int) (a c : Option Addr) (ca cc n : Nat) (zs ks : List Int) (w : World) (hz : Row w a zs) (hk : Row w c ks) (hn : ks.length = n * 5) (h1 : zs.length ≤ 17592186044416) (h2 : n ≤ 3518437208883) (hs : Steps w) :
    Calls Tryd.prog 4 #[.agg #[.int .i64 W, .int .i64 H, .slice a zs.length ca, .slice c n cc]] w fun e w' => e = .returned (.bool true) ∧ Below w.heap.size w w' := by
  rcases sheet_either W H a c ca cc n zs ks w hz hk hn h2 hs with ⟨q1, q2⟩ | ⟨Wn, Hn, b, off, rfl, rfl, rfl, hW, hH, hl, hm, hJ, hC, hMay⟩
  · exact facesStars_no W H a c ca cc n zs ks w hz hk hn h1 h2 q1 q2
  · exact facesStars_yes Wn Hn b off ca n cc c zs ks w hz hW hH hl hm hk hn h2 hs hJ hC hMay

theorem Troubles_no (W H : Int) (a c : Option Addr) (n1 n2 ca cc : Nat) (w : World) (hcall : ∀ W' : World, Below w.heap.size w W' → Calls Tryd.prog 21 #[.agg #[.int .i64 W, .int .i64 H, .slice a n1 ca, .slice c n2 cc]] W' fun e w' => e = .returned (.tuple #[.agg #[.slice none 0 0, .map none, .map none], .bool false]) ∧ Below W'.heap.size W' w') :
    Calls Tryd.prog 17 #[.agg #[.int .i64 W, .int .i64 H, .slice a n1 ca, .slice c n2 cc]] w fun e w' => e = .returned (.tuple #[.slice none 0 0, .int .i64 10]) ∧ Below w.heap.size w w' := by
  have HC : Hid (∀ W' : World, Below w.heap.size w W' → Calls Tryd.prog 14 #[.agg #[.int .i64 W, .int .i64 H, .slice a n1 ca, .slice c n2 cc]] W' fun e w' => e = .returned (.tuple #[.slice none 0 0, .int .i64 10]) ∧ Below W'.heap.size W' w') := fun W' hW' => Stars_no W H a c n1 n2 ca cc W' (fun W2 h2 => hcall W2 (bl_via hW' h2))
  clear hcall
  go_enter Tryd.func17, Tryd.ntmps17
  go_wp2_with (go_at_call 14; refine (HC.out _ (by with_reducible exact bl_alloc (bl_refl _))).mono ?_; rintro e w2 ⟨rfl, hb⟩; have HB : Hid (Below w.heap.size w w2) := bl_via (bl_alloc (bl_refl _)) hb; clear hb)
  exact bodyPost_ret (v := .tuple #[.slice none 0 0, .int .i64 10]) (by simp [results, Tryd.results17, go_sem]) rfl ⟨rfl, by with_reducible repeat (first | exact HB.out | refine bl_alloc ?_)⟩
theorem TRow.keptH {w wx : World} {a : Option Addr} {T : List (Int × Int × Int)} (h : TRow w a T) (hb : Below w.heap.size w wx) : Hid (TRow wx a T) := h.kept hb
theorem neqT_same (a b c : Int) (w : World) : (binOp .neq 52 (.agg #[.int .i64 a, .int .i64 b, .int .i64 c]) (.agg #[.int .i64 a, .int .i64 b, .int .i64 c])).run Tryd.prog w = .ok (.bool false) w := by
  simp [go_sem]
set_option maxRecDepth 100000 in
set_option maxHeartbeats 3200000 in
theorem flatTroubles_no (W H : Int) (a c : Option Addr) (ca cc n : Nat) (zs ks : List Int) (w : World) (hz : Row w a zs) (hk : Row w c ks) (hn : ks.length = n * 5) (h1 : zs.length ≤ 17592186044416) (h2 : n ≤ 3518437208883) (hLay : LayNo w W H zs ks n) (hMay : MayIs w W H a c ca cc zs n false) :
    Calls Tryd.prog 5 #[.agg #[.int .i64 W, .int .i64 H, .slice a zs.length ca, .slice c n cc]] w fun e w' => e = .returned (.bool true) ∧ Below w.heap.size w w' := by
  have HZ : Hid (Row w a zs) := hz
  have HK : Hid (Row w c ks) := hk
  have HN : Hid (ks.length = n * 5 ∧ zs.length ≤ 17592186044416 ∧ n ≤ 3518437208883) := ⟨hn, h1, h2⟩
  have HLAY : Hid (LayNo w W H zs ks n) := hLay
  have HMAY : Hid (MayIs w W H a c ca cc zs n false) := hMay
  clear hz hk hn h1 h2 hLay hMay
  go_enter Tryd.func5, Tryd.ntmps5
  go_wp2_with (first
    | (go_at_call 8; refine (sheetOf_any W H a c ca cc n zs ks _ (HZ.out.kept (by with_reducible (first | exact HB.out | exact bl_alloc (bl_refl _)))) (HK.out.kept (by with_reducible (first | exact HB.out | exact bl_alloc (bl_refl _)))) HN.out.1 HN.out.2.1 HN.out.2.2).mono ?_; rintro e w2 ⟨a', ca', b', cb', rfl, hrow, hrk, hb⟩; have s0 : w2.cell? ⟨w.heap.size, 0, none⟩ = some (.int .i64 W) := cl_kept hb (by first | (with_reducible assumption) | (simp [go_sem]; done)); have s1 : w2.cell? ⟨w.heap.size, 1, none⟩ = some (.int .i64 H) := cl_kept hb (by first | (with_reducible assumption) | (simp [go_sem]; done)); have s2 : w2.cell? ⟨w.heap.size, 2, none⟩ = some (.slice a zs.length ca) := cl_kept hb (by first | (with_reducible assumption) | (simp [go_sem]; done)); have s3 : w2.cell? ⟨w.heap.size, 3, none⟩ = some (.slice c n cc) := cl_kept hb (by first | (with_reducible assumption) | (simp [go_sem]; done)); have HRow : Hid (Row w2 a' zs ∧ Row w2 b' ks) := ⟨hrow.row, hrk.row⟩; clear hrow hrk; have hq : Below w.heap.size w w2 := (by with_reducible (first | exact bl_via HB.out hb | exact bl_via (bl_alloc (bl_refl _)) hb)); have HB : Hid (Below w.heap.size w w2) := hq; have zs0 : w.heap.size < w2.heap.size := World.block_lt_of_cell? _ _ s0; clear hb hq)
    | (go_at_call 17; refine (Troubles_no W H _ _ _ _ _ _ _ (fun W' hW' => HLAY.out W' _ _ _ _ (bl_via HB.out hW') (HRow.out.1.kept hW') (HRow.out.2.kept hW'))).mono ?_; rintro e w2 ⟨rfl, hb⟩; have s0 : w2.cell? ⟨w.heap.size, 0, none⟩ = some (.int .i64 W) := cl_kept hb (by first | (with_reducible assumption) | (simp [go_sem]; done)); have s1 : w2.cell? ⟨w.heap.size, 1, none⟩ = some (.int .i64 H) := cl_kept hb (by first | (with_reducible assumption) | (simp [go_sem]; done)); have s2 : w2.cell? ⟨w.heap.size, 2, none⟩ = some (.slice a zs.length ca) := cl_kept hb (by first | (with_reducible assumption) | (simp [go_sem]; done)); have s3 : w2.cell? ⟨w.heap.size, 3, none⟩ = some (.slice c n cc) := cl_kept hb (by first | (with_reducible assumption) | (simp [go_sem]; done)); have hq : Below w.heap.size w w2 := (by with_reducible (first | exact bl_via HB.out hb | exact bl_via (bl_alloc (bl_refl _)) hb)); have HB : Hid (Below w.heap.size w w2) := hq; have zs0 : w.heap.size < w2.heap.size := World.block_lt_of_cell? _ _ s0; clear hb hq)
    | (go_at_call 10; refine (HMAY.out _ (by with_reducible (first | exact HB.out | exact bl_alloc (bl_refl _)))).mono ?_; rintro e w2 ⟨rfl, hb⟩; have s0 : w2.cell? ⟨w.heap.size, 0, none⟩ = some (.int .i64 W) := cl_kept hb (by first | (with_reducible assumption) | (simp [go_sem]; done)); have s1 : w2.cell? ⟨w.heap.size, 1, none⟩ = some (.int .i64 H) := cl_kept hb (by first | (with_reducible assumption) | (simp [go_sem]; done)); have s2 : w2.cell? ⟨w.heap.size, 2, none⟩ = some (.slice a zs.length ca) := cl_kept hb (by first | (with_reducible assumption) | (simp [go_sem]; done)); have s3 : w2.cell? ⟨w.heap.size, 3, none⟩ = some (.slice c n cc) := cl_kept hb (by first | (with_reducible assumption) | (simp [go_sem]; done)); have hq : Below w.heap.size w w2 := (by with_reducible (first | exact bl_via HB.out hb | exact bl_via (bl_alloc (bl_refl _)) hb)); have HB : Hid (Below w.heap.size w w2) := hq; have zs0 : w.heap.size < w2.heap.size := World.block_lt_of_cell? _ _ s0; clear hb hq))
  go_ret
  exact ⟨rfl, HB.out⟩

set_option maxRecDepth 100000 in
set_option maxHeartbeats 3200000 in
theorem flatTroubles_yes (Wn Hn b off ca n cc : Nat) (c : Option Addr) (zs ks : List Int) (w : World) (hr : Row w (some ⟨b, off, none⟩) zs) (hW : 1 ≤ Wn ∧ Wn ≤ 8) (hH : 1 ≤ Hn ∧ Hn ≤ 8) (hl : zs.length = Wn * Hn) (hm : maskB zs = true) (hk : Row w c ks) (hn : ks.length = n * 5) (hn2 : n ≤ 3518437208883) (hs : Steps w) (hJ : Joined (ty zs Wn Hn)) (hC : ∀ i, i < n → CrOk (ty zs Wn Hn) ks i) (hMay : MayIs w (Wn : Int) (Hn : Int) (some ⟨b, off, none⟩) c ca cc zs n true) :
    Calls Tryd.prog 5 #[.agg #[.int .i64 (Wn : Int), .int .i64 (Hn : Int), .slice (some ⟨b, off, none⟩) zs.length ca, .slice c n cc]] w fun e w' => e = .returned (.bool true) ∧ Below w.heap.size w w' := by
  have HZ : Hid (Row w (some ⟨b, off, none⟩) zs) := hr
  have HK : Hid (Row w c ks) := hk
  have h64 : zs.length ≤ 64 := by rw [hl]; exact Nat.le_trans (Nat.mul_le_mul hW.2 hH.2) (by decide)
  have HN : Hid (ks.length = n * 5 ∧ zs.length ≤ 17592186044416 ∧ n ≤ 3518437208883) := ⟨hn, by omega, hn2⟩
  have h0 : 0 < zs.length := by
    rw [hl]
    exact Nat.mul_pos (by omega) (by omega)
  have HN0 : Hid (0 < zs.length) := h0
  have HMAY : Hid (MayIs w (Wn : Int) (Hn : Int) (some ⟨b, off, none⟩) c ca cc zs n true) := hMay
  have hlen : (ty zs Wn Hn).length ≤ 256 := by have := ty_len zs Wn Hn hW.2; omega
  have hkd : ∀ t ∈ ty zs Wn Hn, Kd t := fun t ht => (ty_bd hW.2 hH.2 t ht).2.2
  have hnd := ty_nodup zs Wn Hn
  have hge : ∀ i, i < n → GE (ck ks i 0, ck ks i 1, ck ks i 2, ck ks i 3) := fun i hi => ge_crease (hC i hi) hkd
  obtain ⟨pts, hpts, hpl0⟩ := spt_is ((ty zs Wn Hn).flatMap cnr)
  have hpl : pts.length ≤ 3 * (ty zs Wn Hn).length := by
    refine Nat.le_trans hpl0 (Nat.le_of_eq ?_)
    generalize ty zs Wn Hn = l
    induction l with
    | nil => rfl
    | cons t l ih =>
      rw [List.flatMap_cons, List.length_append, ih, List.length_cons]
      simp [cnr]
      omega
  obtain ⟨F, hF⟩ : ∃ F : Int × Int → Nat → Int, F = fun pt d => kdn ks n (eP pt d) := ⟨_, rfl⟩
  obtain ⟨K, hK⟩ : ∃ K, K = pts.filter (gref (ty zs Wn Hn) F) := ⟨_, rfl⟩
  have hKl : K.length ≤ 800 := by
    have h9 : K.length ≤ pts.length := by rw [hK]; exact List.length_filter_le ..
    omega
  have CF : Hid (∀ (W' : World) (ba oa ca' : Nat) (c' : Option Addr) (cc' : Nat), Below w.heap.size w W' → Row W' (some ⟨ba, oa, none⟩) zs → Row W' c' ks → Calls Tryd.prog 14 #[.agg #[.int .i64 (Wn : Int), .int .i64 (Hn : Int), .slice (some ⟨ba, oa, none⟩) zs.length ca', .slice c' n cc']] W' fun e w' => ∃ a3 c3, e = .returned (.tuple #[.slice a3 K.length c3, .int .i64 0]) ∧ SRk w' a3 K F ∧ Below W'.heap.size W' w') := fun W' ba oa ca' c' cc' hb q1 q2 => by
    rw [hK, hF]
    exact (Stars_yes Wn Hn ba oa ca' n cc' c' zs ks W' q1 hW hH hl hm q2 hn hn2 (hs.kept hb) hJ hC).mono fun e w' h => stars_to h hnd hkd hge hpts
  have CR : Hid (∀ W' : World, Below w.heap.size w W' → Calls Tryd.prog 15 #[.agg #[.int .i64 (Wn : Int), .int .i64 (Hn : Int), .slice (some ⟨b, off, none⟩) zs.length ca, .slice c n cc]] W' fun e w' => ∃ a4 c4, e = .returned (.slice a4 K.length c4) ∧ SRk w' a4 K F ∧ Below W'.heap.size W' w') := fun W' hb => by
    rw [hK, hF]
    exact (refStars_any Wn Hn b off ca n cc c zs ks W' (hr.kept hb) hW hH hl hm (hk.kept hb) hn hn2 (cr_one hC)).mono fun e w' h => ref_to (RefR.ofA h) hpts
  obtain ⟨T, hT⟩ : ∃ T, T = K.flatMap (trob F) := ⟨_, rfl⟩
  have hTl : T.length ≤ 1600 := by
    have h9 := trob_all F K
    rw [← hT] at h9
    omega
  have CFT : Hid (∀ (W' : World) (ba oa ca' : Nat) (c' : Option Addr) (cc' : Nat), Below w.heap.size w W' → Row W' (some ⟨ba, oa, none⟩) zs → Row W' c' ks → Calls Tryd.prog 17 #[.agg #[.int .i64 (Wn : Int), .int .i64 (Hn : Int), .slice (some ⟨ba, oa, none⟩) zs.length ca', .slice c' n cc']] W' fun e w' => ∃ a3 c3, e = .returned (.tuple #[.slice a3 T.length c3, .int .i64 0]) ∧ TRow w' a3 T ∧ Below W'.heap.size W' w') := fun W' ba oa ca' c' cc' hb q1 q2 => by
    rw [hT]
    exact Troubles_yes _ _ _ _ _ _ _ _ W' K F hKl (fun W2 h2 => CF.out W2 ba oa ca' c' cc' (bl_via hb h2) (q1.kept h2) (q2.kept h2))
  have CRT : Hid (∀ W' : World, Below w.heap.size w W' → Calls Tryd.prog 18 #[.agg #[.int .i64 (Wn : Int), .int .i64 (Hn : Int), .slice (some ⟨b, off, none⟩) zs.length ca, .slice c n cc]] W' fun e w' => ∃ a4 c4, e = .returned (.slice a4 T.length c4) ∧ TRow w' a4 T ∧ Below W'.heap.size W' w') := fun W' hb => by
    rw [hT]
    exact refTroubles_any _ _ _ _ _ _ _ _ W' K F hKl (fun W2 h2 => CR.out W2 (bl_via hb h2))
  clear CF CR hT hKl
  clear hr hk hl hm hW hH hn hs hJ hC hMay h0 h64 hkd hnd hpts hpl0 hpl hge hlen hK hF
  go_enter Tryd.func5, Tryd.ntmps5
  go_wp2_with (first
    | (go_at_call 8; refine (sheetOf_any (Wn : Int) (Hn : Int) (some ⟨b, off, none⟩) c ca cc n zs ks _ (HZ.out.kept (by with_reducible (first | exact HB.out | exact bl_alloc (bl_refl _)))) (HK.out.kept (by with_reducible (first | exact HB.out | exact bl_alloc (bl_refl _)))) HN.out.1 HN.out.2.1 HN.out.2.2).mono ?_; rintro e w2 ⟨a', ca', b', cb', rfl, hrow, hrk, hb⟩; have s0 : w2.cell? ⟨w.heap.size, 0, none⟩ = some (.int .i64 (Wn : Int)) := cl_kept hb (by first | (with_reducible assumption) | (simp [go_sem]; done)); have s1 : w2.cell? ⟨w.heap.size, 1, none⟩ = some (.int .i64 (Hn : Int)) := cl_kept hb (by first | (with_reducible assumption) | (simp [go_sem]; done)); have s2 : w2.cell? ⟨w.heap.size, 2, none⟩ = some (.slice (some ⟨b, off, none⟩) zs.length ca) := cl_kept hb (by first | (with_reducible assumption) | (simp [go_sem]; done)); have s3 : w2.cell? ⟨w.heap.size, 3, none⟩ = some (.slice c n cc) := cl_kept hb (by first | (with_reducible assumption) | (simp [go_sem]; done)); obtain ⟨ba, oa, rfl, _⟩ := hrow.row 0 HN0.out; have HRow : Hid (Row w2 (some ⟨ba, oa, none⟩) zs ∧ Row w2 b' ks) := ⟨hrow.row, hrk.row⟩; clear hrow hrk; (try (have HM := HM.out.keptH hb)); have hq : Below w.heap.size w w2 := (by with_reducible (first | exact bl_via HB.out hb | exact bl_via (bl_alloc (bl_refl _)) hb)); have HB : Hid (Below w.heap.size w w2) := hq; have zs0 : w.heap.size < w2.heap.size := World.block_lt_of_cell? _ _ s0; clear hb hq)
    | (go_at_call 17; refine (CFT.out _ _ _ _ _ _ HB.out HRow.out.1 HRow.out.2).mono ?_; rintro e w2 ⟨a3, c3, rfl, hnr, hb⟩; have s0 : w2.cell? ⟨w.heap.size, 0, none⟩ = some (.int .i64 (Wn : Int)) := cl_kept hb (by first | (with_reducible assumption) | (simp [go_sem]; done)); have s1 : w2.cell? ⟨w.heap.size, 1, none⟩ = some (.int .i64 (Hn : Int)) := cl_kept hb (by first | (with_reducible assumption) | (simp [go_sem]; done)); have s2 : w2.cell? ⟨w.heap.size, 2, none⟩ = some (.slice (some ⟨b, off, none⟩) zs.length ca) := cl_kept hb (by first | (with_reducible assumption) | (simp [go_sem]; done)); have s3 : w2.cell? ⟨w.heap.size, 3, none⟩ = some (.slice c n cc) := cl_kept hb (by first | (with_reducible assumption) | (simp [go_sem]; done)); have HM : Hid (TRow w2 a3 T) := hnr; clear hnr; have hq : Below w.heap.size w w2 := (by with_reducible (first | exact bl_via HB.out hb | exact bl_via (bl_alloc (bl_refl _)) hb)); have HB : Hid (Below w.heap.size w w2) := hq; have zs0 : w.heap.size < w2.heap.size := World.block_lt_of_cell? _ _ s0; clear hb hq)
    | (go_at_call 10; refine (HMAY.out _ (by with_reducible (first | exact HB.out | exact bl_alloc (bl_refl _)))).mono ?_; rintro e w2 ⟨rfl, hb⟩; have s0 : w2.cell? ⟨w.heap.size, 0, none⟩ = some (.int .i64 (Wn : Int)) := cl_kept hb (by first | (with_reducible assumption) | (simp [go_sem]; done)); have s1 : w2.cell? ⟨w.heap.size, 1, none⟩ = some (.int .i64 (Hn : Int)) := cl_kept hb (by first | (with_reducible assumption) | (simp [go_sem]; done)); have s2 : w2.cell? ⟨w.heap.size, 2, none⟩ = some (.slice (some ⟨b, off, none⟩) zs.length ca) := cl_kept hb (by first | (with_reducible assumption) | (simp [go_sem]; done)); have s3 : w2.cell? ⟨w.heap.size, 3, none⟩ = some (.slice c n cc) := cl_kept hb (by first | (with_reducible assumption) | (simp [go_sem]; done)); have HM := HM.out.keptH hb; have hq : Below w.heap.size w w2 := (by with_reducible (first | exact bl_via HB.out hb | exact bl_via (bl_alloc (bl_refl _)) hb)); have HB : Hid (Below w.heap.size w w2) := hq; have zs0 : w.heap.size < w2.heap.size := World.block_lt_of_cell? _ _ s0; clear hb hq)
    | (go_at_call 18; refine (CRT.out _ HB.out).mono ?_; rintro e w2 ⟨a4, c4, rfl, hnr, hb⟩; have s0 : w2.cell? ⟨w.heap.size, 0, none⟩ = some (.int .i64 (Wn : Int)) := cl_kept hb (by first | (with_reducible assumption) | (simp [go_sem]; done)); have s1 : w2.cell? ⟨w.heap.size, 1, none⟩ = some (.int .i64 (Hn : Int)) := cl_kept hb (by first | (with_reducible assumption) | (simp [go_sem]; done)); have s2 : w2.cell? ⟨w.heap.size, 2, none⟩ = some (.slice (some ⟨b, off, none⟩) zs.length ca) := cl_kept hb (by first | (with_reducible assumption) | (simp [go_sem]; done)); have s3 : w2.cell? ⟨w.heap.size, 3, none⟩ = some (.slice c n cc) := cl_kept hb (by first | (with_reducible assumption) | (simp [go_sem]; done)); have HM := HM.out.keptH hb; have HM2 : Hid (TRow w2 a4 T) := hnr; clear hnr; have hq : Below w.heap.size w w2 := (by with_reducible (first | exact bl_via HB.out hb | exact bl_via (bl_alloc (bl_refl _)) hb)); have HB : Hid (Below w.heap.size w w2) := hq; have zs0 : w.heap.size < w2.heap.size := World.block_lt_of_cell? _ _ s0; clear hb hq))
  clear s0 s1 s2 s3 zs0
  go_loopg [6] T.length (fun gk s6 wx => ∃ i : Nat, i ≤ T.length ∧ gk = T.length - i ∧ s6 = .int .i64 (i : Int) ∧ TRow wx a3 T ∧ TRow wx a4 T ∧ Below w.heap.size w wx)
  case atStart => exact ⟨0, by omega, rfl, rfl, HM.out, HM2.out, HB.out⟩
  case round =>
    obtain ⟨i, hi, rfl, rfl, hr1, hr2, hbw⟩ := hrel
    have HR : Hid (TRow wr a3 T ∧ TRow wr a4 T ∧ Below w.heap.size w wr) := ⟨hr1, hr2, hbw⟩
    clear hr1 hr2 hbw
    by_cases hi1 : i < T.length
    · have i1 : (i : Int) < (T.length : Int) := by omega
      have i0 : (0 : Int) ≤ (i : Int) := by omega
      obtain ⟨g1, ea3, y0, y1, y2⟩ := HR.out.1 i hi1
      obtain ⟨g2, ea4, x0, x1, x2⟩ := HR.out.2.1 i hi1
      subst ea3
      subst ea4
      have z1 : g1 < wr.heap.size := World.block_lt_of_cell? _ _ y0
      have z2 : g2 < wr.heap.size := World.block_lt_of_cell? _ _ x0
      obtain ⟨px, hpx⟩ : ∃ q, q = T[i].1 := ⟨_, rfl⟩
      obtain ⟨py, hpy⟩ : ∃ q, q = T[i].2.1 := ⟨_, rfl⟩
      obtain ⟨pk, hpk⟩ : ∃ q, q = T[i].2.2 := ⟨_, rfl⟩
      rw [← hpx] at y0 x0
      rw [← hpy] at y1 x1
      rw [← hpk] at y2 x2
      clear hpx hpy hpk
      have hne := neqT_same px py pk
      have kc := Kin.cells wr
      have kn : Nonempty (Kin wr) := ⟨⟨wr, bl_refl _⟩⟩
      go_wp2
      refine wp_region_kin (by kernel_rfl) (by kernel_rfl) ?_
      repeat (go_big_quiet_step (fail))
      refine wpQuiet_nil ?_
      intro wq hw'
      obtain ⟨nq, hw''⟩ := hw'
      have hq : Below wr.heap.size wr wq := hw'' ▸ nq.h
      have HQ : Hid (TRow wq (some ⟨g1, 0, none⟩) T ∧ TRow wq (some ⟨g2, 0, none⟩) T ∧ Below w.heap.size w wq) := ⟨HR.out.1.kept hq, HR.out.2.1.kept hq, bl_via HR.out.2.2 hq⟩
      clear hw'' nq hq kc kn z1 z2 y0 x0 y1 x1 y2 x2
      go_wp2
      go_roundg (T.length - (i + 1))
      case measure => omega
      case rel => exact ⟨i + 1, by omega, rfl, by go_num, HQ.out.1, HQ.out.2.1, HQ.out.2.2⟩
    · have i1 : ¬ (i : Int) < (T.length : Int) := by omega
      go_wp2
      go_ret
      exact ⟨rfl, HR.out.2.2⟩

theorem flatTroubles_any (W H : Int) (a c : Option Addr) (ca cc n : Nat) (zs ks : List Int) (w : World) (hz : Row w a zs) (hk : Row w c ks) (hn : ks.length = n * 5) (h1 : zs.length ≤ 17592186044416) (h2 : n ≤ 3518437208883) (hs : Steps w) :
    Calls Tryd.prog 5 #[.agg #[.int .i64 W, .int .i64 H, .slice a zs.length ca, .slice c n cc]] w fun e w' => e = .returned (.bool true) ∧ Below w.heap.size w w' := by
  rcases sheet_either W H a c ca cc n zs ks w hz hk hn h2 hs with ⟨q1, q2⟩ | ⟨Wn, Hn, b, off, rfl, rfl, rfl, hW, hH, hl, hm, hJ, hC, hMay⟩
  · exact flatTroubles_no W H a c ca cc n zs ks w hz hk hn h1 h2 q1 q2
  · exact flatTroubles_yes Wn Hn b off ca n cc c zs ks w hz hW hH hl hm hk hn h2 hs hJ hC hMay
end Go.Proofs.YtmjneoaciopioaaDoor
