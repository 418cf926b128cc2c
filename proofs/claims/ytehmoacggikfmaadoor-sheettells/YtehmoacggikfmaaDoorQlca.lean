/- The law SheetTells, whatever the sheet. -/
import Derived.Test.YtehmoacggikfmaaDoorQlby
import Derived.Test.YtehmoacggikfmaaDoorQlbz
namespace Go.Proofs.YtehmoacggikfmaaDoor
open Go.RowKit Go.ChangeMaps

set_option maxRecDepth 100000 in
set_option maxHeartbeats 6400000 in
theorem sheetTells_not (W H b off cap n ccap : Nat) (cb : Option Addr) (zs ks : List Int) (w : World) (hr : Row w (some ⟨b, off, none⟩) zs) (hW : 1 ≤ W ∧ W ≤ 8) (hH : 1 ≤ H ∧ H ≤ 8) (hl : zs.length = W * H) (hm : maskB zs = true) (hk : Row w cb ks) (hn : ks.length = n * 5) (hn2 : n ≤ 3518437208883) (hs : Steps w) (hNO : ¬ ((∀ i, i < n → CrOk (ty zs W H) ks i) ∧ Joined (ty zs W H))) :
    Calls Tryd.prog 3 #[.agg #[.int .i64 (W : Int), .int .i64 (H : Int), .slice (some ⟨b, off, none⟩) zs.length cap, .slice cb n ccap]] w fun e w' => e = .returned (.bool true) ∧ Below w.heap.size w w' := by
  have HR : Hid (Row w (some ⟨b, off, none⟩) zs) := hr
  have HK : Hid (Row w cb ks) := hk
  have h64 : zs.length ≤ 64 := by rw [hl]; exact Nat.le_trans (Nat.mul_le_mul hW.2 hH.2) (by decide)
  have h0 : 0 < zs.length := by
    rw [hl]
    exact Nat.mul_pos (by omega) (by omega)
  have HN0 : Hid (0 < zs.length) := h0
  have HN : Hid (ks.length = n * 5 ∧ zs.length ≤ 17592186044416 ∧ n ≤ 3518437208883) := ⟨hn, by omega, hn2⟩
  have hlen : (ty zs W H).length ≤ 300 := by have := ty_len zs W H hW.2; omega
  have CM : Hid (∀ W' : World, Below w.heap.size w W' → Calls Tryd.prog 8 #[.agg #[.int .i64 (W : Int), .int .i64 (H : Int), .slice (some ⟨b, off, none⟩) zs.length cap, .slice cb n ccap]] W' fun e w' => ∃ bb : Bool, e = .returned (.bool bb) ∧ (bb = true ↔ ((∀ i, i < n → CrOk (ty zs W H) ks i) ∧ Joined (ty zs W H))) ∧ Below W'.heap.size W' w') := fun W' hW' => sheetMay_any W H b off cap n ccap cb zs ks W' (hr.kept hW') hW hH hl hm (hk.kept hW') hn hn2
  have CLAY : Hid (∀ (W' : World) (ba oa ca : Nat) (bc : Option Addr) (cc : Nat), Below w.heap.size w W' → Row W' (some ⟨ba, oa, none⟩) zs → Row W' bc ks → Calls Tryd.prog 12 #[.agg #[.int .i64 (W : Int), .int .i64 (H : Int), .slice (some ⟨ba, oa, none⟩) zs.length ca, .slice bc n cc]] W' fun e w' => e = .returned (.tuple #[.agg #[.slice none 0 0, .map none, .map none], .bool false]) ∧ Below W'.heap.size W' w') := fun W' ba oa ca bc cc hb q1 q2 => by
    by_cases hJ : Joined (ty zs W H)
    · exact lay_nocrease W H ba oa ca n cc bc zs ks W' q1 hW hH hl hm q2 hn hn2 (hs.kept hb) hJ (fun h => hNO ⟨h, hJ⟩)
    · exact lay_nojoin W H ba oa ca n cc bc zs ks W' q1 hW hH hl hm q2 hn hn2 (hs.kept hb) hJ
  have HNO : Hid (¬ ((∀ i, i < n → CrOk (ty zs W H) ks i) ∧ Joined (ty zs W H))) := hNO
  clear hr hk hl hm hW hH hn hs hNO h0
  obtain ⟨L, hL⟩ : ∃ L, L = ty zs W H := ⟨_, rfl⟩
  rw [← hL] at CM HNO hlen
  clear hL
  go_enter Tryd.func3, Tryd.ntmps3
  go_wp2_with (first
    | (go_at_call 5; refine (sheetOf_cap (W : Int) (H : Int) (some ⟨b, off, none⟩) cb cap ccap n zs ks _ (HR.out.kept (by with_reducible (first | exact HB.out | exact bl_alloc (bl_refl _)))) (HK.out.kept (by with_reducible (first | exact HB.out | exact bl_alloc (bl_refl _)))) HN.out.1 HN.out.2.1 HN.out.2.2).mono ?_; rintro e w2 ⟨a1, ca1, bc1, cc1, rfl, hrow, hrk, hb, hcp⟩; obtain ⟨ba, oa, rfl, _⟩ := hrow.row 0 HN0.out; have HRow : Hid (Row w2 (some ⟨ba, oa, none⟩) zs ∧ Row w2 bc1 ks ∧ zs.length ≤ ca1) := ⟨hrow.row, hrk.row, hcp⟩; have s0 : w2.cell? ⟨w.heap.size, 0, none⟩ = some (.int .i64 (W : Int)) := cl_kept hb (by first | (with_reducible assumption) | (simp [go_sem]; done)); have s1 : w2.cell? ⟨w.heap.size, 1, none⟩ = some (.int .i64 (H : Int)) := cl_kept hb (by first | (with_reducible assumption) | (simp [go_sem]; done)); have s2 : w2.cell? ⟨w.heap.size, 2, none⟩ = some (.slice (some ⟨b, off, none⟩) zs.length cap) := cl_kept hb (by first | (with_reducible assumption) | (simp [go_sem]; done)); have s3 : w2.cell? ⟨w.heap.size, 3, none⟩ = some (.slice cb n ccap) := cl_kept hb (by first | (with_reducible assumption) | (simp [go_sem]; done)); have hq : Below w.heap.size w w2 := (by with_reducible (first | exact bl_via HB.out hb | exact bl_via (bl_alloc (bl_refl _)) hb)); have HB : Hid (Below w.heap.size w w2) := hq; have zs0 : w.heap.size < w2.heap.size := World.block_lt_of_cell? _ _ s0; clear hq; clear hb hrow hrk hcp)
    | (go_at_call 4; refine (May_no (W : Int) (H : Int) _ _ zs _ _ (fun W' hW' => CLAY.out W' _ _ _ _ _ (bl_via HB.out hW') (HRow.out.1.kept hW') (HRow.out.2.1.kept hW'))).mono ?_; rintro e w2 ⟨rfl, hb⟩; have s0 : w2.cell? ⟨w.heap.size, 0, none⟩ = some (.int .i64 (W : Int)) := cl_kept hb (by first | (with_reducible assumption) | (simp [go_sem]; done)); have s1 : w2.cell? ⟨w.heap.size, 1, none⟩ = some (.int .i64 (H : Int)) := cl_kept hb (by first | (with_reducible assumption) | (simp [go_sem]; done)); have s2 : w2.cell? ⟨w.heap.size, 2, none⟩ = some (.slice (some ⟨b, off, none⟩) zs.length cap) := cl_kept hb (by first | (with_reducible assumption) | (simp [go_sem]; done)); have s3 : w2.cell? ⟨w.heap.size, 3, none⟩ = some (.slice cb n ccap) := cl_kept hb (by first | (with_reducible assumption) | (simp [go_sem]; done)); have hq : Below w.heap.size w w2 := (by with_reducible (first | exact bl_via HB.out hb | exact bl_via (bl_alloc (bl_refl _)) hb)); have HB : Hid (Below w.heap.size w w2) := hq; have zs0 : w.heap.size < w2.heap.size := World.block_lt_of_cell? _ _ s0; clear hq; clear hb)
    | (go_at_call 6; refine (Tris_no (W : Int) (H : Int) _ _ zs _ _ (fun W' hW' => CLAY.out W' _ _ _ _ _ (bl_via HB.out hW') (HRow.out.1.kept hW') (HRow.out.2.1.kept hW'))).mono ?_; rintro e w2 ⟨rfl, hb⟩; have s0 : w2.cell? ⟨w.heap.size, 0, none⟩ = some (.int .i64 (W : Int)) := cl_kept hb (by first | (with_reducible assumption) | (simp [go_sem]; done)); have s1 : w2.cell? ⟨w.heap.size, 1, none⟩ = some (.int .i64 (H : Int)) := cl_kept hb (by first | (with_reducible assumption) | (simp [go_sem]; done)); have s2 : w2.cell? ⟨w.heap.size, 2, none⟩ = some (.slice (some ⟨b, off, none⟩) zs.length cap) := cl_kept hb (by first | (with_reducible assumption) | (simp [go_sem]; done)); have s3 : w2.cell? ⟨w.heap.size, 3, none⟩ = some (.slice cb n ccap) := cl_kept hb (by first | (with_reducible assumption) | (simp [go_sem]; done)); have hq : Below w.heap.size w w2 := (by with_reducible (first | exact bl_via HB.out hb | exact bl_via (bl_alloc (bl_refl _)) hb)); have HB : Hid (Below w.heap.size w w2) := hq; have zs0 : w.heap.size < w2.heap.size := World.block_lt_of_cell? _ _ s0; clear hq; clear hb)
    | (go_at_call 7; refine (Show_no (W : Int) (H : Int) _ _ zs _ _ (fun W' hW' => CLAY.out W' _ _ _ _ _ (bl_via HB.out hW') (HRow.out.1.kept hW') (HRow.out.2.1.kept hW'))).mono ?_; rintro e w2 ⟨rfl, hb⟩; have s0 : w2.cell? ⟨w.heap.size, 0, none⟩ = some (.int .i64 (W : Int)) := cl_kept hb (by first | (with_reducible assumption) | (simp [go_sem]; done)); have s1 : w2.cell? ⟨w.heap.size, 1, none⟩ = some (.int .i64 (H : Int)) := cl_kept hb (by first | (with_reducible assumption) | (simp [go_sem]; done)); have s2 : w2.cell? ⟨w.heap.size, 2, none⟩ = some (.slice (some ⟨b, off, none⟩) zs.length cap) := cl_kept hb (by first | (with_reducible assumption) | (simp [go_sem]; done)); have s3 : w2.cell? ⟨w.heap.size, 3, none⟩ = some (.slice cb n ccap) := cl_kept hb (by first | (with_reducible assumption) | (simp [go_sem]; done)); have hq : Below w.heap.size w w2 := (by with_reducible (first | exact bl_via HB.out hb | exact bl_via (bl_alloc (bl_refl _)) hb)); have HB : Hid (Below w.heap.size w w2) := hq; have zs0 : w.heap.size < w2.heap.size := World.block_lt_of_cell? _ _ s0; clear hq; clear hb)
    | (go_at_call 8; refine (CM.out _ (by with_reducible (first | exact HB.out | exact bl_alloc (bl_refl _)))).mono ?_; rintro e w2 ⟨bb, rfl, hbb, hb⟩; have s0 : w2.cell? ⟨w.heap.size, 0, none⟩ = some (.int .i64 (W : Int)) := cl_kept hb (by first | (with_reducible assumption) | (simp [go_sem]; done)); have s1 : w2.cell? ⟨w.heap.size, 1, none⟩ = some (.int .i64 (H : Int)) := cl_kept hb (by first | (with_reducible assumption) | (simp [go_sem]; done)); have s2 : w2.cell? ⟨w.heap.size, 2, none⟩ = some (.slice (some ⟨b, off, none⟩) zs.length cap) := cl_kept hb (by first | (with_reducible assumption) | (simp [go_sem]; done)); have s3 : w2.cell? ⟨w.heap.size, 3, none⟩ = some (.slice cb n ccap) := cl_kept hb (by first | (with_reducible assumption) | (simp [go_sem]; done)); have hq : Below w.heap.size w w2 := (by with_reducible (first | exact bl_via HB.out hb | exact bl_via (bl_alloc (bl_refl _)) hb)); have HB : Hid (Below w.heap.size w w2) := hq; have zs0 : w.heap.size < w2.heap.size := World.block_lt_of_cell? _ _ s0; clear hq; obtain rfl : bb = false := (by cases bb with | false => rfl | true => exact absurd (hbb.1 rfl) HNO.out); clear hbb; clear hb))
  go_ret
  exact ⟨rfl, HB.out⟩

theorem sheetTells_any (W H : Int) (a c : Option Addr) (ca cc n : Nat) (zs ks : List Int) (w : World) (hz : Row w a zs) (hk : Row w c ks) (hn : ks.length = n * 5) (h1 : zs.length ≤ 17592186044416) (h2 : n ≤ 3518437208883) (hs : Steps w) :
    Calls Tryd.prog 3 #[.agg #[.int .i64 W, .int .i64 H, .slice a zs.length ca, .slice c n cc]] w fun e w' => e = .returned (.bool true) ∧ Below w.heap.size w w' := by
  cases hc : cellsB W H zs
  · exact sheetTells_bad W H a c ca cc n zs ks w hz hk hn h1 h2 hc
  · simp only [cellsB, Bool.and_eq_true, decide_eq_true_eq, sideB] at hc
    obtain ⟨⟨⟨q1, q2⟩, q3⟩, q4⟩ := hc
    obtain ⟨Wn, rfl⟩ : ∃ m : Nat, W = (m : Int) := ⟨W.toNat, by omega⟩
    obtain ⟨Hn, rfl⟩ : ∃ m : Nat, H = (m : Int) := ⟨H.toNat, by omega⟩
    have hl : zs.length = Wn * Hn := by
      rw [← Int.natCast_mul] at q3
      omega
    have h0 : 0 < zs.length := by
      rw [hl]
      exact Nat.mul_pos (by omega) (by omega)
    obtain ⟨b, off, rfl, _⟩ := hz 0 h0
    by_cases hok : (∀ i, i < n → CrOk (ty zs Wn Hn) ks i) ∧ Joined (ty zs Wn Hn)
    · exact sheetTells_good Wn Hn b off ca n cc c zs ks w hz (by omega) (by omega) hl q4 hk hn h2 hs hok.2 hok.1
    · exact sheetTells_not Wn Hn b off ca n cc c zs ks w hz (by omega) (by omega) hl q4 hk hn h2 hs hok
end Go.Proofs.YtehmoacggikfmaaDoor
