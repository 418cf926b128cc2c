/- What lies across an edge, the reference's way: it looks at all triangles nearby. -/
import Derived.Test.YtehmoacggikfmaaDoorQlau
import Derived.Test.YtehmoacggikfmaaDoorQlax
import Derived.Deep.LoopGhost
namespace Go.Proofs.YtehmoacggikfmaaDoor
open Go.RowKit

/-- Where AcrossOf keeps its triangle, its edge and its answer. -/
def AW (w wx : World) (x y k p q r s : Int) : Prop := Tr wx (w.heap.size) x y k ∧ Qd wx (w.heap.size + 1) p q r s ∧ Tr wx (w.heap.size + 1 + 1) 0 0 0 ∧ Fr wx (w.heap.size + 1 + 1) ∧ Below w.heap.size w wx
theorem AW.kept {w wr wx : World} {x y k p q r s : Int} (h : AW w wr x y k p q r s) (hb : Below wr.heap.size wr wx) : AW w wx x y k p q r s :=
  ⟨h.1.kept hb, h.2.1.kept hb, h.2.2.1.kept hb, h.2.2.2.1.kept h.2.2.1.lt hb, bl_via h.2.2.2.2 hb⟩

/-- No other triangle so far has the edge. -/
def NX (x y k p q r s dx : Int) : Prop := ∀ a b l : Int, -1 ≤ a → a < dx → -1 ≤ b → b ≤ 1 → 0 ≤ l → l ≤ 3 → ¬ Oth x y k p q r s a b l
def NY (x y k p q r s dx dy : Int) : Prop := ∀ b l : Int, -1 ≤ b → b < dy → 0 ≤ l → l ≤ 3 → ¬ Oth x y k p q r s dx b l
def NZ (x y k p q r s dx dy l : Int) : Prop := ∀ m : Int, 0 ≤ m → m < l → ¬ Oth x y k p q r s dx dy m
theorem NX.next {x y k p q r s dx : Int} (h : NX x y k p q r s dx) (hy : NY x y k p q r s dx 2) : NX x y k p q r s (dx + 1) := fun a b l a0 a1 b0 b1 l0 l1 => by
  by_cases e : a = dx
  · subst e; exact hy b l b0 (by omega) l0 l1
  · exact h a b l a0 (by omega) b0 b1 l0 l1
theorem NY.next {x y k p q r s dx dy : Int} (h : NY x y k p q r s dx dy) (hz : NZ x y k p q r s dx dy 4) : NY x y k p q r s dx (dy + 1) := fun b l b0 b1 l0 l1 => by
  by_cases e : b = dy
  · subst e; exact hz l l0 (by omega)
  · exact h b l b0 (by omega) l0 l1
theorem NZ.next {x y k p q r s dx dy l : Int} (h : NZ x y k p q r s dx dy l) (hn : ¬ Oth x y k p q r s dx dy l) : NZ x y k p q r s dx dy (l + 1) := fun m m0 m1 => by
  by_cases e : m = l
  · subst e; exact hn
  · exact h m m0 (by omega)

set_option maxHeartbeats 1600000 in
theorem acrossOf_no (x y k p q r s : Int) (w : World) (h : triB x y k = true) (hh : hasB x y k p q r s = false) :
    Calls Tryd.prog 44 #[.agg #[.int .i64 x, .int .i64 y, .int .i64 k], .agg #[.int .i64 p, .int .i64 q, .int .i64 r, .int .i64 s]] w fun e w' => e = .returned (.tuple #[.agg #[.int .i64 0, .int .i64 0, .int .i64 0], .bool false]) ∧ Below w.heap.size w w' := by
  have hb : 0 ≤ k ∧ k ≤ 3 ∧ -1000000 ≤ x ∧ x ≤ 1000000 ∧ -1000000 ≤ y ∧ y ≤ 1000000 := by simpa [triB] using h
  obtain ⟨k0, k3, b1, b2, b3, b4⟩ := hb
  have C44 : Hid (∀ W : World, Calls Tryd.prog 32 #[.agg #[.int .i64 x, .int .i64 y, .int .i64 k], .agg #[.int .i64 p, .int .i64 q, .int .i64 r, .int .i64 s]] W fun e w' => e = .returned (.bool false) ∧ Below W.heap.size W w') := fun W => hh ▸ hasEdge_any x y k p q r s W (by omega) (by omega) (by omega) (by omega) (by omega) (by omega)
  clear h hh k0 k3 b1 b2 b3 b4
  go_enter Tryd.func44, Tryd.ntmps44
  go_wp2_with (go_at_call 32; refine (C44.out _).mono ?_; rintro e w1 ⟨rfl, hb⟩; have r0 : w1.cell? ⟨w.heap.size + 1 + 1, 0, none⟩ = some (.int .i64 0) := cl_kept hb (by first | (simp [go_sem]; done) | (simp [go_sem, World.cell?_alloc_past]; done)); have f0' : w1.frozen? ⟨w.heap.size + 1 + 1, 0, none⟩ = false := (hb.frozen (p := ⟨w.heap.size + 1 + 1, 0, none⟩) (by simp <;> omega)).trans (by simp [go_sem]); have r1 : w1.cell? ⟨w.heap.size + 1 + 1, 1, none⟩ = some (.int .i64 0) := cl_kept hb (by first | (simp [go_sem]; done) | (simp [go_sem, World.cell?_alloc_past]; done)); have f1' : w1.frozen? ⟨w.heap.size + 1 + 1, 1, none⟩ = false := (hb.frozen (p := ⟨w.heap.size + 1 + 1, 1, none⟩) (by simp <;> omega)).trans (by simp [go_sem]); have r2 : w1.cell? ⟨w.heap.size + 1 + 1, 2, none⟩ = some (.int .i64 0) := cl_kept hb (by first | (simp [go_sem]; done) | (simp [go_sem, World.cell?_alloc_past]; done)); have f2' : w1.frozen? ⟨w.heap.size + 1 + 1, 2, none⟩ = false := (hb.frozen (p := ⟨w.heap.size + 1 + 1, 2, none⟩) (by simp <;> omega)).trans (by simp [go_sem]); have zz0 : w.heap.size + 1 + 1 < w1.heap.size := World.block_lt_of_cell? (w := w1) (a := ⟨w.heap.size + 1 + 1, 0, none⟩) r0; have zz1 : w.heap.size + 1 + 1 < w1.heap.size + 1 := (by omega); have zz2 : w.heap.size + 1 + 1 < w1.heap.size + 1 + 1 := (by omega); have zz3 : w.heap.size + 1 + 1 < w1.heap.size + 1 + 1 + 1 := (by omega); have zz4 : w.heap.size + 1 + 1 < w1.heap.size + 1 + 1 + 1 + 1 := (by omega); have zz5 : w.heap.size + 1 + 1 < w1.heap.size + 1 + 1 + 1 + 1 + 1 := (by omega); have HB : Hid (Below w.heap.size w w1) := bl_via (bl_alloc (bl_alloc (bl_alloc (bl_refl _)))) hb; clear hb)
  refine bodyPost_ret (v := .tuple #[.agg #[.int .i64 0, .int .i64 0, .int .i64 0], .bool false]) ?_ rfl ⟨rfl, ?_⟩
  · first | (simp [results, Tryd.results44, go_sem, *]; done) | (simp [results, Tryd.results44, go_sem, World.cell?_alloc_past, *]; done)
  · with_reducible repeat' (first | exact HB.out | refine bl_set ?_ ?_ | refine bl_alloc ?_ | refine bl_drew ?_)
    all_goals (first | (simp; done) | (simp; omega))

set_option maxRecDepth 100000 in
set_option maxHeartbeats 3200000 in
theorem acrossOf_yes (x y k p q r s : Int) (w : World) (h : triB x y k = true) (hh : hasB x y k p q r s = true) :
    Calls Tryd.prog 44 #[.agg #[.int .i64 x, .int .i64 y, .int .i64 k], .agg #[.int .i64 p, .int .i64 q, .int .i64 r, .int .i64 s]] w fun e w' => e = .returned (.tuple #[.agg #[.int .i64 (acX x y k p q r s), .int .i64 (acY x y k p q r s), .int .i64 (acK x y k p q r s)], .bool true]) ∧ Below w.heap.size w w' := by
  have hb : 0 ≤ k ∧ k ≤ 3 ∧ -1000000 ≤ x ∧ x ≤ 1000000 ∧ -1000000 ≤ y ∧ y ≤ 1000000 := by simpa [triB] using h
  obtain ⟨k0, k3, b1, b2, b3, b4⟩ := hb
  have C44 : Hid (∀ (X Y K : Int) (W : World), -4000000 ≤ X → X ≤ 4000000 → -4000000 ≤ Y → Y ≤ 4000000 → 0 ≤ K → K ≤ 3 → Calls Tryd.prog 32 #[.agg #[.int .i64 X, .int .i64 Y, .int .i64 K], .agg #[.int .i64 p, .int .i64 q, .int .i64 r, .int .i64 s]] W fun e w' => e = .returned (.bool (hasB X Y K p q r s)) ∧ Below W.heap.size W w') := fun X Y K W c1 c2 c3 c4 c5 c6 => hasEdge_any X Y K p q r s W c1 c2 c3 c4 c5 c6
  have C0 : Hid (∀ W : World, Calls Tryd.prog 32 #[.agg #[.int .i64 x, .int .i64 y, .int .i64 k], .agg #[.int .i64 p, .int .i64 q, .int .i64 r, .int .i64 s]] W fun e w' => e = .returned (.bool true) ∧ Below W.heap.size W w') := fun W => hh ▸ hasEdge_any x y k p q r s W (by omega) (by omega) (by omega) (by omega) (by omega) (by omega)
  have HU : Hid (∀ dx dy l : Int, 0 ≤ l → l ≤ 3 → Oth x y k p q r s dx dy l → x + dx = acX x y k p q r s ∧ y + dy = acY x y k p q r s ∧ l = acK x y k p q r s) := fun dx dy l l0 l3 ho => across_is x y k p q r s dx dy l k0 k3 l0 l3 hh ho
  have HX : Hid (∃ dx dy l : Int, (-1 ≤ dx ∧ dx ≤ 1) ∧ (-1 ≤ dy ∧ dy ≤ 1) ∧ (0 ≤ l ∧ l ≤ 3) ∧ Oth x y k p q r s dx dy l) := across_has x y k p q r s k0 k3 hh
  have hn := neq23
  clear h hh
  go_enter Tryd.func44, Tryd.ntmps44
  go_wp2_with (go_at_call 32; refine (C0.out _).mono ?_; rintro e w1 ⟨rfl, hb⟩; have HA : Hid (AW w w1 x y k p q r s) := ⟨Tr.kept (by simp [Tr, go_sem]) hb, Qd.kept (by simp [Qd, go_sem]) hb, Tr.kept (by simp [Tr, go_sem]) hb, Fr.kept (by simp [Fr, go_sem]) (by simp) hb, bl_via (bl_alloc (bl_alloc (bl_alloc (bl_refl _)))) hb⟩; clear hb)
  clear C0
  go_loopg [6] 3 (fun g s6 wx => ∃ dx : Int, -1 ≤ dx ∧ dx ≤ 2 ∧ (g : Int) = 2 - dx ∧ s6 = .int .i64 dx ∧ NX x y k p q r s dx ∧ AW w wx x y k p q r s)
  case atStart => exact ⟨-1, by omega, by omega, by omega, rfl, fun a b l a0 a1 => by omega, HA.out⟩
  case round =>
    obtain ⟨dx, d1, d2, hg1, rfl, hN, hA⟩ := hrel
    have HN1 : Hid (NX x y k p q r s dx) := hN
    clear hN
    by_cases hx : dx ≤ 1
    · go_wp2
      go_loopg [7] 3 (fun g s7 wx => ∃ dy : Int, -1 ≤ dy ∧ dy ≤ 2 ∧ (g : Int) = 2 - dy ∧ s7 = .int .i64 dy ∧ NY x y k p q r s dx dy ∧ AW w wx x y k p q r s)
      case atStart => exact ⟨-1, by omega, by omega, by omega, rfl, fun b l b0 b1 => by omega, hA⟩
      case round =>
        clear hA
        obtain ⟨dy, d3, d4, hg2, rfl, hN, hA⟩ := hrel
        have HN2 : Hid (NY x y k p q r s dx dy) := hN
        clear hN
        by_cases hy : dy ≤ 1
        · go_wp2
          go_loopg [8] 4 (fun g s8 wx => ∃ l : Int, 0 ≤ l ∧ l ≤ 4 ∧ (g : Int) = 4 - l ∧ s8 = .int .i64 l ∧ NZ x y k p q r s dx dy l ∧ AW w wx x y k p q r s)
          case atStart => exact ⟨0, by omega, by omega, by omega, rfl, fun m m0 m1 => by omega, hA⟩
          case round =>
            clear hA
            obtain ⟨l, d5, d6, hg3, rfl, hN, hA⟩ := hrel
            have HN3 : Hid (NZ x y k p q r s dx dy l) := hN
            have HA : Hid (AW w wr x y k p q r s) := hA
            clear hN hA
            by_cases hl : l < 4
            · have wX : IntKind.i64.wrap (x + dx) = x + dx := wrap_of (by omega) (by omega)
              have wY : IntKind.i64.wrap (y + dy) = y + dy := wrap_of (by omega) (by omega)
              obtain ⟨⟨t0, t1, t2⟩, ⟨q0, q1, q2, q3⟩, ⟨r0, r1, r2⟩, ⟨f0, f1, f2, f3, f4, f5⟩, hB⟩ := HA.out
              have z0 : w.heap.size + 1 + 1 < wr.heap.size := World.block_lt_of_cell? _ _ r0
              have za0 : w.heap.size < wr.heap.size := by omega
              have za1 : w.heap.size < wr.heap.size + 1 := by omega
              have za2 : w.heap.size < wr.heap.size + 1 + 1 := by omega
              have zb0 : w.heap.size + 1 < wr.heap.size := by omega
              have zb1 : w.heap.size + 1 < wr.heap.size + 1 := by omega
              have zb2 : w.heap.size + 1 < wr.heap.size + 1 + 1 := by omega
              have zc0 : w.heap.size + 1 + 1 < wr.heap.size := by omega
              have zc1 : w.heap.size + 1 + 1 < wr.heap.size + 1 := by omega
              have zc2 : w.heap.size + 1 + 1 < wr.heap.size + 1 + 1 := by omega
              clear hB
              cases hs : sameT (x + dx) (y + dy) l x y k
              · cases hh : hasB (x + dx) (y + dy) l p q r s
                · go_wp2_with (go_at_call 32; refine (C44.out _ _ _ _ (by omega) (by omega) (by omega) (by omega) (by omega) (by omega)).mono ?_; rintro e w2 ⟨rfl, hb⟩; have HA2 : Hid (AW w w2 x y k p q r s) := AW.kept HA.out (bl_via (bl_alloc (bl_refl _)) hb); clear hb)
                  go_roundg (3 - l).toNat
                  case measure => omega
                  case rel => exact ⟨l + 1, by omega, by omega, by omega, by go_num, HN3.out.next (fun ho => by rw [ho.1] at hh; exact Bool.noConfusion hh), HA2.out⟩
                · have HE : Hid (x + dx = acX x y k p q r s ∧ y + dy = acY x y k p q r s ∧ l = acK x y k p q r s) := HU.out dx dy l (by omega) (by omega) ⟨hh, by intro hc; simp [sameT, hc] at hs⟩
                  go_wp2_with (go_at_call 32; refine (C44.out _ _ _ _ (by omega) (by omega) (by omega) (by omega) (by omega) (by omega)).mono ?_; rintro e w2 ⟨rfl, hb⟩; have HA2 : Hid (AW w w2 x y k p q r s) := AW.kept HA.out (bl_via (bl_alloc (bl_refl _)) hb); have v0 : w2.cell? ⟨wr.heap.size, 0, none⟩ = some (.int .i64 (x + dx)) := cl_kept hb (by simp [go_sem]); have v1 : w2.cell? ⟨wr.heap.size, 1, none⟩ = some (.int .i64 (y + dy)) := cl_kept hb (by simp [go_sem]); have v2 : w2.cell? ⟨wr.heap.size, 2, none⟩ = some (.int .i64 l) := cl_kept hb (by simp [go_sem]); obtain ⟨_, _, ⟨r0', r1', r2'⟩, ⟨g0, g1, g2, _, _, _⟩, _⟩ := HA2.out; have y0 : w.heap.size + 1 + 1 < w2.heap.size := World.block_lt_of_cell? _ _ r0'; have y1 : w.heap.size + 1 + 1 < w2.heap.size + 1 := (by omega); have y2 : wr.heap.size < w2.heap.size := World.block_lt_of_cell? _ _ v0; have y3 : wr.heap.size < w2.heap.size + 1 := (by omega); clear hb)
                  refine bodyPost_ret (v := .tuple #[.agg #[.int .i64 (x + dx), .int .i64 (y + dy), .int .i64 l], .bool true]) ?_ rfl ⟨by rw [HE.out.1, HE.out.2.1, ← HE.out.2.2], ?_⟩
                  · first | (simp [results, Tryd.results44, go_sem, *]; done) | (simp [results, Tryd.results44, go_sem, World.cell?_alloc_past, *]; done)
                  · with_reducible repeat' (first | exact HA2.out.2.2.2.2 | refine bl_set ?_ ?_ | refine bl_alloc ?_ | refine bl_drew ?_)
                    all_goals (first | omega | (dsimp only; omega))
              · go_wp2
                go_roundg (3 - l).toNat
                case measure => omega
                case rel => exact ⟨l + 1, by omega, by omega, by omega, by go_num, HN3.out.next (fun ho => by simp [sameT] at hs; exact ho.2 (by omega)), HA.out.kept (bl_alloc (bl_refl _))⟩
            · go_wp2
              go_roundg (1 - dy).toNat
              case measure => omega
              case rel =>
                obtain rfl : l = 4 := by omega
                exact ⟨dy + 1, by omega, by omega, by omega, by go_num, HN2.out.next HN3.out, HA.out⟩
        · go_wp2
          go_roundg (1 - dx).toNat
          case measure => omega
          case rel =>
            obtain rfl : dy = 2 := by omega
            exact ⟨dx + 1, by omega, by omega, by omega, by go_num, HN1.out.next HN2.out, hA⟩
    · exfalso
      obtain rfl : dx = 2 := by omega
      obtain ⟨a, b, l, ⟨a0, a1⟩, ⟨b0, b1⟩, ⟨l0, l1⟩, ho⟩ := HX.out
      exact HN1.out a b l a0 (by omega) b0 b1 l0 l1 ho

end Go.Proofs.YtehmoacggikfmaaDoor
