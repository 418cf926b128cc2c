/- A part of the proof of cutPunches_holds. -/
import Derived.Test.YtmjhfdohcghhoaaGreatDoorQlaz
import Derived.Test.YtmjhfdohcghhoaaGreatDoorQlaw
import Derived.Test.YtmjhfdohcghhoaaGreatDoorQlaq
import Derived.Test.YtmjhfdohcghhoaaGreatDoorQlav
import Derived.Test.YtmjhfdohcghhoaaGreatDoorQlac
import Derived.Test.YtmjhfdohcghhoaaGreatDoorQlbc
namespace Go.Proofs.YtmjhfdohcghhoaaGreatDoor
open Go.RowKit Go.ChangeMaps

/-- Are two maps one? -/
def sameM (a b c d e f A B C D E F : Int) : Bool := decide (a = A ∧ b = B ∧ c = C ∧ d = D ∧ e = E ∧ f = F)
theorem neqM (a b c d e f A B C D E F : Int) (w : World) :
    (binOp .neq 95 (.agg #[.int .i64 a, .int .i64 b, .int .i64 c, .int .i64 d, .int .i64 e, .int .i64 f]) (.agg #[.int .i64 A, .int .i64 B, .int .i64 C, .int .i64 D, .int .i64 E, .int .i64 F])).run Tryz.prog w = .ok (.bool (!sameM a b c d e f A B C D E F)) w := by
  by_cases h1 : a = A
  · subst h1
    by_cases h2 : b = B
    · subst h2
      by_cases h3 : c = C
      · subst h3
        by_cases h4 : d = D
        · subst h4
          by_cases h5 : e = E
          · subst h5
            by_cases h6 : f = F
            · subst h6
              simp [go_sem, sameM]
            · have e' : (f == F) = false := by simpa using h6
              simp [go_sem, sameM, e', h6]
          · have e' : (e == E) = false := by simpa using h5
            simp [go_sem, sameM, e', h5]
        · have e' : (d == D) = false := by simpa using h4
          simp [go_sem, sameM, e', h4]
      · have e' : (c == C) = false := by simpa using h3
        simp [go_sem, sameM, e', h3]
    · have e' : (b == B) = false := by simpa using h2
      simp [go_sem, sameM, e', h2]
  · have e' : (a == A) = false := by simpa using h1
    simp [go_sem, sameM, e', h1]

/-- Maps in a row of memory that may be written. -/
def MCell (w : World) (g i : Nat) (m : M6) : Prop := w.cell? ⟨g, i * 6, none⟩ = some (.int .i64 m.1) ∧ w.cell? ⟨g, i * 6 + 1, none⟩ = some (.int .i64 m.2.1) ∧ w.cell? ⟨g, i * 6 + 2, none⟩ = some (.int .i64 m.2.2.1) ∧ w.cell? ⟨g, i * 6 + 3, none⟩ = some (.int .i64 m.2.2.2.1) ∧ w.cell? ⟨g, i * 6 + 4, none⟩ = some (.int .i64 m.2.2.2.2.1) ∧ w.cell? ⟨g, i * 6 + 5, none⟩ = some (.int .i64 m.2.2.2.2.2)
def MFree (w : World) (g i : Nat) : Prop := w.frozen? ⟨g, i * 6, none⟩ = false ∧ w.frozen? ⟨g, i * 6 + 1, none⟩ = false ∧ w.frozen? ⟨g, i * 6 + 2, none⟩ = false ∧ w.frozen? ⟨g, i * 6 + 3, none⟩ = false ∧ w.frozen? ⟨g, i * 6 + 4, none⟩ = false ∧ w.frozen? ⟨g, i * 6 + 5, none⟩ = false
def MRow (w : World) (g n : Nat) (M : Nat → M6) : Prop := ∀ i, i < n → MCell w g i (M i) ∧ MFree w g i
theorem MRow.grown {w w' : World} {g n : Nat} {M : Nat → M6} {row : Option Nat} (h : MRow w g n M) (hg : w.grownBy w' row) (hne : some g ≠ row) : MRow w' g n M := fun i hi => by
  obtain ⟨⟨a0, a1, a2, a3, a4, a5⟩, f0, f1, f2, f3, f4, f5⟩ := h i hi
  have q : ∀ o, w'.frozen? ⟨g, o, none⟩ = w.frozen? ⟨g, o, none⟩ := fun o => World.frozen?_of_block (a := ⟨g, o, none⟩) (hg.block g (World.block_lt_of_cell? _ _ a0) hne)
  exact ⟨⟨hg.cell a0 hne, hg.cell a1 hne, hg.cell a2 hne, hg.cell a3 hne, hg.cell a4 hne, hg.cell a5 hne⟩, (q _).trans f0, (q _).trans f1, (q _).trans f2, (q _).trans f3, (q _).trans f4, (q _).trans f5⟩
theorem MRow.kept {w w' : World} {g n : Nat} {M : Nat → M6} (h : MRow w g n M) (hb : Below w.heap.size w w') : MRow w' g n M := h.grown (bl_grown hb) (by simp)
theorem st_same {w : World} {g k : Nat} {u v : Value} (h : w.cell? ⟨g, k, none⟩ = some u) : (w.setCell ⟨g, k, none⟩ v).cell? ⟨g, k, none⟩ = some v := World.cell?_setCell_same _ _ _ h
theorem st_else {w : World} {g k k' : Nat} {u v : Value} (h : w.cell? ⟨g, k, none⟩ = some u) (hne : k ≠ k') : (w.setCell ⟨g, k', none⟩ v).cell? ⟨g, k, none⟩ = some u := by
  rw [World.cell?_setCell_other _ _ _ _ (by simp <;> omega)]
  exact h
theorem inf59 : (Tryz.prog.info? 95).map (fun i => (i.zero, i.size, i.bytes)) = some (some (.agg #[.int .i64 0, .int .i64 0, .int .i64 0, .int .i64 0, .int .i64 0, .int .i64 0]), 6, 48) := by kernel_rfl
end Go.Proofs.YtmjhfdohcghhoaaGreatDoor
namespace Go.Proofs.YtmjhfdohcghhoaaGreatDoor
open Go.RowKit

/-- A pile, boxed. -/
def pbox (w : World) (ad : Option Addr) (n cc ra rk : Nat) (vm vp : Value) : World := w.alloc (.cells #[.slice ad n cc, .map (some ra), .map (some rk), vm, vp] 69)

/-- The places of the first so many triangles. -/
def pls (L : List (Int × Int × Int)) (M : Nat → M6) (n : Nat) : List (Int × Int × Int) := (List.range n).map fun i => mvt (M i) (L.getD i (0, 0, 0))
theorem pls_len (L : List (Int × Int × Int)) (M : Nat → M6) (n : Nat) : (pls L M n).length = n := by simp [pls]
theorem pls_succ (L : List (Int × Int × Int)) (M : Nat → M6) (n : Nat) : pls L M (n + 1) = pls L M n ++ [mvt (M n) (L.getD n (0, 0, 0))] := by
  unfold pls
  rw [List.range_succ, List.map_append]
  rfl
/-- The pile while its places are told. -/
structure SpB (w0 wx : World) (B : Nat) (ad : Option Addr) (n cc ra rk gm cm : Nat) (v : Value) (l : List (Int × Int × Int)) : Prop where
  c0 : wx.cell? ⟨B, 0, none⟩ = some (.slice ad n cc)
  c1 : wx.cell? ⟨B, 1, none⟩ = some (.map (some ra))
  c2 : wx.cell? ⟨B, 2, none⟩ = some (.map (some rk))
  c3 : wx.cell? ⟨B, 3, none⟩ = some (.slice (some ⟨gm, 0, none⟩) n cm)
  c4 : wx.cell? ⟨B, 4, none⟩ = some v
  f4 : wx.frozen? ⟨B, 4, none⟩ = false
  own : wx.ownsRow (B + 1) 43 3 v l.length (flatV l)
  low : w0.heap.size ≤ B
  bel : Below w0.heap.size w0 wx
theorem SpB.lt {w0 wx : World} {B : Nat} {ad : Option Addr} {n cc ra rk gm cm : Nat} {v : Value} {l : List (Int × Int × Int)} (h : SpB w0 wx B ad n cc ra rk gm cm v l) : B < wx.heap.size := World.block_lt_of_cell? _ _ h.c0
theorem SpB.kept {w0 wx w' : World} {B : Nat} {ad : Option Addr} {n cc ra rk gm cm : Nat} {v : Value} {l : List (Int × Int × Int)} (h : SpB w0 wx B ad n cc ra rk gm cm v l) (hb : Below wx.heap.size wx w') : SpB w0 w' B ad n cc ra rk gm cm v l :=
  ⟨cl_kept hb h.c0, cl_kept hb h.c1, cl_kept hb h.c2, cl_kept hb h.c3, cl_kept hb h.c4, (hb.frozen h.lt).trans h.f4, own_below h.own hb, h.low, bl_via h.bel hb⟩
theorem SpB.more {w0 wx w2 : World} {B : Nat} {ad : Option Addr} {n cc ra rk gm cm : Nat} {v v' : Value} {l : List (Int × Int × Int)} {t : Int × Int × Int} (h : SpB w0 wx B ad n cc ra rk gm cm v l) (hg : wx.grownBy w2 v.ownBlock) (ho : w2.ownsRow (B + 1) 43 3 v' (l.length + 1) (flatV l ++ [.int .i64 t.1, .int .i64 t.2.1, .int .i64 t.2.2])) : SpB w0 (w2.setCell ⟨B, 4, none⟩ v') B ad n cc ra rk gm cm v' (l ++ [t]) := by
  have hn : some B ≠ v.ownBlock := fun e => by
    have := own_base h.own B e.symm
    omega
  have hn' : v'.ownBlock ≠ some B := fun e => by
    have := own_base ho B e
    omega
  have g1 := h.bel.grown hg h.bel.size (fun k hk => by have := own_base h.own k hk; have := h.low; omega)
  have hlt2 : B < w2.heap.size := Nat.lt_of_lt_of_le h.lt hg.size
  have c4 := hg.cell h.c4 hn
  have f4 : w2.frozen? ⟨B, 4, none⟩ = false := (World.frozen?_of_block (a := ⟨B, 4, none⟩) (hg.block B h.lt hn)).trans h.f4
  refine ⟨st_else (hg.cell h.c0 hn) (by omega), st_else (hg.cell h.c1 hn) (by omega), st_else (hg.cell h.c2 hn) (by omega), st_else (hg.cell h.c3 hn) (by omega), st_same c4, ?_, ?_, h.low, ?_⟩
  · simp [go_sem, f4]
  · rw [flatV_add, List.length_append, List.length_singleton]
    exact ho.kept (grown_cell w2 B 4 v') (Or.inr hn')
  · exact g1.setCell (p := ⟨B, 4, none⟩) h.low _
theorem TRow.far {w : World} {pa : Option Addr} {l : List (Int × Int × Int)} {p : Addr} {u : Value} (h : TRow w pa l) (hn : ∀ g, pa = some ⟨g, 0, none⟩ → g ≠ p.block) : TRow (w.setCell p u) pa l := fun i hi => by
  obtain ⟨g, e, c0, c1, c2⟩ := h i hi
  exact ⟨g, e, st_far c0 (hn g e), st_far c1 (hn g e), st_far c2 (hn g e)⟩
theorem fresh3_d {v w8 : World} {g : Nat} (hg : v.heap.size = g) (hb : Below ((v.alloc (.cells #[.int .i64 0, .int .i64 0, .int .i64 0] 43)).drew).heap.size ((v.alloc (.cells #[.int .i64 0, .int .i64 0, .int .i64 0] 43)).drew) w8) : (w8.cell? ⟨g, 0, none⟩ = some (.int .i64 0) ∧ w8.cell? ⟨g, 1, none⟩ = some (.int .i64 0) ∧ w8.cell? ⟨g, 2, none⟩ = some (.int .i64 0)) ∧ (w8.frozen? ⟨g, 0, none⟩ = false ∧ w8.frozen? ⟨g, 1, none⟩ = false ∧ w8.frozen? ⟨g, 2, none⟩ = false) ∧ g < w8.heap.size := by
  subst hg
  have c0 : w8.cell? ⟨v.heap.size, 0, none⟩ = some (.int .i64 0) := cl_kept hb (by simp [go_sem])
  refine ⟨⟨c0, cl_kept hb (by simp [go_sem]), cl_kept hb (by simp [go_sem])⟩, ⟨?_, ?_, ?_⟩, World.block_lt_of_cell? _ _ c0⟩
  all_goals exact (hb.frozen (by simp)).trans (by simp [go_sem])
end Go.Proofs.YtmjhfdohcghhoaaGreatDoor
namespace Go.Proofs.YtmjhfdohcghhoaaGreatDoor
open Go.RowKit Go.ChangeMaps

/-- What paper.Beyond answers: none, where numbers would be too great. -/
def bynd (kd : Int × Int × Int × Int → Int) (e : Int × Int × Int × Int) (m : M6) : M6 := if kd e = 0 then m else bif mapM (aft (mir (lnW e) (lnC e)) m) then aft (mir (lnW e) (lnC e)) m else noM
/-- A map that may be is the one beyond, just if it is the one that it should be. -/
theorem bynd_iff {kd : Int × Int × Int × Int → Int} {e : Int × Int × Int × Int} {m n : M6} (hn : mapM n = true) : n = bynd kd e m ↔ n = farM kd e m := by
  unfold bynd farM
  split
  · exact Iff.rfl
  · cases h : mapM (aft (mir (lnW e) (lnC e)) m)
    · constructor
      · intro q
        rw [q] at hn
        simp [noM_not] at hn
      · intro q
        rw [q, h] at hn
        exact absurd hn (by decide)
    · exact Iff.rfl
set_option maxRecDepth 100000 in
set_option maxHeartbeats 3200000 in
theorem beyond_gen (w : World) (ad : Option Addr) (n cc ra rk : Nat) (kd : Int × Int × Int × Int → Int) (p q r s A B C D E F : Int) (hK : KL w rk kd) (h1 : 0 ≤ p ∧ p ≤ 100) (h2 : 0 ≤ q ∧ q ≤ 100) (hl : lineB (lnW (p, q, r, s)) (lnC (p, q, r, s)) = true ∧ -40 ≤ lnC (p, q, r, s) ∧ lnC (p, q, r, s) ≤ 40) (hm : mapM (A, B, C, D, E, F) = true) :
    Calls Tryz.prog 123 #[.agg #[.slice ad n cc, .map (some ra), .map (some rk)], .agg #[.int .i64 p, .int .i64 q, .int .i64 r, .int .i64 s], .agg #[.int .i64 A, .int .i64 B, .int .i64 C, .int .i64 D, .int .i64 E, .int .i64 F]] w fun e w' => e = .returned (mv (bynd kd (p, q, r, s) (A, B, C, D, E, F))) ∧ Below w.heap.size w w' := by
  have hmir := mir_may hl.1 hl.2
  by_cases hz : kd (p, q, r, s) = 0
  · have CK : Hid (∀ W' : World, Below w.heap.size w W' → Calls Tryz.prog 139 #[.agg #[.slice ad n cc, .map (some ra), .map (some rk)], .agg #[.int .i64 p, .int .i64 q, .int .i64 r, .int .i64 s]] W' fun e w' => e = .returned (.int .i64 0) ∧ Below W'.heap.size W' w') := fun W' hW' => hz ▸ kind_any W' ad n cc ra rk kd p q r s (hK.kept hW')
    have HF : Hid (bynd kd (p, q, r, s) (A, B, C, D, E, F) = (A, B, C, D, E, F)) := by
      have : bynd kd (p, q, r, s) (A, B, C, D, E, F) = (A, B, C, D, E, F) := by simp [bynd, hz]
      exact this
    clear hK hl hm hmir h1 h2 hz
    go_enter Tryz.func123, Tryz.ntmps123
    go_wp2_with (go_at_call 139; refine (CK.out _ (by with_reducible exact bl_alloc (bl_alloc (bl_alloc (bl_alloc (bl_refl _)))))).mono ?_; rintro e w2 ⟨rfl, hb⟩; have HB : Hid (Below w.heap.size w w2) := bl_via (bl_alloc (bl_alloc (bl_alloc (bl_alloc (bl_refl _))))) hb; have m0 : w2.cell? ⟨w.heap.size + 1 + 1, 0, none⟩ = some (.int .i64 A) := cl_kept hb (by simp [go_sem]); have m1 : w2.cell? ⟨w.heap.size + 1 + 1, 1, none⟩ = some (.int .i64 B) := cl_kept hb (by simp [go_sem]); have m2 : w2.cell? ⟨w.heap.size + 1 + 1, 2, none⟩ = some (.int .i64 C) := cl_kept hb (by simp [go_sem]); have m3 : w2.cell? ⟨w.heap.size + 1 + 1, 3, none⟩ = some (.int .i64 D) := cl_kept hb (by simp [go_sem]); have m4 : w2.cell? ⟨w.heap.size + 1 + 1, 4, none⟩ = some (.int .i64 E) := cl_kept hb (by simp [go_sem]); have m5 : w2.cell? ⟨w.heap.size + 1 + 1, 5, none⟩ = some (.int .i64 F) := cl_kept hb (by simp [go_sem]); have r0 : w2.cell? ⟨w.heap.size + 1 + 1 + 1, 0, none⟩ = some (.int .i64 0) := cl_kept hb (by simp [go_sem]); have r1 : w2.cell? ⟨w.heap.size + 1 + 1 + 1, 1, none⟩ = some (.int .i64 0) := cl_kept hb (by simp [go_sem]); have r2 : w2.cell? ⟨w.heap.size + 1 + 1 + 1, 2, none⟩ = some (.int .i64 0) := cl_kept hb (by simp [go_sem]); have r3 : w2.cell? ⟨w.heap.size + 1 + 1 + 1, 3, none⟩ = some (.int .i64 0) := cl_kept hb (by simp [go_sem]); have r4 : w2.cell? ⟨w.heap.size + 1 + 1 + 1, 4, none⟩ = some (.int .i64 0) := cl_kept hb (by simp [go_sem]); have r5 : w2.cell? ⟨w.heap.size + 1 + 1 + 1, 5, none⟩ = some (.int .i64 0) := cl_kept hb (by simp [go_sem]); have fz : ∀ o, o < 6 → w2.frozen? ⟨w.heap.size + 1 + 1 + 1, o, none⟩ = false := fun o ho => (hb.frozen (p := ⟨w.heap.size + 1 + 1 + 1, o, none⟩) (by simp)).trans (by simp [go_sem]); have f0 := fz 0 (by omega); have f1 := fz 1 (by omega); have f2 := fz 2 (by omega); have f3 := fz 3 (by omega); have f4 := fz 4 (by omega); have f5 := fz 5 (by omega); have zw : w.heap.size + 1 + 1 + 1 < w2.heap.size := World.block_lt_of_cell? _ _ r0; clear fz hb)
    refine bodyPost_ret (v := .agg #[.int .i64 A, .int .i64 B, .int .i64 C, .int .i64 D, .int .i64 E, .int .i64 F]) (by simp [results, Tryz.results123, go_sem, r0, r1, r2, r3, r4, r5]) rfl ⟨by rw [HF.out]; rfl, ?_⟩
    with_reducible repeat (first | exact HB.out | refine bl_set ?_ ?_)
    all_goals (dsimp only; omega)
  · obtain ⟨z, hzz⟩ : ∃ z, z = kd (p, q, r, s) := ⟨_, rfl⟩
    have CK : Hid (∀ W' : World, Below w.heap.size w W' → Calls Tryz.prog 139 #[.agg #[.slice ad n cc, .map (some ra), .map (some rk)], .agg #[.int .i64 p, .int .i64 q, .int .i64 r, .int .i64 s]] W' fun e w' => e = .returned (.int .i64 z) ∧ Below W'.heap.size W' w') := fun W' hW' => hzz ▸ kind_any W' ad n cc ra rk kd p q r s (hK.kept hW')
    rw [← hzz] at hz
    obtain ⟨v, hv⟩ : ∃ v, v = lnW (p, q, r, s) := ⟨_, rfl⟩
    obtain ⟨c, hc⟩ : ∃ c, c = lnC (p, q, r, s) := ⟨_, rfl⟩
    have CL : Hid (∀ W' : World, Calls Tryz.prog 141 #[.agg #[.int .i64 p, .int .i64 q, .int .i64 r, .int .i64 s]] W' fun e w' => e = .returned (.agg #[.int .i64 v, .int .i64 c]) ∧ Below W'.heap.size W' w') := fun W' => by
      rw [hv, hc]
      exact paperLine_any p q r s W' h1 h2
    rw [← hv, ← hc] at hl hmir
    obtain ⟨a, b, c', d, e, f, hmv⟩ : ∃ a b c' d e f, mir v c = (a, b, c', d, e, f) := ⟨_, _, _, _, _, _, rfl⟩
    have CM : Hid (∀ W' : World, Calls Tryz.prog 140 #[.agg #[.int .i64 v, .int .i64 c]] W' fun e' w' => e' = .returned (.tuple #[.agg #[.int .i64 a, .int .i64 b, .int .i64 c', .int .i64 d, .int .i64 e, .int .i64 f], .int .i64 0]) ∧ Below W'.heap.size W' w') := fun W' => by
      have h := Mirror_yes v c W' hl.1 hmir.1
      simp only [mir, Prod.mk.injEq] at hmv
      obtain ⟨rfl, rfl, rfl, rfl, rfl, rfl⟩ := hmv
      exact h
    rw [hmv] at hmir
    obtain ⟨u0, u1, u2, u3, u4, u5, cd, HF, CA⟩ : ∃ u0 u1 u2 u3 u4 u5 cd : Int, Hid (bynd kd (p, q, r, s) (A, B, C, D, E, F) = (u0, u1, u2, u3, u4, u5)) ∧ Hid (∀ W' : World, Calls Tryz.prog 142 #[.agg #[.int .i64 a, .int .i64 b, .int .i64 c', .int .i64 d, .int .i64 e, .int .i64 f], .agg #[.int .i64 A, .int .i64 B, .int .i64 C, .int .i64 D, .int .i64 E, .int .i64 F]] W' fun r w' => r = .returned (.tuple #[.agg #[.int .i64 u0, .int .i64 u1, .int .i64 u2, .int .i64 u3, .int .i64 u4, .int .i64 u5], .int .i64 cd]) ∧ Below W'.heap.size W' w') := by
      have hz' : kd (p, q, r, s) ≠ 0 := by rw [← hzz]; exact hz
      have hav : aft (mir (lnW (p, q, r, s)) (lnC (p, q, r, s))) (A, B, C, D, E, F) = (dot A B a c', dot A B b d, dot C D a c', dot C D b d, dot A B e f + E, dot C D e f + F) := by
        rw [← hv, ← hc, hmv]
        rfl
      cases hma : mapM (aft (mir (lnW (p, q, r, s)) (lnC (p, q, r, s))) (A, B, C, D, E, F))
      · refine ⟨0, 0, 0, 0, 0, 0, 2, ?_, fun W' => After_no a b c' d e f A B C D E F W' hmir.1 hm ?_⟩
        · exact by
            have : bynd kd (p, q, r, s) (A, B, C, D, E, F) = (0, 0, 0, 0, 0, 0) := by
              unfold bynd
              rw [if_neg hz', hma]
              rfl
            exact this
        · rw [hav] at hma
          exact hma
      · refine ⟨dot A B a c', dot A B b d, dot C D a c', dot C D b d, dot A B e f + E, dot C D e f + F, 0, ?_, fun W' => After_yes a b c' d e f A B C D E F W' hmir.1 hm ?_⟩
        · exact by
            have : bynd kd (p, q, r, s) (A, B, C, D, E, F) = (dot A B a c', dot A B b d, dot C D a c', dot C D b d, dot A B e f + E, dot C D e f + F) := by
              unfold bynd
              rw [if_neg hz', hma, hav]
              rfl
            exact this
        · rw [hav] at hma
          exact hma
    clear hK hl hm hmir h1 h2 hzz hv hc hmv
    go_enter Tryz.func123, Tryz.ntmps123
    go_wp2_with (first
      | (go_at_call 139; refine (CK.out _ (by with_reducible exact bl_alloc (bl_alloc (bl_alloc (bl_alloc (bl_refl _)))))).mono ?_; rintro e w2 ⟨rfl, hb⟩; have HB : Hid (Below w.heap.size w w2) := bl_via (bl_alloc (bl_alloc (bl_alloc (bl_alloc (bl_refl _))))) hb; have e0 : w2.cell? ⟨w.heap.size + 1, 0, none⟩ = some (.int .i64 p) := cl_kept hb (by simp [go_sem]); have e1 : w2.cell? ⟨w.heap.size + 1, 1, none⟩ = some (.int .i64 q) := cl_kept hb (by simp [go_sem]); have e2 : w2.cell? ⟨w.heap.size + 1, 2, none⟩ = some (.int .i64 r) := cl_kept hb (by simp [go_sem]); have e3 : w2.cell? ⟨w.heap.size + 1, 3, none⟩ = some (.int .i64 s) := cl_kept hb (by simp [go_sem]); have m0 : w2.cell? ⟨w.heap.size + 1 + 1, 0, none⟩ = some (.int .i64 A) := cl_kept hb (by simp [go_sem]); have m1 : w2.cell? ⟨w.heap.size + 1 + 1, 1, none⟩ = some (.int .i64 B) := cl_kept hb (by simp [go_sem]); have m2 : w2.cell? ⟨w.heap.size + 1 + 1, 2, none⟩ = some (.int .i64 C) := cl_kept hb (by simp [go_sem]); have m3 : w2.cell? ⟨w.heap.size + 1 + 1, 3, none⟩ = some (.int .i64 D) := cl_kept hb (by simp [go_sem]); have m4 : w2.cell? ⟨w.heap.size + 1 + 1, 4, none⟩ = some (.int .i64 E) := cl_kept hb (by simp [go_sem]); have m5 : w2.cell? ⟨w.heap.size + 1 + 1, 5, none⟩ = some (.int .i64 F) := cl_kept hb (by simp [go_sem]); have r0 : w2.cell? ⟨w.heap.size + 1 + 1 + 1, 0, none⟩ = some (.int .i64 0) := cl_kept hb (by simp [go_sem]); have HZ : Hid (∀ o, o < 6 → w2.cell? ⟨w.heap.size + 1 + 1 + 1, o, none⟩ = some (.int .i64 0) ∧ w2.frozen? ⟨w.heap.size + 1 + 1 + 1, o, none⟩ = false) := fun o ho => ⟨cl_kept hb (by rcases six_cases ho with rfl | rfl | rfl | rfl | rfl | rfl <;> simp [go_sem]), (hb.frozen (p := ⟨w.heap.size + 1 + 1 + 1, o, none⟩) (by simp)).trans (by simp [go_sem])⟩; have zw : w.heap.size + 1 + 1 + 1 < w2.heap.size := World.block_lt_of_cell? _ _ r0; clear hb)
      | (go_at_call 141; refine (CL.out _).mono ?_; rintro e w3 ⟨rfl, hb⟩; have HB3 : Hid (Below w2.heap.size w2 w3) := hb; clear hb)
      | (go_at_call 140; refine (CM.out _).mono ?_; rintro e w4 ⟨rfl, hb⟩; have HB4 : Hid (Below w2.heap.size w2 w4) := bl_via HB3.out hb; have n0 := cl_kept HB4.out m0; have n1 := cl_kept HB4.out m1; have n2 := cl_kept HB4.out m2; have n3 := cl_kept HB4.out m3; have n4 := cl_kept HB4.out m4; have n5 := cl_kept HB4.out m5; have z4 : w.heap.size + 1 + 1 < w4.heap.size := World.block_lt_of_cell? _ _ n0; clear hb)
      | (go_at_call 142; refine (CA.out _).mono ?_; rintro e w5 ⟨rfl, hb⟩; have HB5 : Hid (Below w2.heap.size w2 w5) := bl_via (bl_alloc HB4.out) hb; have s0 := cl_kept HB5.out (HZ.out 0 (by omega)).1; have f0 := (HB5.out.frozen (p := ⟨w.heap.size + 1 + 1 + 1, 0, none⟩) zw).trans (HZ.out 0 (by omega)).2; have s1 := cl_kept HB5.out (HZ.out 1 (by omega)).1; have f1 := (HB5.out.frozen (p := ⟨w.heap.size + 1 + 1 + 1, 1, none⟩) zw).trans (HZ.out 1 (by omega)).2; have s2 := cl_kept HB5.out (HZ.out 2 (by omega)).1; have f2 := (HB5.out.frozen (p := ⟨w.heap.size + 1 + 1 + 1, 2, none⟩) zw).trans (HZ.out 2 (by omega)).2; have s3 := cl_kept HB5.out (HZ.out 3 (by omega)).1; have f3 := (HB5.out.frozen (p := ⟨w.heap.size + 1 + 1 + 1, 3, none⟩) zw).trans (HZ.out 3 (by omega)).2; have s4 := cl_kept HB5.out (HZ.out 4 (by omega)).1; have f4 := (HB5.out.frozen (p := ⟨w.heap.size + 1 + 1 + 1, 4, none⟩) zw).trans (HZ.out 4 (by omega)).2; have s5 := cl_kept HB5.out (HZ.out 5 (by omega)).1; have f5 := (HB5.out.frozen (p := ⟨w.heap.size + 1 + 1 + 1, 5, none⟩) zw).trans (HZ.out 5 (by omega)).2; have z5 : w.heap.size + 1 + 1 + 1 < w5.heap.size := World.block_lt_of_cell? _ _ s0; clear hb))
    refine bodyPost_ret (v := .agg #[.int .i64 u0, .int .i64 u1, .int .i64 u2, .int .i64 u3, .int .i64 u4, .int .i64 u5]) ?_ rfl ⟨by rw [HF.out]; rfl, ?_⟩
    · simp [results, Tryz.results123, go_sem, s0, s1, s2, s3, s4, s5, World.cell?_alloc_past, z5]
    · with_reducible repeat (first | exact bl_via HB.out HB5.out | refine bl_set ?_ ?_ | refine bl_alloc ?_)
      all_goals (dsimp only; omega)

/-- A map in a block of its own. -/
def M1 (w : World) (g : Nat) (a b c d e f : Int) : Prop := w.cell? ⟨g, 0, none⟩ = some (.int .i64 a) ∧ w.cell? ⟨g, 1, none⟩ = some (.int .i64 b) ∧ w.cell? ⟨g, 2, none⟩ = some (.int .i64 c) ∧ w.cell? ⟨g, 3, none⟩ = some (.int .i64 d) ∧ w.cell? ⟨g, 4, none⟩ = some (.int .i64 e) ∧ w.cell? ⟨g, 5, none⟩ = some (.int .i64 f)
end Go.Proofs.YtmjhfdohcghhoaaGreatDoor
