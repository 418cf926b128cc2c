/- A triangle is laid among a paper's. -/
import Derived.Test.YtehmoacggikfmaaDoorQlbl
import Derived.Test.YtehmoacggikfmaaDoorQlad
import Derived.Deep.AppendLies
import Derived.Deep.RegionLaw
namespace Go.Proofs.YtehmoacggikfmaaDoor
open Go.RowKit Go.ChangeMaps

theorem edg_ne {t : Int × Int × Int} (ht : Kd t) : edg t 0 ≠ edg t 1 ∧ edg t 0 ≠ edg t 2 ∧ edg t 1 ≠ edg t 2 := by
  obtain ⟨x, y, k⟩ := t
  have hk : k = 0 ∨ k = 1 ∨ k = 2 ∨ k = 3 := by
    have h1 := ht.1
    have h2 := ht.2
    simp only at h1 h2
    omega
  have o0 := edg_own (x, y, k) 0
  have q : ∀ i, i < 3 → edg (x, y, k) i = if i = 0 then (ue0 x y k, ue1 x y k, ue2 x y k, ue3 x y k) else if i = 1 then (ue4 x y k, ue5 x y k, ue6 x y k, ue7 x y k) else (ue8 x y k, ue9 x y k, ue10 x y k, ue11 x y k) := fun i _ => rfl
  have r0 : e0 x y k (ue0 x y k) (ue1 x y k) (ue2 x y k) (ue3 x y k) = true := by simp [e0, sameB]
  have r1 : e1 x y k (ue4 x y k) (ue5 x y k) (ue6 x y k) (ue7 x y k) = true := by simp [e1, sameB]
  have r2 : e2 x y k (ue8 x y k) (ue9 x y k) (ue10 x y k) (ue11 x y k) = true := by simp [e2, sameB]
  rw [q 0 (by omega), q 1 (by omega), q 2 (by omega)]
  simp only [if_pos, Nat.one_ne_zero, show ¬ (2 : Nat) = 0 by omega, show ¬ (2 : Nat) = 1 by omega, if_false, ne_eq, Prod.mk.injEq]
  rcases hk with rfl | rfl | rfl | rfl <;> simp only [e0_0, e0_1, e0_2, e0_3, e1_0, e1_1, e1_2, e1_3, e2_0, e2_1, e2_2, e2_3] at r0 r1 r2 <;> omega

/-- Of each edge its triangles, once the first i edges of one more have been told. -/
def Gi (L : List (Int × Int × Int)) (t : Int × Int × Int) (i : Nat) : Int × Int × Int × Int → List Int := fun e =>
  gix L e ++ if (0 < i ∧ e = edg t 0) ∨ (1 < i ∧ e = edg t 1) ∨ (2 < i ∧ e = edg t 2) then [(L.length : Int)] else []
theorem Gi_zero (L : List (Int × Int × Int)) (t : Int × Int × Int) : Gi L t 0 = gix L := by
  funext e
  simp [Gi]
theorem Gi_three (L : List (Int × Int × Int)) (t : Int × Int × Int) : Gi L t 3 = gix (L ++ [t]) := by
  funext e
  rw [gix_snoc]
  unfold Gi
  by_cases h : hasT t e = true
  · obtain ⟨i, hi, he⟩ := hasT_edg h
    have : i = 0 ∨ i = 1 ∨ i = 2 := by omega
    rw [if_pos h, if_pos]
    rcases this with rfl | rfl | rfl
    · exact Or.inl ⟨by omega, he.symm⟩
    · exact Or.inr (Or.inl ⟨by omega, he.symm⟩)
    · exact Or.inr (Or.inr ⟨by omega, he.symm⟩)
  · rw [if_neg h, if_neg]
    rintro (⟨_, e1⟩ | ⟨_, e1⟩ | ⟨_, e1⟩) <;> exact h (by rw [e1]; exact edg_own _ _)
theorem Gi_len (L : List (Int × Int × Int)) (t : Int × Int × Int) (i : Nat) (e : Int × Int × Int × Int) : (Gi L t i e).length ≤ L.length + 1 := by
  unfold Gi
  rw [List.length_append]
  have := gix_len L e
  split <;> simp <;> omega
theorem Gi_step (L : List (Int × Int × Int)) {t : Int × Int × Int} (ht : Kd t) (i : Nat) (hi : i < 3) : (fun j => if j = edg t i then Gi L t i (edg t i) ++ [(L.length : Int)] else Gi L t i j) = Gi L t (i + 1) := by
  obtain ⟨n1, n2, n3⟩ := edg_ne ht
  funext e
  have : i = 0 ∨ i = 1 ∨ i = 2 := by omega
  rcases this with rfl | rfl | rfl
  · by_cases h : e = edg t 0 <;> simp [Gi, h]
  · by_cases h : e = edg t 1
    · subst h
      simp [Gi, n1.symm]
    · simp [Gi, h]
  · by_cases h : e = edg t 2
    · subst h
      simp [Gi, n2.symm, n3.symm]
    · simp [Gi, h]

theorem idx32 (a0 a1 a2 a3 a4 a5 a6 a7 a8 a9 a10 a11 : Int) (w : World) :
    (Instr.index 92 (.agg #[.int .i64 a0, .int .i64 a1, .int .i64 a2, .int .i64 a3, .int .i64 a4, .int .i64 a5, .int .i64 a6, .int .i64 a7, .int .i64 a8, .int .i64 a9, .int .i64 a10, .int .i64 a11]) (.int .i64 0)).run Tryd.prog w = .ok (.agg #[.int .i64 a0, .int .i64 a1, .int .i64 a2, .int .i64 a3]) w ∧
    (Instr.index 92 (.agg #[.int .i64 a0, .int .i64 a1, .int .i64 a2, .int .i64 a3, .int .i64 a4, .int .i64 a5, .int .i64 a6, .int .i64 a7, .int .i64 a8, .int .i64 a9, .int .i64 a10, .int .i64 a11]) (.int .i64 1)).run Tryd.prog w = .ok (.agg #[.int .i64 a4, .int .i64 a5, .int .i64 a6, .int .i64 a7]) w ∧
    (Instr.index 92 (.agg #[.int .i64 a0, .int .i64 a1, .int .i64 a2, .int .i64 a3, .int .i64 a4, .int .i64 a5, .int .i64 a6, .int .i64 a7, .int .i64 a8, .int .i64 a9, .int .i64 a10, .int .i64 a11]) (.int .i64 2)).run Tryd.prog w = .ok (.agg #[.int .i64 a8, .int .i64 a9, .int .i64 a10, .int .i64 a11]) w := by
  refine ⟨?_, ?_, ?_⟩ <;> kernel_rfl
def TB (w : World) (B : Nat) (x y k : Int) : Prop := w.heap[B]? = some (.cells #[.int .i64 x, .int .i64 y, .int .i64 k] 52)
theorem TB.tr {w : World} {B : Nat} {x y k : Int} (h : TB w B x y k) : Tr w B x y k := by
  unfold TB at h
  simp [Tr, World.cell?, h]
theorem TB.lt {w : World} {B : Nat} {x y k : Int} (h : TB w B x y k) : B < w.heap.size := (Array.getElem?_eq_some_iff.1 h).1
theorem TB.grown {w w' : World} {B : Nat} {x y k : Int} {row : Option Nat} (h : TB w B x y k) (hg : w.grownBy w' row) (hne : some B ≠ row) : TB w' B x y k := (hg.block B h.lt hne).trans h
theorem TB.not_row {w : World} {B base n : Nat} {x y k : Int} {v : Value} {xs : List Value} (h : TB w B x y k) (ho : w.ownsRow base 3 1 v n xs) : some B ≠ v.ownBlock := by
  rcases ho.2 with ⟨rfl, _⟩ | ⟨g, cap, cur, rfl, _, hgb, _⟩
  · simp [Value.ownBlock]
  · intro e
    obtain rfl : B = g := by simpa [Value.ownBlock] using e
    unfold TB at h
    rw [h] at hgb
    simp at hgb
theorem TB.ne_map {w : World} {B r c : Nat} {x y k : Int} {ls : List ((Int × Int × Int × Int) × Value × Nat)} (h : TB w B x y k) (he : EM w r ls c) : some B ≠ some r := by
  intro e
  obtain rfl : B = r := by simpa using e
  unfold EM at he
  unfold TB at h
  rw [h] at he
  cases he
theorem cell_one {w : World} {g : Nat} (v : Value) (h : w.cell? ⟨g, 0, none⟩ = some v) : ∀ j u, [v][j]? = some u → w.cell? ((⟨g, 0, none⟩ : Addr).add j) = some u := by
  intro j u hu
  match j, hu with
  | 0, hu => simp at hu; subst hu; simpa [Addr.add] using h
theorem one_cell (n : Int) : ∀ u ∈ [Value.int .i64 n], u.oneCell' = true := by
  intro u hu
  simp at hu
  subst hu
  rfl

theorem three_cell (x y k : Int) : ∀ u ∈ [Value.int .i64 x, .int .i64 y, .int .i64 k], u.oneCell' = true := by
  intro u hu
  simp at hu
  rcases hu with rfl | rfl | rfl <;> rfl

set_option maxRecDepth 100000 in
set_option maxHeartbeats 6400000 in
theorem add_any (w0 : World) (x y k : Int) (base pb ra rk ccap : Nat) (ad : Option Addr) (L : List (Int × Int × Int)) (w : World) (h : triB x y k = true) (hs : Steps w0) (hL : L.length ≤ 300) (hp : PP w0 w base pb ra rk (.slice ad L.length ccap) L (gix L)) :
    Calls Tryd.prog 34 #[.pointer (some ⟨pb, 0, none⟩), .agg #[.int .i64 x, .int .i64 y, .int .i64 k]] w fun e w' => e = .returned (.tuple #[]) ∧ ∃ ad' ccap', PP w0 w' base pb ra rk (.slice ad' (L.length + 1) ccap') (L ++ [(x, y, k)]) (gix (L ++ [(x, y, k)])) := by
  have HS : Hid (Steps w0) := hs
  have hk : Kd (x, y, k) := by
    have := h
    simp only [triB, decide_eq_true_eq] at this
    exact ⟨this.1, this.2.1⟩
  have HK : Hid (Kd (x, y, k)) := hk
  obtain ⟨i3, hi3, hz30, hz31, hz32⟩ := info_parts inf3
  have HI : Hid (Tryd.prog.info? 3 = some i3 ∧ i3.zero = some (.int .i64 0) ∧ i3.size = 1 ∧ i3.bytes = 8) := ⟨hi3, hz30, hz31, hz32⟩
  obtain ⟨i23, hi23, hz230, hz231, hz232⟩ := info_parts inf23
  have HI23 : Hid (Tryd.prog.info? 52 = some i23 ∧ i23.zero = some (.agg #[.int .i64 0, .int .i64 0, .int .i64 0]) ∧ i23.size = 3 ∧ i23.bytes = 24) := ⟨hi23, hz230, hz231, hz232⟩
  have HP : Hid (PP w0 w base pb ra rk (.slice ad L.length ccap) L (gix L)) := hp
  obtain ⟨vt, hvt⟩ : ∃ v, v = Value.slice ad L.length ccap := ⟨_, rfl⟩
  clear hs hi3 hz30 hz31 hz32 hi23 hz230 hz231 hz232 hp hk
  go_enter Tryd.func34, Tryd.ntmps34
  go_wp2_with (go_at_call 47; refine (paperEdges_any _ _ _ _ h (HS.out.kept (bl_alloc HP.out.2.2.2.2.2))).mono ?_; rintro e w2 ⟨rfl, hb⟩; have HQ2 : Hid (PP w0 w2 base pb ra rk (.slice ad L.length ccap) L (gix L) ∧ TB w2 w.heap.size x y k) := ⟨HP.out.kept (bl_via (bl_alloc (bl_refl _)) hb), (hb.block w.heap.size (by simp)).trans (heap_alloc_new w _)⟩; clear hb)
  go_loopg [8] 3 (fun g s8 wx => ∃ i : Nat, i ≤ 3 ∧ g = 3 - i ∧ s8 = .int .i64 (i : Int) ∧ PP w0 wx base pb ra rk (.slice ad L.length ccap) L (Gi L (x, y, k) i) ∧ TB wx w.heap.size x y k)
  case atStart => exact ⟨0, by omega, rfl, rfl, by rw [Gi_zero]; exact HQ2.out.1, HQ2.out.2⟩
  case round =>
    clear HP HQ2
    obtain ⟨i, hi, rfl, rfl, hP, hQ⟩ := hrel
    obtain ⟨x0, x1, x2⟩ := idx32 (ue0 x y k) (ue1 x y k) (ue2 x y k) (ue3 x y k) (ue4 x y k) (ue5 x y k) (ue6 x y k) (ue7 x y k) (ue8 x y k) (ue9 x y k) (ue10 x y k) (ue11 x y k) wr
    by_cases h1 : i < 3
    · have h01 : i = 0 ∨ i = 1 ∨ i = 2 := by omega
      rcases h01 with rfl | rfl | rfl
      · have HP : Hid (PP w0 wr base pb ra rk (.slice ad L.length ccap) L (Gi L (x, y, k) 0)) := hP
        have HQ : Hid (TB wr w.heap.size x y k) := hQ
        have hk := HK.out
        clear hP hQ
        go_wp2
        refine wp_named (fun W0 hW0 => ?_)
        have hB0 : Below wr.heap.size wr W0 := by rw [hW0]; exact bl_alloc (bl_refl _)
        have HB0 : Hid (Below wr.heap.size wr W0) := hB0
        have HP0 : Hid (PP w0 W0 base pb ra rk (.slice ad L.length ccap) L (Gi L (x, y, k) 0)) := HP.out.kept hB0
        have c0 : W0.cell? ⟨pb, 0, none⟩ = some (.slice ad L.length ccap) := HP0.out.1.1
        have c1 : W0.cell? ⟨pb, 1, none⟩ = some (.map (some ra)) := HP0.out.1.2.1
        have c2 : W0.cell? ⟨wr.heap.size, 0, none⟩ = some (.int .i64 (ue0 x y k)) := by rw [hW0]; simp [go_sem]
        have c3 : W0.cell? ⟨wr.heap.size, 1, none⟩ = some (.int .i64 (ue1 x y k)) := by rw [hW0]; simp [go_sem]
        have c4 : W0.cell? ⟨wr.heap.size, 2, none⟩ = some (.int .i64 (ue2 x y k)) := by rw [hW0]; simp [go_sem]
        have c5 : W0.cell? ⟨wr.heap.size, 3, none⟩ = some (.int .i64 (ue3 x y k)) := by rw [hW0]; simp [go_sem]
        have z1 : wr.heap.size + 1 = W0.heap.size := by rw [hW0]; simp
        clear hW0 hB0
        obtain ⟨v0, st, W2, hrun, hg2, hz2, hown, htop, hback⟩ := HP.out.entry (w := (W0.alloc (.cells #[.int .i64 (L.length : Int)] 3)).drew) (bl_drew (bl_alloc HB0.out)) (edg (x, y, k) 0) (L.length : Int)
        have hrun' : (Instr.mapEntry 37 (.map (some ra)) (.agg #[.int .i64 (ue0 x y k), .int .i64 (ue1 x y k), .int .i64 (ue2 x y k), .int .i64 (ue3 x y k)])).run Tryd.prog (W0.alloc (.cells #[.int .i64 (L.length : Int)] 3)).drew = .ok (.tuple #[v0, .int .i64 st]) W2 := hrun
        clear hrun
        have a4 := HP.out.2.2.2.2.1
        have hne0 : some pb ≠ some ra := fun e => by
          obtain ⟨ls, c, q, _⟩ := HP.out.2.2.1
          exact HP.out.1.apart q (by simpa using e)
        have hne1 : some wr.heap.size ≠ some ra := fun e => by
          simp at e
          omega
        have m0 : W2.cell? ⟨pb, 0, none⟩ = some (.slice ad L.length ccap) := hg2.cell (w := (W0.alloc (.cells #[.int .i64 (L.length : Int)] 3)).drew) (al_old c0) (by exact hne0)
        have m1 : W2.cell? ⟨pb, 1, none⟩ = some (.map (some ra)) := hg2.cell (w := (W0.alloc (.cells #[.int .i64 (L.length : Int)] 3)).drew) (al_old c1) (by exact hne0)
        have m2 : W2.cell? ⟨wr.heap.size, 0, none⟩ = some (.int .i64 (ue0 x y k)) := hg2.cell (w := (W0.alloc (.cells #[.int .i64 (L.length : Int)] 3)).drew) (al_old c2) (by exact hne1)
        have m3 : W2.cell? ⟨wr.heap.size, 1, none⟩ = some (.int .i64 (ue1 x y k)) := hg2.cell (w := (W0.alloc (.cells #[.int .i64 (L.length : Int)] 3)).drew) (al_old c3) (by exact hne1)
        have m4 : W2.cell? ⟨wr.heap.size, 2, none⟩ = some (.int .i64 (ue2 x y k)) := hg2.cell (w := (W0.alloc (.cells #[.int .i64 (L.length : Int)] 3)).drew) (al_old c4) (by exact hne1)
        have m5 : W2.cell? ⟨wr.heap.size, 3, none⟩ = some (.int .i64 (ue3 x y k)) := hg2.cell (w := (W0.alloc (.cells #[.int .i64 (L.length : Int)] 3)).drew) (al_old c5) (by exact hne1)
        have hnw : W2.cell? ⟨W0.heap.size, 0, none⟩ = some (.int .i64 (L.length : Int)) := hg2.cell (w := (W0.alloc (.cells #[.int .i64 (L.length : Int)] 3)).drew) (by simp [go_sem]) (fun e => by simp at e; omega)
        have hW2 : W2.heap.size = W0.heap.size + 1 := by simpa using hz2
        have HG2 : Hid (base ≤ W2.heap.size ∧ (Gi L (x, y, k) 0 (edg (x, y, k) 0)).length + 1 ≤ 1000) := ⟨by omega, Nat.succ_le_succ (Nat.le_trans (Gi_len L (x, y, k) 0 _) (by omega))⟩
        have HNA : Hid (∀ (W3 : World), W2.grownBy W3 v0.ownBlock → ∀ a v, (a.block = pb ∨ a.block = wr.heap.size) → W2.cell? a = some v → W3.cell? a = some v) := fun W3 hg a v ha hc => hg.cell hc (fun e => by
          have := htop _ e.symm
          rcases ha with ha | ha <;> omega)
        have hneT : some w.heap.size ≠ some ra := by
          obtain ⟨ls, c, q, _⟩ := HP.out.2.2.1
          exact HQ.out.ne_map q
        have HT2 : Hid (TB W2 w.heap.size x y k) := TB.grown (w := (W0.alloc (.cells #[.int .i64 (L.length : Int)] 3)).drew) (HQ.out.grown (bl_grown (bl_drew (bl_alloc HB0.out))) (by simp)) hg2 hneT
        have HOW : Hid (W2.ownsRow base 3 1 v0 (Gi L (x, y, k) 0 (edg (x, y, k) 0)).length ((Gi L (x, y, k) 0 (edg (x, y, k) 0)).map (Value.int .i64))) := hown
        have HBK : Hid (∀ g cap W3, W2.grownBy W3 v0.ownBlock → W3.ownsRow base 3 1 (.slice (some ⟨g, 0, none⟩) ((Gi L (x, y, k) 0 (edg (x, y, k) 0)).length + 1) cap) ((Gi L (x, y, k) 0 (edg (x, y, k) 0)).length + 1) ((Gi L (x, y, k) 0 (edg (x, y, k) 0)).map (Value.int .i64) ++ [.int .i64 (L.length : Int)]) → (v0.ownBlock = some g ∨ g = W2.heap.size) →
          ∃ W4, (Instr.entryStore 37 (.map (some ra)) (.int .i64 st) (.slice (some ⟨g, 0, none⟩) ((Gi L (x, y, k) 0 (edg (x, y, k) 0)).length + 1) cap)).run Tryd.prog W3 = .ok () W4 ∧ W3.grownBy W4 (some ra) ∧ PP w0 W4 base pb ra rk (.slice ad L.length ccap) L (Gi L (x, y, k) (0 + 1))) := fun g cap W3 q1 q2 q3 => by
          obtain ⟨W4, s1, s2, s3⟩ := hback (.slice (some ⟨g, 0, none⟩) ((Gi L (x, y, k) 0 (edg (x, y, k) 0)).length + 1) cap) W3 q1 q2 (q3.imp (fun q => q.symm) (fun q => by rw [q]; rfl))
          exact ⟨W4, s1, s2, Gi_step L hk 0 (by omega) ▸ s3⟩
        clear hown hback htop hg2 hz2 a4 HP0
        obtain ⟨nG, hnG⟩ : ∃ m, m = (Gi L (x, y, k) 0 (edg (x, y, k) 0)).length := ⟨_, rfl⟩
        obtain ⟨xG, hxG⟩ : ∃ m, m = (Gi L (x, y, k) 0 (edg (x, y, k) 0)).map (Value.int .i64) := ⟨_, rfl⟩
        rw [← hnG, ← hxG] at HOW
        rw [← hnG] at HG2
        rw [← hnG, ← hxG] at HBK
        clear hnG hxG
        go_region_held3 (fun w' => w'.cell? ⟨pb, 0, none⟩ = some (.slice ad L.length ccap) ∧ w'.cell? ⟨pb, 1, none⟩ = some (.map (some ra)) ∧ w'.cell? ⟨wr.heap.size, 0, none⟩ = some (.int .i64 (ue0 x y k)) ∧ w'.cell? ⟨wr.heap.size, 1, none⟩ = some (.int .i64 (ue1 x y k)) ∧ w'.cell? ⟨wr.heap.size, 2, none⟩ = some (.int .i64 (ue2 x y k)) ∧ w'.cell? ⟨wr.heap.size, 3, none⟩ = some (.int .i64 (ue3 x y k)))
          ((first | (refine ⟨?_, ?_, ?_, ?_, ?_, ?_⟩ <;> (first | (with_reducible assumption) | (with_reducible refine dr_old ?_; with_reducible assumption) | (with_reducible refine dr_old ?_; with_reducible refine al_old ?_; with_reducible assumption) | (refine HNA.out _ hgrow _ _ ?_ (by with_reducible assumption); simp; done) | (refine hgw4.cell (HNA.out _ hgrow _ _ (by simp; done) (by with_reducible assumption)) (by with_reducible assumption)))))) 
          (((refine step_append_lies _ (by rfl) (.tmp 16) (.tmp 22) 22 (by rfl) base 3 i3 (.int .i64 0) 1 8 Tryd.underlying22 HI.out.1 HI.out.2.1 HI.out.2.2.1 HI.out.2.2.2 rfl (by decide) v0 nG xG (by rfl) HOW.out ⟨W0.heap.size, 0, none⟩ 1 1 [.int .i64 (L.length : Int)] (by rfl) rfl (cell_one _ hnw) (one_cell _) (by decide) (by have := HG2.out.2; unfold maxLen; omega) (by have := HG2.out.2; omega) HG2.out.1 W2.heap.size rfl ?_; intro g cap W3 hown3 hgrow hat hlt; obtain ⟨W4, hst, hgw4, hPP4⟩ := HBK.out g cap W3 hgrow hown3 hat; have HP4 : Hid (PP w0 W4 base pb ra rk (.slice ad L.length ccap) L (Gi L (x, y, k) (0 + 1))) := hPP4; have HT4 : Hid (TB W4 w.heap.size x y k) := (HT2.out.grown hgrow (HT2.out.not_row HOW.out)).grown hgw4 hneT; clear hPP4 hown3 hat)))
        go_wp2
        go_roundg (3 - (0 + 1))
        case measure => omega
        case rel => exact ⟨0 + 1, by omega, rfl, by go_num, HP4.out, HT4.out⟩
      · have HP : Hid (PP w0 wr base pb ra rk (.slice ad L.length ccap) L (Gi L (x, y, k) 1)) := hP
        have HQ : Hid (TB wr w.heap.size x y k) := hQ
        have hk := HK.out
        clear hP hQ
        go_wp2
        refine wp_named (fun W0 hW0 => ?_)
        have hB0 : Below wr.heap.size wr W0 := by rw [hW0]; exact bl_alloc (bl_refl _)
        have HB0 : Hid (Below wr.heap.size wr W0) := hB0
        have HP0 : Hid (PP w0 W0 base pb ra rk (.slice ad L.length ccap) L (Gi L (x, y, k) 1)) := HP.out.kept hB0
        have c0 : W0.cell? ⟨pb, 0, none⟩ = some (.slice ad L.length ccap) := HP0.out.1.1
        have c1 : W0.cell? ⟨pb, 1, none⟩ = some (.map (some ra)) := HP0.out.1.2.1
        have c2 : W0.cell? ⟨wr.heap.size, 0, none⟩ = some (.int .i64 (ue4 x y k)) := by rw [hW0]; simp [go_sem]
        have c3 : W0.cell? ⟨wr.heap.size, 1, none⟩ = some (.int .i64 (ue5 x y k)) := by rw [hW0]; simp [go_sem]
        have c4 : W0.cell? ⟨wr.heap.size, 2, none⟩ = some (.int .i64 (ue6 x y k)) := by rw [hW0]; simp [go_sem]
        have c5 : W0.cell? ⟨wr.heap.size, 3, none⟩ = some (.int .i64 (ue7 x y k)) := by rw [hW0]; simp [go_sem]
        have z1 : wr.heap.size + 1 = W0.heap.size := by rw [hW0]; simp
        clear hW0 hB0
        obtain ⟨v0, st, W2, hrun, hg2, hz2, hown, htop, hback⟩ := HP.out.entry (w := (W0.alloc (.cells #[.int .i64 (L.length : Int)] 3)).drew) (bl_drew (bl_alloc HB0.out)) (edg (x, y, k) 1) (L.length : Int)
        have hrun' : (Instr.mapEntry 37 (.map (some ra)) (.agg #[.int .i64 (ue4 x y k), .int .i64 (ue5 x y k), .int .i64 (ue6 x y k), .int .i64 (ue7 x y k)])).run Tryd.prog (W0.alloc (.cells #[.int .i64 (L.length : Int)] 3)).drew = .ok (.tuple #[v0, .int .i64 st]) W2 := hrun
        clear hrun
        have a4 := HP.out.2.2.2.2.1
        have hne0 : some pb ≠ some ra := fun e => by
          obtain ⟨ls, c, q, _⟩ := HP.out.2.2.1
          exact HP.out.1.apart q (by simpa using e)
        have hne1 : some wr.heap.size ≠ some ra := fun e => by
          simp at e
          omega
        have m0 : W2.cell? ⟨pb, 0, none⟩ = some (.slice ad L.length ccap) := hg2.cell (w := (W0.alloc (.cells #[.int .i64 (L.length : Int)] 3)).drew) (al_old c0) (by exact hne0)
        have m1 : W2.cell? ⟨pb, 1, none⟩ = some (.map (some ra)) := hg2.cell (w := (W0.alloc (.cells #[.int .i64 (L.length : Int)] 3)).drew) (al_old c1) (by exact hne0)
        have m2 : W2.cell? ⟨wr.heap.size, 0, none⟩ = some (.int .i64 (ue4 x y k)) := hg2.cell (w := (W0.alloc (.cells #[.int .i64 (L.length : Int)] 3)).drew) (al_old c2) (by exact hne1)
        have m3 : W2.cell? ⟨wr.heap.size, 1, none⟩ = some (.int .i64 (ue5 x y k)) := hg2.cell (w := (W0.alloc (.cells #[.int .i64 (L.length : Int)] 3)).drew) (al_old c3) (by exact hne1)
        have m4 : W2.cell? ⟨wr.heap.size, 2, none⟩ = some (.int .i64 (ue6 x y k)) := hg2.cell (w := (W0.alloc (.cells #[.int .i64 (L.length : Int)] 3)).drew) (al_old c4) (by exact hne1)
        have m5 : W2.cell? ⟨wr.heap.size, 3, none⟩ = some (.int .i64 (ue7 x y k)) := hg2.cell (w := (W0.alloc (.cells #[.int .i64 (L.length : Int)] 3)).drew) (al_old c5) (by exact hne1)
        have hnw : W2.cell? ⟨W0.heap.size, 0, none⟩ = some (.int .i64 (L.length : Int)) := hg2.cell (w := (W0.alloc (.cells #[.int .i64 (L.length : Int)] 3)).drew) (by simp [go_sem]) (fun e => by simp at e; omega)
        have hW2 : W2.heap.size = W0.heap.size + 1 := by simpa using hz2
        have HG2 : Hid (base ≤ W2.heap.size ∧ (Gi L (x, y, k) 1 (edg (x, y, k) 1)).length + 1 ≤ 1000) := ⟨by omega, Nat.succ_le_succ (Nat.le_trans (Gi_len L (x, y, k) 1 _) (by omega))⟩
        have HNA : Hid (∀ (W3 : World), W2.grownBy W3 v0.ownBlock → ∀ a v, (a.block = pb ∨ a.block = wr.heap.size) → W2.cell? a = some v → W3.cell? a = some v) := fun W3 hg a v ha hc => hg.cell hc (fun e => by
          have := htop _ e.symm
          rcases ha with ha | ha <;> omega)
        have hneT : some w.heap.size ≠ some ra := by
          obtain ⟨ls, c, q, _⟩ := HP.out.2.2.1
          exact HQ.out.ne_map q
        have HT2 : Hid (TB W2 w.heap.size x y k) := TB.grown (w := (W0.alloc (.cells #[.int .i64 (L.length : Int)] 3)).drew) (HQ.out.grown (bl_grown (bl_drew (bl_alloc HB0.out))) (by simp)) hg2 hneT
        have HOW : Hid (W2.ownsRow base 3 1 v0 (Gi L (x, y, k) 1 (edg (x, y, k) 1)).length ((Gi L (x, y, k) 1 (edg (x, y, k) 1)).map (Value.int .i64))) := hown
        have HBK : Hid (∀ g cap W3, W2.grownBy W3 v0.ownBlock → W3.ownsRow base 3 1 (.slice (some ⟨g, 0, none⟩) ((Gi L (x, y, k) 1 (edg (x, y, k) 1)).length + 1) cap) ((Gi L (x, y, k) 1 (edg (x, y, k) 1)).length + 1) ((Gi L (x, y, k) 1 (edg (x, y, k) 1)).map (Value.int .i64) ++ [.int .i64 (L.length : Int)]) → (v0.ownBlock = some g ∨ g = W2.heap.size) →
          ∃ W4, (Instr.entryStore 37 (.map (some ra)) (.int .i64 st) (.slice (some ⟨g, 0, none⟩) ((Gi L (x, y, k) 1 (edg (x, y, k) 1)).length + 1) cap)).run Tryd.prog W3 = .ok () W4 ∧ W3.grownBy W4 (some ra) ∧ PP w0 W4 base pb ra rk (.slice ad L.length ccap) L (Gi L (x, y, k) (1 + 1))) := fun g cap W3 q1 q2 q3 => by
          obtain ⟨W4, s1, s2, s3⟩ := hback (.slice (some ⟨g, 0, none⟩) ((Gi L (x, y, k) 1 (edg (x, y, k) 1)).length + 1) cap) W3 q1 q2 (q3.imp (fun q => q.symm) (fun q => by rw [q]; rfl))
          exact ⟨W4, s1, s2, Gi_step L hk 1 (by omega) ▸ s3⟩
        clear hown hback htop hg2 hz2 a4 HP0
        obtain ⟨nG, hnG⟩ : ∃ m, m = (Gi L (x, y, k) 1 (edg (x, y, k) 1)).length := ⟨_, rfl⟩
        obtain ⟨xG, hxG⟩ : ∃ m, m = (Gi L (x, y, k) 1 (edg (x, y, k) 1)).map (Value.int .i64) := ⟨_, rfl⟩
        rw [← hnG, ← hxG] at HOW
        rw [← hnG] at HG2
        rw [← hnG, ← hxG] at HBK
        clear hnG hxG
        go_region_held3 (fun w' => w'.cell? ⟨pb, 0, none⟩ = some (.slice ad L.length ccap) ∧ w'.cell? ⟨pb, 1, none⟩ = some (.map (some ra)) ∧ w'.cell? ⟨wr.heap.size, 0, none⟩ = some (.int .i64 (ue4 x y k)) ∧ w'.cell? ⟨wr.heap.size, 1, none⟩ = some (.int .i64 (ue5 x y k)) ∧ w'.cell? ⟨wr.heap.size, 2, none⟩ = some (.int .i64 (ue6 x y k)) ∧ w'.cell? ⟨wr.heap.size, 3, none⟩ = some (.int .i64 (ue7 x y k)))
          ((first | (refine ⟨?_, ?_, ?_, ?_, ?_, ?_⟩ <;> (first | (with_reducible assumption) | (with_reducible refine dr_old ?_; with_reducible assumption) | (with_reducible refine dr_old ?_; with_reducible refine al_old ?_; with_reducible assumption) | (refine HNA.out _ hgrow _ _ ?_ (by with_reducible assumption); simp; done) | (refine hgw4.cell (HNA.out _ hgrow _ _ (by simp; done) (by with_reducible assumption)) (by with_reducible assumption)))))) 
          (((refine step_append_lies _ (by rfl) (.tmp 16) (.tmp 22) 22 (by rfl) base 3 i3 (.int .i64 0) 1 8 Tryd.underlying22 HI.out.1 HI.out.2.1 HI.out.2.2.1 HI.out.2.2.2 rfl (by decide) v0 nG xG (by rfl) HOW.out ⟨W0.heap.size, 0, none⟩ 1 1 [.int .i64 (L.length : Int)] (by rfl) rfl (cell_one _ hnw) (one_cell _) (by decide) (by have := HG2.out.2; unfold maxLen; omega) (by have := HG2.out.2; omega) HG2.out.1 W2.heap.size rfl ?_; intro g cap W3 hown3 hgrow hat hlt; obtain ⟨W4, hst, hgw4, hPP4⟩ := HBK.out g cap W3 hgrow hown3 hat; have HP4 : Hid (PP w0 W4 base pb ra rk (.slice ad L.length ccap) L (Gi L (x, y, k) (1 + 1))) := hPP4; have HT4 : Hid (TB W4 w.heap.size x y k) := (HT2.out.grown hgrow (HT2.out.not_row HOW.out)).grown hgw4 hneT; clear hPP4 hown3 hat)))
        go_wp2
        go_roundg (3 - (1 + 1))
        case measure => omega
        case rel => exact ⟨1 + 1, by omega, rfl, by go_num, HP4.out, HT4.out⟩
      · have HP : Hid (PP w0 wr base pb ra rk (.slice ad L.length ccap) L (Gi L (x, y, k) 2)) := hP
        have HQ : Hid (TB wr w.heap.size x y k) := hQ
        have hk := HK.out
        clear hP hQ
        go_wp2
        refine wp_named (fun W0 hW0 => ?_)
        have hB0 : Below wr.heap.size wr W0 := by rw [hW0]; exact bl_alloc (bl_refl _)
        have HB0 : Hid (Below wr.heap.size wr W0) := hB0
        have HP0 : Hid (PP w0 W0 base pb ra rk (.slice ad L.length ccap) L (Gi L (x, y, k) 2)) := HP.out.kept hB0
        have c0 : W0.cell? ⟨pb, 0, none⟩ = some (.slice ad L.length ccap) := HP0.out.1.1
        have c1 : W0.cell? ⟨pb, 1, none⟩ = some (.map (some ra)) := HP0.out.1.2.1
        have c2 : W0.cell? ⟨wr.heap.size, 0, none⟩ = some (.int .i64 (ue8 x y k)) := by rw [hW0]; simp [go_sem]
        have c3 : W0.cell? ⟨wr.heap.size, 1, none⟩ = some (.int .i64 (ue9 x y k)) := by rw [hW0]; simp [go_sem]
        have c4 : W0.cell? ⟨wr.heap.size, 2, none⟩ = some (.int .i64 (ue10 x y k)) := by rw [hW0]; simp [go_sem]
        have c5 : W0.cell? ⟨wr.heap.size, 3, none⟩ = some (.int .i64 (ue11 x y k)) := by rw [hW0]; simp [go_sem]
        have z1 : wr.heap.size + 1 = W0.heap.size := by rw [hW0]; simp
        clear hW0 hB0
        obtain ⟨v0, st, W2, hrun, hg2, hz2, hown, htop, hback⟩ := HP.out.entry (w := (W0.alloc (.cells #[.int .i64 (L.length : Int)] 3)).drew) (bl_drew (bl_alloc HB0.out)) (edg (x, y, k) 2) (L.length : Int)
        have hrun' : (Instr.mapEntry 37 (.map (some ra)) (.agg #[.int .i64 (ue8 x y k), .int .i64 (ue9 x y k), .int .i64 (ue10 x y k), .int .i64 (ue11 x y k)])).run Tryd.prog (W0.alloc (.cells #[.int .i64 (L.length : Int)] 3)).drew = .ok (.tuple #[v0, .int .i64 st]) W2 := hrun
        clear hrun
        have a4 := HP.out.2.2.2.2.1
        have hne0 : some pb ≠ some ra := fun e => by
          obtain ⟨ls, c, q, _⟩ := HP.out.2.2.1
          exact HP.out.1.apart q (by simpa using e)
        have hne1 : some wr.heap.size ≠ some ra := fun e => by
          simp at e
          omega
        have m0 : W2.cell? ⟨pb, 0, none⟩ = some (.slice ad L.length ccap) := hg2.cell (w := (W0.alloc (.cells #[.int .i64 (L.length : Int)] 3)).drew) (al_old c0) (by exact hne0)
        have m1 : W2.cell? ⟨pb, 1, none⟩ = some (.map (some ra)) := hg2.cell (w := (W0.alloc (.cells #[.int .i64 (L.length : Int)] 3)).drew) (al_old c1) (by exact hne0)
        have m2 : W2.cell? ⟨wr.heap.size, 0, none⟩ = some (.int .i64 (ue8 x y k)) := hg2.cell (w := (W0.alloc (.cells #[.int .i64 (L.length : Int)] 3)).drew) (al_old c2) (by exact hne1)
        have m3 : W2.cell? ⟨wr.heap.size, 1, none⟩ = some (.int .i64 (ue9 x y k)) := hg2.cell (w := (W0.alloc (.cells #[.int .i64 (L.length : Int)] 3)).drew) (al_old c3) (by exact hne1)
        have m4 : W2.cell? ⟨wr.heap.size, 2, none⟩ = some (.int .i64 (ue10 x y k)) := hg2.cell (w := (W0.alloc (.cells #[.int .i64 (L.length : Int)] 3)).drew) (al_old c4) (by exact hne1)
        have m5 : W2.cell? ⟨wr.heap.size, 3, none⟩ = some (.int .i64 (ue11 x y k)) := hg2.cell (w := (W0.alloc (.cells #[.int .i64 (L.length : Int)] 3)).drew) (al_old c5) (by exact hne1)
        have hnw : W2.cell? ⟨W0.heap.size, 0, none⟩ = some (.int .i64 (L.length : Int)) := hg2.cell (w := (W0.alloc (.cells #[.int .i64 (L.length : Int)] 3)).drew) (by simp [go_sem]) (fun e => by simp at e; omega)
        have hW2 : W2.heap.size = W0.heap.size + 1 := by simpa using hz2
        have HG2 : Hid (base ≤ W2.heap.size ∧ (Gi L (x, y, k) 2 (edg (x, y, k) 2)).length + 1 ≤ 1000) := ⟨by omega, Nat.succ_le_succ (Nat.le_trans (Gi_len L (x, y, k) 2 _) (by omega))⟩
        have HNA : Hid (∀ (W3 : World), W2.grownBy W3 v0.ownBlock → ∀ a v, (a.block = pb ∨ a.block = wr.heap.size) → W2.cell? a = some v → W3.cell? a = some v) := fun W3 hg a v ha hc => hg.cell hc (fun e => by
          have := htop _ e.symm
          rcases ha with ha | ha <;> omega)
        have hneT : some w.heap.size ≠ some ra := by
          obtain ⟨ls, c, q, _⟩ := HP.out.2.2.1
          exact HQ.out.ne_map q
        have HT2 : Hid (TB W2 w.heap.size x y k) := TB.grown (w := (W0.alloc (.cells #[.int .i64 (L.length : Int)] 3)).drew) (HQ.out.grown (bl_grown (bl_drew (bl_alloc HB0.out))) (by simp)) hg2 hneT
        have HOW : Hid (W2.ownsRow base 3 1 v0 (Gi L (x, y, k) 2 (edg (x, y, k) 2)).length ((Gi L (x, y, k) 2 (edg (x, y, k) 2)).map (Value.int .i64))) := hown
        have HBK : Hid (∀ g cap W3, W2.grownBy W3 v0.ownBlock → W3.ownsRow base 3 1 (.slice (some ⟨g, 0, none⟩) ((Gi L (x, y, k) 2 (edg (x, y, k) 2)).length + 1) cap) ((Gi L (x, y, k) 2 (edg (x, y, k) 2)).length + 1) ((Gi L (x, y, k) 2 (edg (x, y, k) 2)).map (Value.int .i64) ++ [.int .i64 (L.length : Int)]) → (v0.ownBlock = some g ∨ g = W2.heap.size) →
          ∃ W4, (Instr.entryStore 37 (.map (some ra)) (.int .i64 st) (.slice (some ⟨g, 0, none⟩) ((Gi L (x, y, k) 2 (edg (x, y, k) 2)).length + 1) cap)).run Tryd.prog W3 = .ok () W4 ∧ W3.grownBy W4 (some ra) ∧ PP w0 W4 base pb ra rk (.slice ad L.length ccap) L (Gi L (x, y, k) (2 + 1))) := fun g cap W3 q1 q2 q3 => by
          obtain ⟨W4, s1, s2, s3⟩ := hback (.slice (some ⟨g, 0, none⟩) ((Gi L (x, y, k) 2 (edg (x, y, k) 2)).length + 1) cap) W3 q1 q2 (q3.imp (fun q => q.symm) (fun q => by rw [q]; rfl))
          exact ⟨W4, s1, s2, Gi_step L hk 2 (by omega) ▸ s3⟩
        clear hown hback htop hg2 hz2 a4 HP0
        obtain ⟨nG, hnG⟩ : ∃ m, m = (Gi L (x, y, k) 2 (edg (x, y, k) 2)).length := ⟨_, rfl⟩
        obtain ⟨xG, hxG⟩ : ∃ m, m = (Gi L (x, y, k) 2 (edg (x, y, k) 2)).map (Value.int .i64) := ⟨_, rfl⟩
        rw [← hnG, ← hxG] at HOW
        rw [← hnG] at HG2
        rw [← hnG, ← hxG] at HBK
        clear hnG hxG
        go_region_held3 (fun w' => w'.cell? ⟨pb, 0, none⟩ = some (.slice ad L.length ccap) ∧ w'.cell? ⟨pb, 1, none⟩ = some (.map (some ra)) ∧ w'.cell? ⟨wr.heap.size, 0, none⟩ = some (.int .i64 (ue8 x y k)) ∧ w'.cell? ⟨wr.heap.size, 1, none⟩ = some (.int .i64 (ue9 x y k)) ∧ w'.cell? ⟨wr.heap.size, 2, none⟩ = some (.int .i64 (ue10 x y k)) ∧ w'.cell? ⟨wr.heap.size, 3, none⟩ = some (.int .i64 (ue11 x y k)))
          ((first | (refine ⟨?_, ?_, ?_, ?_, ?_, ?_⟩ <;> (first | (with_reducible assumption) | (with_reducible refine dr_old ?_; with_reducible assumption) | (with_reducible refine dr_old ?_; with_reducible refine al_old ?_; with_reducible assumption) | (refine HNA.out _ hgrow _ _ ?_ (by with_reducible assumption); simp; done) | (refine hgw4.cell (HNA.out _ hgrow _ _ (by simp; done) (by with_reducible assumption)) (by with_reducible assumption)))))) 
          (((refine step_append_lies _ (by rfl) (.tmp 16) (.tmp 22) 22 (by rfl) base 3 i3 (.int .i64 0) 1 8 Tryd.underlying22 HI.out.1 HI.out.2.1 HI.out.2.2.1 HI.out.2.2.2 rfl (by decide) v0 nG xG (by rfl) HOW.out ⟨W0.heap.size, 0, none⟩ 1 1 [.int .i64 (L.length : Int)] (by rfl) rfl (cell_one _ hnw) (one_cell _) (by decide) (by have := HG2.out.2; unfold maxLen; omega) (by have := HG2.out.2; omega) HG2.out.1 W2.heap.size rfl ?_; intro g cap W3 hown3 hgrow hat hlt; obtain ⟨W4, hst, hgw4, hPP4⟩ := HBK.out g cap W3 hgrow hown3 hat; have HP4 : Hid (PP w0 W4 base pb ra rk (.slice ad L.length ccap) L (Gi L (x, y, k) (2 + 1))) := hPP4; have HT4 : Hid (TB W4 w.heap.size x y k) := (HT2.out.grown hgrow (HT2.out.not_row HOW.out)).grown hgw4 hneT; clear hPP4 hown3 hat)))
        go_wp2
        go_roundg (3 - (2 + 1))
        case measure => omega
        case rel => exact ⟨2 + 1, by omega, rfl, by go_num, HP4.out, HT4.out⟩
    · obtain rfl : i = 3 := by omega
      rw [Gi_three] at hP
      have HP : Hid (PP w0 wr base pb ra rk (.slice ad L.length ccap) L (gix (L ++ [(x, y, k)]))) := hP
      have p0 := hP.1.1
      have fz := hP.1.2.2.2
      have zp := hP.1.lt
      have zb : Hid (base ≤ wr.heap.size) := hP.2.2.2.2.1.2.2.2.2.2.2.2
      have hrow : Hid (some pb ≠ (Value.slice ad L.length ccap).ownBlock) := fun e => by
        have := (own_lt hP.2.1 pb e.symm).1
        have := hP.2.2.2.2.1.2.1
        omega
      obtain ⟨t0, t1, t2⟩ := hQ.tr
      have zt := hQ.lt
      clear hP hQ x0 x1 x2
      go_wp2
      go_region_law ((refine step_append_lies _ (by rfl) (.tmp 31) (.tmp 33) 28 (by rfl) base 52 i23 (.agg #[.int .i64 0, .int .i64 0, .int .i64 0]) 3 24 Tryd.underlying28 HI23.out.1 HI23.out.2.1 HI23.out.2.2.1 HI23.out.2.2.2 rfl (by decide) (.slice ad L.length ccap) L.length (flatV L) (by rfl) (own_below HP.out.2.1 (by with_reducible (first | exact bl_drew (bl_alloc (bl_refl _)) | exact bl_alloc (bl_drew (bl_refl _))))) ⟨wr.heap.size, 0, none⟩ 1 1 [.int .i64 x, .int .i64 y, .int .i64 k] (by rfl) rfl (cell_three_new wr x y k) (three_cell x y k) (by decide) (by unfold maxLen; omega) (by omega) (Nat.le_trans zb.out (by simp)) (wr.heap.size + 1) (by simp) ?_; intro g cap W3 hown3 hgrow hat hlt; have q0 : W3.cell? ⟨pb, 0, none⟩ = some (.slice ad L.length ccap) := hgrow.cell (by first | exact dr_old (al_old p0) | exact al_old (dr_old p0)) hrow.out; have f0 : W3.frozen? ⟨pb, 0, none⟩ = false := (World.frozen?_of_block (a := ⟨pb, 0, none⟩) (hgrow.block pb (by simp; omega) hrow.out)).trans (by simp [go_sem, fz, zp]); have HPN : Hid (PP w0 (W3.setCell ⟨pb, 0, none⟩ (.slice (some ⟨g, 0, none⟩) (L.length + 1) cap)) base pb ra rk (.slice (some ⟨g, 0, none⟩) (L.length + 1) cap) (L ++ [(x, y, k)]) (gix (L ++ [(x, y, k)]))) := HP.out.pushed (by with_reducible (first | exact bl_drew (bl_alloc (bl_refl _)) | exact bl_alloc (bl_drew (bl_refl _)))) hgrow hown3 (hat.imp id (fun e => e.trans (by simp))); clear hown3 hgrow hat))
      all_goals
        go_wp2
        go_end0
        exact ⟨rfl, _, _, HPN.out⟩
end Go.Proofs.YtehmoacggikfmaaDoor
