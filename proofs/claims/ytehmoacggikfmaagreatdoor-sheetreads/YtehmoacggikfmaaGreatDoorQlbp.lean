/- A part of the proof of sheetReads_holds. -/
import Derived.Test.YtehmoacggikfmaaGreatDoorQlbm
import Derived.Test.YtehmoacggikfmaaGreatDoorQlbn
import Derived.Test.YtehmoacggikfmaaGreatDoorQlbf
import Derived.Shelf.SlSortCmp.Kit1
import Derived.Ground.SlsfProg
import Derived.Shelf.SlSortCmp.WholeK
import Derived.Shelf.SlSortCmp.NoneTotal
import Derived.Test.YtehmoacggikfmaaGreatDoorQlbo
namespace Go.Proofs
open Go.Shelf
def Tryz.sortEdge_ren : Go.Shelf.Ren := ⟨fun | 6 => 53 | 15 => 77 | 14 => 76 | 28 => 97 | 29 => 98 | 20 => 89 | 21 => 90 | 22 => 91 | 23 => 92 | 24 => 93 | 25 => 94 | 26 => 95 | 27 => 96 | 46 => 108 | 47 => 109 | 48 => 110 | 49 => 111 | 50 => 112 | 57 => 118 | n => n, fun | 22 => 69 | 24 => 53 | 25 => 74 | 3 => 3 | 39 => 114 | 0 => 0 | 53 => 134 | 55 => 137 | 4 => 4 | 46 => 142 | 45 => 141 | 50 => 83 | 5 => 5 | 9 => 9 | 66 => 153 | 70 => 157 | 76 => 166 | 77 => 167 | n => n, fun | n => n⟩
theorem Tryz.sortEdge : Go.Proofs.SlLaysF0.n6 Tryz.prog Tryz.sortEdge_ren := {
  mixed := by kernel_rfl
  f6 := ⟨Tryz.f53.name, by decide, Tryz.func53.trans (congrArg some (by kernel_rfl))⟩
  f14 := ⟨Tryz.f76.name, by decide, Tryz.func76.trans (congrArg some (by kernel_rfl))⟩
  f15 := Tryz.func77.trans (congrArg some (by kernel_rfl))
  f20 := ⟨Tryz.f89.name, by decide, Tryz.func89.trans (congrArg some (by kernel_rfl))⟩
  f21 := ⟨Tryz.f90.name, by decide, Tryz.func90.trans (congrArg some (by kernel_rfl))⟩
  f22 := ⟨Tryz.f91.name, by decide, Tryz.func91.trans (congrArg some (by kernel_rfl))⟩
  f23 := ⟨Tryz.f92.name, by decide, Tryz.func92.trans (congrArg some (by kernel_rfl))⟩
  f24 := ⟨Tryz.f93.name, by decide, Tryz.func93.trans (congrArg some (by kernel_rfl))⟩
  f25 := ⟨Tryz.f94.name, by decide, Tryz.func94.trans (congrArg some (by kernel_rfl))⟩
  f26 := ⟨Tryz.f95.name, by decide, Tryz.func95.trans (congrArg some (by kernel_rfl))⟩
  f27 := ⟨Tryz.f96.name, by decide, Tryz.func96.trans (congrArg some (by kernel_rfl))⟩
  f28 := Tryz.func97.trans (congrArg some (by kernel_rfl))
  f29 := Tryz.func98.trans (congrArg some (by kernel_rfl))
  f46 := ⟨Tryz.f108.name, by decide, Tryz.func108.trans (congrArg some (by kernel_rfl))⟩
  f47 := Tryz.func109.trans (congrArg some (by kernel_rfl))
  f48 := Tryz.func110.trans (congrArg some (by kernel_rfl))
  f49 := ⟨Tryz.f111.name, by decide, Tryz.func111.trans (congrArg some (by kernel_rfl))⟩
  f50 := ⟨Tryz.f112.name, by decide, Tryz.func112.trans (congrArg some (by kernel_rfl))⟩
  f57 := ⟨Tryz.f118.name, by decide, Tryz.func118.trans (congrArg some (by kernel_rfl))⟩
  t0 := Tryz.underlying0
  a0 := Tryz.isAgg0
  z0 := Tryz.sizeOf0
  v0 := Tryz.zeroValue0
  t3 := Tryz.underlying3
  a3 := Tryz.isAgg3
  z3 := Tryz.sizeOf3
  v3 := Tryz.zeroValue3
  t4 := Tryz.underlying4
  a4 := Tryz.isAgg4
  z4 := Tryz.sizeOf4
  v4 := Tryz.zeroValue4
  t5 := Tryz.underlying5
  a5 := Tryz.isAgg5
  z5 := Tryz.sizeOf5
  v5 := Tryz.zeroValue5
  t9 := Tryz.underlying9
  a9 := Tryz.isAgg9
  z9 := Tryz.sizeOf9
  v9 := Tryz.zeroValue9
  t22 := Tryz.underlying69
  a22 := Tryz.isAgg69
  z22 := Tryz.sizeOf69
  v22 := Tryz.zeroValue69
  t25 := Tryz.underlying74
  a25 := Tryz.isAgg74
  z25 := Tryz.sizeOf74
  v25 := Tryz.zeroValue74
  t39 := Tryz.underlying114
  a39 := Tryz.isAgg114
  z39 := Tryz.sizeOf114
  v39 := Tryz.zeroValue114
  t45 := Tryz.underlying141
  a45 := Tryz.isAgg141
  z45 := Tryz.sizeOf141
  v45 := Tryz.zeroValue141
  t46 := Tryz.underlying142
  a46 := Tryz.isAgg142
  z46 := Tryz.sizeOf142
  v46 := Tryz.zeroValue142
  t50 := Tryz.underlying83
  a50 := Tryz.isAgg83
  z50 := Tryz.sizeOf83
  v50 := Tryz.zeroValue83
  t53 := Tryz.underlying134
  a53 := Tryz.isAgg134
  z53 := Tryz.sizeOf134
  v53 := Tryz.zeroValue134
  t55 := Tryz.underlying137
  a55 := Tryz.isAgg137
  z55 := Tryz.sizeOf137
  v55 := Tryz.zeroValue137
  t66 := Tryz.underlying153
  a66 := Tryz.isAgg153
  z66 := Tryz.sizeOf153
  v66 := Tryz.zeroValue153
  t70 := Tryz.underlying157
  a70 := Tryz.isAgg157
  z70 := Tryz.sizeOf157
  v70 := Tryz.zeroValue157
  t76 := Tryz.underlying166
  a76 := Tryz.isAgg166
  z76 := Tryz.sizeOf166
  v76 := Tryz.zeroValue166
  t77 := Tryz.underlying167
  a77 := Tryz.isAgg167
  z77 := Tryz.sizeOf167
  v77 := Tryz.zeroValue167 }
end Go.Proofs
namespace Go.Proofs.YtehmoacggikfmaaGreatDoor
open Go.RowKit Go.Shelf Go.Lib
open Go.Sort hiding Below

def GD (w w' : World) : Prop := ∃ q os, w' = grow (w.drewN q) os
theorem gd_refl (w : World) : GD w w := ⟨0, #[], by rw [grow_empty]; rfl⟩
theorem gd_alloc {w v : World} {o : Obj} (h : GD w v) : GD w (v.alloc o) := by
  obtain ⟨q, os, rfl⟩ := h
  exact ⟨q, os ++ #[o], by rw [alloc_eq_grow, grow_grow]⟩
theorem gd_drew {w v : World} (h : GD w v) : GD w v.drew := by
  obtain ⟨q, os, rfl⟩ := h
  exact ⟨q + 1, os, rfl⟩
theorem gd_via {w v u : World} (h : GD w v) (k : GD v u) : GD w u := by
  obtain ⟨q, os, rfl⟩ := h
  obtain ⟨q2, os2, rfl⟩ := k
  refine ⟨q + q2, os ++ os2, ?_⟩
  rw [← grow_grow]
  have e : (grow (w.drewN q) os).drewN q2 = grow (w.drewN (q + q2)) os := by
    simp [grow, World.drewN, Nat.add_assoc]
  rw [e]
theorem gd_below {w v : World} (h : GD w v) : Below w.heap.size w v := by
  obtain ⟨q, os, rfl⟩ := h
  exact ⟨rfl, rfl, rfl, by simp [grow, World.drewN], fun k hk => heap_grow_old (w.drewN q) os hk⟩
set_option maxRecDepth 100000 in
set_option maxHeartbeats 1600000 in
theorem comparePoints_gd (a b p q : Int) (w : World) :
    Calls Tryz.prog 56 #[.agg #[.int .i64 a, .int .i64 b], .agg #[.int .i64 p, .int .i64 q]] w fun e w' => e = .returned (.int .i64 (cmpP a b p q)) ∧ GD w w' := by
  go_enter Tryz.func56, Tryz.ntmps56
  go_wp2
  go_region_held3 (fun w' => w'.cell? ⟨w.heap.size, 0, none⟩ = some (.int .i64 a) ∧ w'.cell? ⟨w.heap.size, 1, none⟩ = some (.int .i64 b) ∧ w'.cell? ⟨w.heap.size + 1, 0, none⟩ = some (.int .i64 p) ∧ w'.cell? ⟨w.heap.size + 1, 1, none⟩ = some (.int .i64 q))
    ((refine ⟨?_, ?_, ?_, ?_⟩ <;> (repeat' (first | (with_reducible assumption) | (dsimp only; omega) | (simp [go_sem]; done) | (with_reducible refine al_old ?_) | (with_reducible refine dr_old ?_)))))
    (first | (go_at_call 78; refine (compare_any _ _ _).mono ?_; rintro e w2 ⟨rfl, rfl⟩) | (go_at_call 55; refine (or2_any (cmp3 a p) (cmp3 b q) _ _ _ (by first | (simp [go_sem]; done) | (simp [go_sem, World.cell?_alloc_past]; done)) (by first | (simp [go_sem]; done) | (simp [go_sem, World.cell?_alloc_past]; done))).mono ?_; rintro e w3 ⟨rfl, rfl⟩))
  all_goals
    go_wp2
    go_ret
    refine ⟨rfl, ?_⟩
    with_reducible repeat' (first | exact gd_refl _ | refine gd_alloc ?_ | refine gd_drew ?_)
set_option maxRecDepth 100000 in
set_option maxHeartbeats 3200000 in
theorem compareEdges_gd (a b c d p q r s : Int) (w : World) :
    Calls Tryz.prog 34 #[.agg #[.int .i64 a, .int .i64 b, .int .i64 c, .int .i64 d], .agg #[.int .i64 p, .int .i64 q, .int .i64 r, .int .i64 s]] w fun e w' => e = .returned (.int .i64 (cmpE a b c d p q r s)) ∧ GD w w' := by
  go_enter Tryz.func34, Tryz.ntmps34
  go_wp2
  go_region_held3 (fun w' => w'.cell? ⟨w.heap.size, 0, none⟩ = some (.int .i64 a) ∧ w'.cell? ⟨w.heap.size, 1, none⟩ = some (.int .i64 b) ∧ w'.cell? ⟨w.heap.size, 2, none⟩ = some (.int .i64 c) ∧ w'.cell? ⟨w.heap.size, 3, none⟩ = some (.int .i64 d) ∧ w'.cell? ⟨w.heap.size + 1, 0, none⟩ = some (.int .i64 p) ∧ w'.cell? ⟨w.heap.size + 1, 1, none⟩ = some (.int .i64 q) ∧ w'.cell? ⟨w.heap.size + 1, 2, none⟩ = some (.int .i64 r) ∧ w'.cell? ⟨w.heap.size + 1, 3, none⟩ = some (.int .i64 s))
    ((refine ⟨?_, ?_, ?_, ?_, ?_, ?_, ?_, ?_⟩ <;> (repeat' (first | (with_reducible assumption) | (dsimp only; omega) | (simp [go_sem]; done) | (with_reducible refine al_old ?_) | (with_reducible refine dr_old ?_)))))
    (first
      | (go_at_call 56; refine (comparePoints_gd _ _ _ _ _).mono ?_; rintro e w8 ⟨rfl, hg⟩; have hb := gd_below hg; have a0_w8 : w8.cell? ⟨w.heap.size, 0, none⟩ = some (.int .i64 a) := cl_kept hb (by first | (with_reducible (repeat (first | assumption | refine dr_old ?_ | refine al_old ?_)); done) | (simp [go_sem]; done)); have a1_w8 : w8.cell? ⟨w.heap.size, 1, none⟩ = some (.int .i64 b) := cl_kept hb (by first | (with_reducible (repeat (first | assumption | refine dr_old ?_ | refine al_old ?_)); done) | (simp [go_sem]; done)); have a2_w8 : w8.cell? ⟨w.heap.size, 2, none⟩ = some (.int .i64 c) := cl_kept hb (by first | (with_reducible (repeat (first | assumption | refine dr_old ?_ | refine al_old ?_)); done) | (simp [go_sem]; done)); have a3_w8 : w8.cell? ⟨w.heap.size, 3, none⟩ = some (.int .i64 d) := cl_kept hb (by first | (with_reducible (repeat (first | assumption | refine dr_old ?_ | refine al_old ?_)); done) | (simp [go_sem]; done)); have e0_w8 : w8.cell? ⟨w.heap.size + 1, 0, none⟩ = some (.int .i64 p) := cl_kept hb (by first | (with_reducible (repeat (first | assumption | refine dr_old ?_ | refine al_old ?_)); done) | (simp [go_sem]; done)); have e1_w8 : w8.cell? ⟨w.heap.size + 1, 1, none⟩ = some (.int .i64 q) := cl_kept hb (by first | (with_reducible (repeat (first | assumption | refine dr_old ?_ | refine al_old ?_)); done) | (simp [go_sem]; done)); have e2_w8 : w8.cell? ⟨w.heap.size + 1, 2, none⟩ = some (.int .i64 r) := cl_kept hb (by first | (with_reducible (repeat (first | assumption | refine dr_old ?_ | refine al_old ?_)); done) | (simp [go_sem]; done)); have e3_w8 : w8.cell? ⟨w.heap.size + 1, 3, none⟩ = some (.int .i64 s) := cl_kept hb (by first | (with_reducible (repeat (first | assumption | refine dr_old ?_ | refine al_old ?_)); done) | (simp [go_sem]; done)); have hq : GD w w8 := (by with_reducible (first | exact gd_via HQ.out hg | exact gd_via (gd_drew HQ.out) hg | exact gd_via (gd_drew (gd_alloc (gd_alloc (gd_refl _)))) hg | exact gd_via (gd_alloc (gd_alloc (gd_refl _))) hg)); have HQ : Hid (GD w w8) := hq; clear hq; clear hb hg)
      | (go_at_call 55; refine (or2_any (cmpP a b p q) (cmpP c d r s) _ _ _ (by first | (simp [go_sem]; done) | (simp [go_sem, World.cell?_alloc_past]; done)) (by first | (simp [go_sem]; done) | (simp [go_sem, World.cell?_alloc_past]; done))).mono ?_; rintro e w3 ⟨rfl, rfl⟩))
  all_goals
    go_wp2
    go_ret
    refine ⟨rfl, ?_⟩
    with_reducible repeat' (first | exact HQ.out | refine gd_alloc ?_ | refine gd_drew ?_)
/-- Edges compared: as a number. -/
def cmpEE (x y : E4) : Int := cmpE x.1 x.2.1 x.2.2.1 x.2.2.2 y.1 y.2.1 y.2.2.1 y.2.2.2
theorem cmpEE_lt (x y : E4) : ltOf cmpEE x y = true ↔ ltE x y = true := by
  unfold ltOf cmpEE
  rw [decide_eq_true_eq, cmpE_less, lessE_ltE]
theorem cmpEE_not (x y : E4) : ltOf cmpEE x y = false ↔ ltE x y = false := by
  rw [← Bool.not_eq_true, cmpEE_lt, Bool.not_eq_true]
theorem swoE : SWO (ltOf cmpEE) := {
  irrefl := fun x => by rw [cmpEE_not]; exact ltE_irr x
  trans := fun x y z h1 h2 => by
    rw [cmpEE_lt] at *
    exact ltE_trans h1 h2
  ntrans := fun x y z h1 h2 => by
    rw [cmpEE_not, ← Bool.not_eq_true, ltE_iff] at *
    omega }
def encE (x : E4) : List Value := [.int .i64 x.1, .int .i64 x.2.1, .int .i64 x.2.2.1, .int .i64 x.2.2.2]
theorem closureE_gd (x y : E4) (W : World) : Calls Tryz.prog 34 #[.agg (encE x).toArray, .agg (encE y).toArray] W fun e w' => e = .returned (.int .i64 (cmpEE x y)) ∧ ∃ q os', w' = grow (W.drewN q) os' := compareEdges_gd _ _ _ _ _ _ _ _ W
theorem flE_enc (l : List E4) : flE l = l.flatMap encE := rfl
theorem flatE_at : ∀ (Bs : List E4) (j : Nat), j < Bs.length * 4 → (Bs.flatMap encE)[j]? = some ((encE (Bs.getD (j / 4) default))[j % 4]!)
  | [], j, h => by simp at h
  | x :: r, j, h => by
    rw [List.flatMap_cons]
    by_cases hj : j < 4
    · rw [List.getElem?_append_left (by simpa [encE] using hj), show j / 4 = 0 by omega, show j % 4 = j by omega]
      have h4 : j = 0 ∨ j = 1 ∨ j = 2 ∨ j = 3 := by omega
      rcases h4 with rfl | rfl | rfl | rfl <;> rfl
    · rw [List.getElem?_append_right (by simp [encE]; omega), show (encE x).length = 4 from rfl]
      have ih := flatE_at r (j - 4) (by simp at h; omega)
      rw [ih, show j / 4 = (j - 4) / 4 + 1 by omega, show j % 4 = (j - 4) % 4 by omega]
      rfl
theorem holdsE {w : World} {base g n c : Nat} {Bs : List E4} (h : w.ownsRow base 53 4 (.slice (some ⟨g, 0, none⟩) n c) n (flE Bs)) (hn : n = Bs.length) : HoldsK encE 4 w g 0 Bs.toArray := by
  subst hn
  intro j hj
  rw [size_flatK] at hj
  simp only [List.size_toArray] at hj
  rw [get_flatK _ _ _ _ (by simpa using hj)]
  refine ⟨?_, ?_⟩
  · have hc := h.cellAt j (by omega)
    rw [Nat.zero_add, hc, flE_enc, flatE_at Bs j hj]
    simp
  · rcases h.2 with ⟨h1, _⟩ | ⟨g', cap, cur, h1, _, h3, _⟩
    · cases h1
    · cases h1
      simp [World.frozen?, h3]
theorem grown_sortedE {w : World} {g m : Nat} {os : Array Obj} (d : Array E4) : w.grownBy (sortWorldK encE 4 w g 0 m d os) (some g) := by
  refine ⟨rfl, rfl, rfl, size_sortWorldK_c _ _ _ _ _ _ _ _, fun k hk hne => ?_⟩
  unfold sortWorldK putRowK
  rw [heap_grow_old _ _ (by simpa using hk)]
  have : g ≠ k := fun e => hne (by rw [e])
  simp [putRow, mapBlock, Sort.ahead, Array.getElem?_modify, this]
theorem sortEdge_any (w : World) (base c8 : Nat) (a8 : Option Addr) (Bs : List E4) (h : w.ownsRow base 53 4 (.slice a8 Bs.length c8) Bs.length (flE Bs)) (hz : Bs.length < 4611686018427387904) :
    Calls Tryz.prog 53 #[.slice a8 Bs.length c8, .func (.func 34) #[] #[]] w fun e w' => e = .returned (.tuple #[]) ∧ ∃ Bs', Bs'.Perm Bs ∧ Bs'.Pairwise (fun x y => ltE y x = false) ∧ ER w' a8 Bs' ∧ w.grownBy w' (Value.slice a8 Bs.length c8).ownBlock := by
  by_cases h0 : Bs = []
  · subst h0
    have hc := AnyF.slices_SortFunc_none Tryz.sortEdge a8 c8 (.func (.func 34) #[] #[]) w
    refine hc.mono ?_
    rintro e w' ⟨rfl, rfl⟩
    exact ⟨rfl, [], List.Perm.refl _, List.Pairwise.nil, fun i hi => by simp at hi, ⟨rfl, rfl, rfl, Nat.le_refl _, fun _ _ _ => rfl⟩⟩
  · have hpos : 0 < Bs.length := List.length_pos_iff.2 h0
    obtain ⟨g, rfl⟩ : ∃ g, a8 = some ⟨g, 0, none⟩ := by
      rcases h.2 with ⟨h1, h2⟩ | ⟨g, cap, cur, h1, _⟩
      · omega
      · cases h1
        exact ⟨g, rfl⟩
    have hH := holdsE h rfl
    have hg : g < w.heap.size := (h.lt g rfl).2
    have hcon := AnyQ.slices_SortFunc Tryz.sortEdge 4 Tryz.isAgg53 Tryz.sizeOf53 encE (fun _ => rfl) (fun x v hv => by simp [encE] at hv; rcases hv with rfl | rfl | rfl | rfl <;> rfl) cmpEE swoE 34 #[] g 0 c8 Bs.toArray w (enters_of Tryz.func34 (by kernel_rfl) rfl) (fun _ _ _ _ x y => closureE_gd x y _) hH hg (by simpa using hz)
    change Calls Tryz.prog 53 _ _ _ at hcon
    rw [List.size_toArray] at hcon
    refine hcon.mono ?_
    rintro e w' ⟨rfl, d', m, os, hp, hs, rfl⟩
    have hsz : d'.size = Bs.length := by simpa using hp.1
    refine ⟨rfl, d'.toList, ?_, ?_, ?_, grown_sortedE d'⟩
    · have h3 := hp.2.2
      have e1 : (d'.extract 0 Bs.length).toList = d'.toList := by
        rw [← hsz]
        simp
      have e2 : (Bs.toArray.extract 0 Bs.length).toList = Bs := by simp
      rw [e1, e2] at h3
      exact h3
    · rw [List.pairwise_iff_getElem]
      intro i j hi hj hij
      have := hs i j (Nat.zero_le _) hij (by simpa [hsz] using hj)
      rw [cmpEE_not] at this
      have hi2 : i < d'.size := by simpa using hi
      have hj2 : j < d'.size := by simpa using hj
      rw [getElem!_pos d' i hi2, getElem!_pos d' j hj2] at this
      simpa using this
    · intro i hi
      have hi2 : i < d'.size := by simpa using hi
      have h9 := holdsK_sortWorldK_c encE 4 w g 0 Bs.toArray d' m os hH hg (by simpa using hsz)
      have key : ∀ c, c < 4 → (sortWorldK encE 4 w g 0 m d' os).cell? ⟨g, i * 4 + c, none⟩ = some ((encE d'.toList[i])[c]!) := fun c hc => by
        have := (h9.cell hi2 hc).1
        rw [Nat.zero_add] at this
        rw [this, getElem!_pos d' i hi2]
        simp
      exact ⟨g, rfl, key 0 (by omega), key 1 (by omega), key 2 (by omega), key 3 (by omega)⟩
end Go.Proofs.YtehmoacggikfmaaGreatDoor
namespace Go.Proofs.YtehmoacggikfmaaGreatDoor
open Go.RowKit Go.ChangeMaps

/-- What SortedFunc hands back. -/
def SrtTo (w w' : World) (ls : EL) (a8 : Option Addr) (es : List E4) : Prop := es.Perm (ls.map fun x => x.1) ∧ es.Pairwise (fun x y => ltE y x = false) ∧ ER w' a8 es ∧ (∀ g, a8 = some ⟨g, 0, none⟩ → w.heap.size ≤ g) ∧ Below w.heap.size w w'
set_option maxRecDepth 100000 in
set_option maxHeartbeats 1600000 in
theorem sortedKeys_any (w : World) (Bm rm c : Nat) (ls : EL) (hG : Good ls c) (hlen : ls.length ≤ 100000) (hd : w.cell? ⟨Bm, 0, none⟩ = some (.map (some rm))) (hm : EM w rm ls c) :
    Calls Tryz.prog 32 #[.func (.func 54) #[] #[.pointer (some ⟨Bm, 0, none⟩)], .func (.func 34) #[] #[]] w fun e w' => ∃ a8 c8 es, e = .returned (.slice a8 es.length c8) ∧ SrtTo w w' ls a8 es := by
  have C1 : Hid (Calls Tryz.prog 52 #[.func (.func 54) #[] #[.pointer (some ⟨Bm, 0, none⟩)]] w fun e w' => ∃ a8 c8 Bs, e = .returned (.slice a8 Bs.length c8) ∧ Bs.Perm (ls.map fun x => x.1) ∧ w'.ownsRow w.heap.size 53 4 (.slice a8 Bs.length c8) Bs.length (flE Bs) ∧ Below w.heap.size w w') := (collect_any Bm rm c ls hG hlen w hd hm).mono (by
    rintro e w' ⟨v, rfl, vis, hp, ho, hb⟩
    have ho2 : w'.ownsRow w.heap.size 53 4 v (vis.map fun x => x.1).length (flE (vis.map fun x => x.1)) := by rw [List.length_map]; exact ho
    obtain ⟨a, cap, rfl, _⟩ := own_edges ho2
    exact ⟨a, cap, _, rfl, hp.map _, ho2, hb⟩)
  have C2 : Hid (∀ (V : World) (a8 : Option Addr) (c8 : Nat) (Bs : List E4), Bs.Perm (ls.map fun x => x.1) → V.ownsRow w.heap.size 53 4 (.slice a8 Bs.length c8) Bs.length (flE Bs) → Below w.heap.size w V → Calls Tryz.prog 53 #[.slice a8 Bs.length c8, .func (.func 34) #[] #[]] V fun e w' => e = .returned (.tuple #[]) ∧ ∃ es, es.length = Bs.length ∧ SrtTo w w' ls a8 es) := fun V a8 c8 Bs hp ho hb => (sortEdge_any V w.heap.size c8 a8 Bs ho (by have := hp.length_eq; rw [List.length_map] at this; omega)).mono (by
    rintro e w' ⟨rfl, es, h1, h2, h3, h4⟩
    refine ⟨rfl, es, h1.length_eq, h1.trans hp, h2, h3, fun g e => ?_, hb.grown h4 hb.size (fun r e => (ho.lt r e).1)⟩
    subst e
    exact (ho.lt g rfl).1)
  clear hG hd hm hlen
  go_enter Tryz.func32, Tryz.ntmps32
  go_wp2_with (first
    | (go_at_call 52; refine C1.out.mono ?_; rintro e w1 ⟨a8, c8, Bs, rfl, h1⟩; have H1 : Hid (Bs.Perm (ls.map fun x => x.1) ∧ w1.ownsRow w.heap.size 53 4 (.slice a8 Bs.length c8) Bs.length (flE Bs) ∧ Below w.heap.size w w1) := h1; clear h1)
    | (go_at_call 53; refine (C2.out _ _ _ _ H1.out.1 H1.out.2.1 H1.out.2.2).mono ?_; rintro e w2 ⟨rfl, es, hl, h2⟩; have H2 : Hid (es.length = Bs.length ∧ SrtTo w w2 ls a8 es) := ⟨hl, h2⟩; clear hl h2))
  go_ret
  exact ⟨a8, c8, es, by rw [H2.out.1]; rfl, H2.out.2⟩
/-- Rising, none twice: rising throughout. -/
theorem srt_strict {es : List E4} (h : es.Pairwise (fun x y => ltE y x = false)) (hn : es.Nodup) : es.Pairwise (fun x y => ltE x y = true) := by
  rw [List.pairwise_iff_getElem] at *
  intro i j hi hj hij
  exact ltE_tri (h i j hi hj hij) (fun e => List.pairwise_iff_getElem.1 hn i j hi hj hij e.symm)
theorem srt_cs {ls : EL} {c : Nat} {cs : List C5} {es : List E4} (hG : Good ls c) (hk : KR ls cs) (hc : CsOk cs) (hp : es.Perm (ls.map fun x => x.1)) (hs : es.Pairwise (fun x y => ltE y x = false)) : es.map (fun e => (e, kdc cs e)) = cs := by
  have hn : es.Nodup := hp.nodup_iff.2 hG.1
  refine srt_ext ?_ hc.1 (fun x => ?_)
  · unfold srtE
    rw [List.pairwise_map]
    exact srt_strict hs hn
  · obtain ⟨e, k⟩ := x
    have hin : e ∈ es ↔ kdc cs e ≠ 0 := by
      rw [hp.mem_iff, List.mem_map]
      constructor
      · rintro ⟨y, hy, rfl⟩
        have h1 := lk_in hG (e := y.1) (v := y.2.1) (st := y.2.2) hy
        rw [hk] at h1
        intro h0
        rw [if_pos h0] at h1
        cases h1
      · intro h0
        have h1 := hk e
        rw [if_neg h0] at h1
        obtain ⟨b, hb⟩ := lk_mem h1
        exact ⟨_, hb, rfl⟩
    simp only [List.mem_map, Prod.mk.injEq]
    constructor
    · rintro ⟨e', he, rfl, rfl⟩
      obtain ⟨x, hx, h2⟩ := (kdc_ne hc.nz hc.1).1 (hin.1 he)
      have h3 : kdc cs e' = x.2 := by rw [← h2]; exact kdc_in hc.1 hx
      rw [h3, ← h2]
      exact hx
    · intro hx
      have h3 := kdc_in hc.1 hx
      exact ⟨e, hin.2 (by rw [h3]; exact hc.nz _ hx), rfl, h3⟩
theorem sub_lenL : ∀ (a b : List E4), a.Nodup → (∀ x ∈ a, x ∈ b) → a.length ≤ b.length
  | [], _, _, _ => by simp
  | x :: r, b, h, hs => by
    rw [List.nodup_cons] at h
    have hx := hs x (by simp)
    have h1 := sub_lenL r (b.erase x) h.2 (fun y hy => by
      have hne : y ≠ x := fun e => h.1 (e ▸ hy)
      exact (List.mem_erase_of_ne hne).2 (hs y (by simp [hy])))
    rw [List.length_erase_of_mem hx] at h1
    have := List.length_pos_of_mem hx
    rw [List.length_cons]
    omega
theorem KM.length {ls : EL} {c : Nat} {cs : List C5} (hG : Good ls c) (hk : KR ls cs) (hc : CsOk cs) : ls.length ≤ cs.length := by
  have h := sub_lenL (ls.map fun x => x.1) (cs.map fun x => x.1) hG.1 (fun e he => by
    obtain ⟨y, hy, rfl⟩ := List.mem_map.1 he
    have h1 := lk_in hG (e := y.1) (v := y.2.1) (st := y.2.2) hy
    rw [hk] at h1
    have h0 : kdc cs y.1 ≠ 0 := fun h0 => by rw [if_pos h0] at h1; cases h1
    obtain ⟨x, hx, h2⟩ := (kdc_ne hc.nz hc.1).1 h0
    exact List.mem_map.2 ⟨x, hx, h2⟩)
  simpa using h
end Go.Proofs.YtehmoacggikfmaaGreatDoor
