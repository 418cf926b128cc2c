/- Stars are compared by their points: what a sort asks of that. Stars sorted. What the gathered stars are, when all points have come and they are sorted. -/
import Derived.Test.YtoedcefbmbfnhabDoorSka
import Derived.Shelf.SlSortCmp.WholeK
import Derived.Shelf.SlSortCmp.NoneTotal
import Derived.Ground.SlsfProg
namespace Go.Proofs.YtoedcefbmbfnhabDoor
open Go.RowKit Go.Shelf Go.Lib
open Go.Sort hiding Below

/-- Draws, and new blocks: nothing else. -/
def GD (w w' : World) : Prop := ∃ q os, w' = grow (w.drewN q) os
theorem gd_refl (w : World) : GD w w := ⟨0, #[], by rw [grow_empty]; rfl⟩
theorem gd_alloc {w v : World} {o : Obj} (h : GD w v) : GD w (v.alloc o) := by
  obtain ⟨q, os, rfl⟩ := h
  exact ⟨q, os ++ #[o], by rw [alloc_eq_grow, grow_grow]⟩
theorem gd_drew {w v : World} (h : GD w v) : GD w v.drew := by
  obtain ⟨q, os, rfl⟩ := h
  exact ⟨q + 1, os, rfl⟩
set_option maxRecDepth 100000 in
set_option maxHeartbeats 1600000 in
theorem comparePoints_gd (a b p q : Int) (w : World) :
    Calls Tryd.prog 65 #[.agg #[.int .i64 a, .int .i64 b], .agg #[.int .i64 p, .int .i64 q]] w fun e w' => e = .returned (.int .i64 (cmpP a b p q)) ∧ GD w w' := by
  go_enter Tryd.func65, Tryd.ntmps65
  go_wp2
  go_region_held3 (fun w' => w'.cell? ⟨w.heap.size, 0, none⟩ = some (.int .i64 a) ∧ w'.cell? ⟨w.heap.size, 1, none⟩ = some (.int .i64 b) ∧ w'.cell? ⟨w.heap.size + 1, 0, none⟩ = some (.int .i64 p) ∧ w'.cell? ⟨w.heap.size + 1, 1, none⟩ = some (.int .i64 q))
    ((refine ⟨?_, ?_, ?_, ?_⟩ <;> (repeat' (first | (with_reducible assumption) | (dsimp only; omega) | (simp [go_sem]; done) | (with_reducible refine al_old ?_) | (with_reducible refine dr_old ?_)))))
    (first | (go_at_call 82; refine (compare_any _ _ _).mono ?_; rintro e w2 ⟨rfl, rfl⟩) | (go_at_call 86; refine (or2_any (cmp3 a p) (cmp3 b q) _ _ _ (by first | (simp [go_sem]; done) | (simp [go_sem, World.cell?_alloc_past]; done)) (by first | (simp [go_sem]; done) | (simp [go_sem, World.cell?_alloc_past]; done))).mono ?_; rintro e w3 ⟨rfl, rfl⟩))
  all_goals
    go_wp2
    go_ret
    refine ⟨rfl, ?_⟩
    with_reducible repeat' (first | exact gd_refl _ | refine gd_alloc ?_ | refine gd_drew ?_)
theorem gd_via {w v u : World} (h : GD w v) (k : GD v u) : GD w u := by
  obtain ⟨q, os, rfl⟩ := h
  obtain ⟨q2, os2, rfl⟩ := k
  refine ⟨q + q2, os ++ os2, ?_⟩
  rw [← grow_grow]
  have e : (grow (w.drewN q) os).drewN q2 = grow (w.drewN (q + q2)) os := by
    simp [grow, World.drewN, Nat.add_assoc]
  rw [e]
/-- A star as it lies: its point, and where its two lists lie. -/
abbrev SB := (Int × Int) × (Option Addr × Nat × Nat) × (Option Addr × Nat × Nat)
def encB (a : SB) : List Value := [.int .i64 a.1.1, .int .i64 a.1.2, .slice a.2.1.1 a.2.1.2.1 a.2.1.2.2, .slice a.2.2.1 a.2.2.2.1 a.2.2.2.2]
def cmpB (x y : SB) : Int := cmpP x.1.1 x.1.2 y.1.1 y.1.2
theorem cmpB_lt (x y : SB) : ltOf cmpB x y = true ↔ ltP x.1 y.1 := by
  unfold ltOf cmpB cmpP or2 cmp3 ltP
  rw [decide_eq_true_eq]
  repeat' split
  all_goals omega
theorem cmpB_not (x y : SB) : ltOf cmpB x y = false ↔ ¬ ltP x.1 y.1 := by
  rw [← cmpB_lt, Bool.not_eq_true]
theorem swoB : SWO (ltOf cmpB) := {
  irrefl := fun x => by rw [cmpB_not]; simp [ltP]
  trans := fun x y z h1 h2 => by
    rw [cmpB_lt] at *
    unfold ltP at *
    omega
  ntrans := fun x y z h1 h2 => by
    rw [cmpB_not] at *
    unfold ltP at *
    omega }
set_option maxRecDepth 100000 in
theorem closure_gd (x y : SB) (W : World) : Calls Tryd.prog 64 #[.agg (encB x).toArray, .agg (encB y).toArray] W fun e w' => e = .returned (.int .i64 (cmpB x y)) ∧ ∃ q os', w' = grow (W.drewN q) os' := by
  have C : Hid (∀ W' : World, Calls Tryd.prog 65 #[.agg #[.int .i64 x.1.1, .int .i64 x.1.2], .agg #[.int .i64 y.1.1, .int .i64 y.1.2]] W' fun e w' => e = .returned (.int .i64 (cmpB x y)) ∧ GD W' w') := fun W' => comparePoints_gd _ _ _ _ W'
  generalize cmpB x y = r at C ⊢
  unfold encB
  go_enter Tryd.func64, Tryd.ntmps64
  go_wp2_with (go_at_call 65; refine (C.out _).mono ?_; rintro e w1 ⟨rfl, hg⟩; have HG : Hid (GD W w1) := gd_via (gd_alloc (gd_alloc (gd_refl _))) hg; clear hg)
  go_ret
  exact ⟨rfl, HG.out⟩
end Go.Proofs.YtoedcefbmbfnhabDoor
namespace Go.Proofs
open Go.Shelf
def Tryd.sortStars_ren : Go.Shelf.Ren := ⟨fun | 6 => 63 | 15 => 85 | 14 => 84 | 28 => 107 | 29 => 108 | 20 => 99 | 21 => 100 | 22 => 101 | 23 => 102 | 24 => 103 | 25 => 104 | 26 => 105 | 27 => 106 | 46 => 119 | 47 => 120 | 48 => 121 | 49 => 122 | 50 => 123 | 57 => 133 | n => n, fun | 22 => 38 | 24 => 45 | 25 => 121 | 3 => 3 | 39 => 143 | 0 => 0 | 53 => 165 | 55 => 167 | 4 => 4 | 46 => 158 | 45 => 157 | 50 => 162 | 5 => 5 | 9 => 9 | 66 => 177 | 70 => 181 | 76 => 189 | 77 => 190 | n => n, fun | n => n⟩
theorem Tryd.sortStars : Go.Proofs.SlLaysF0.n6 Tryd.prog Tryd.sortStars_ren := {
  mixed := by kernel_rfl
  f6 := ⟨Tryd.f63.name, by decide, Tryd.func63.trans (congrArg some (by kernel_rfl))⟩
  f14 := ⟨Tryd.f84.name, by decide, Tryd.func84.trans (congrArg some (by kernel_rfl))⟩
  f15 := Tryd.func85.trans (congrArg some (by kernel_rfl))
  f20 := ⟨Tryd.f99.name, by decide, Tryd.func99.trans (congrArg some (by kernel_rfl))⟩
  f21 := ⟨Tryd.f100.name, by decide, Tryd.func100.trans (congrArg some (by kernel_rfl))⟩
  f22 := ⟨Tryd.f101.name, by decide, Tryd.func101.trans (congrArg some (by kernel_rfl))⟩
  f23 := ⟨Tryd.f102.name, by decide, Tryd.func102.trans (congrArg some (by kernel_rfl))⟩
  f24 := ⟨Tryd.f103.name, by decide, Tryd.func103.trans (congrArg some (by kernel_rfl))⟩
  f25 := ⟨Tryd.f104.name, by decide, Tryd.func104.trans (congrArg some (by kernel_rfl))⟩
  f26 := ⟨Tryd.f105.name, by decide, Tryd.func105.trans (congrArg some (by kernel_rfl))⟩
  f27 := ⟨Tryd.f106.name, by decide, Tryd.func106.trans (congrArg some (by kernel_rfl))⟩
  f28 := Tryd.func107.trans (congrArg some (by kernel_rfl))
  f29 := Tryd.func108.trans (congrArg some (by kernel_rfl))
  f46 := ⟨Tryd.f119.name, by decide, Tryd.func119.trans (congrArg some (by kernel_rfl))⟩
  f47 := Tryd.func120.trans (congrArg some (by kernel_rfl))
  f48 := Tryd.func121.trans (congrArg some (by kernel_rfl))
  f49 := ⟨Tryd.f122.name, by decide, Tryd.func122.trans (congrArg some (by kernel_rfl))⟩
  f50 := ⟨Tryd.f123.name, by decide, Tryd.func123.trans (congrArg some (by kernel_rfl))⟩
  f57 := ⟨Tryd.f133.name, by decide, Tryd.func133.trans (congrArg some (by kernel_rfl))⟩
  t0 := Tryd.underlying0
  a0 := Tryd.isAgg0
  z0 := Tryd.sizeOf0
  v0 := Tryd.zeroValue0
  t3 := Tryd.underlying3
  a3 := Tryd.isAgg3
  z3 := Tryd.sizeOf3
  v3 := Tryd.zeroValue3
  t4 := Tryd.underlying4
  a4 := Tryd.isAgg4
  z4 := Tryd.sizeOf4
  v4 := Tryd.zeroValue4
  t5 := Tryd.underlying5
  a5 := Tryd.isAgg5
  z5 := Tryd.sizeOf5
  v5 := Tryd.zeroValue5
  t9 := Tryd.underlying9
  a9 := Tryd.isAgg9
  z9 := Tryd.sizeOf9
  v9 := Tryd.zeroValue9
  t22 := Tryd.underlying38
  a22 := Tryd.isAgg38
  z22 := Tryd.sizeOf38
  v22 := Tryd.zeroValue38
  t25 := Tryd.underlying121
  a25 := Tryd.isAgg121
  z25 := Tryd.sizeOf121
  v25 := Tryd.zeroValue121
  t39 := Tryd.underlying143
  a39 := Tryd.isAgg143
  z39 := Tryd.sizeOf143
  v39 := Tryd.zeroValue143
  t45 := Tryd.underlying157
  a45 := Tryd.isAgg157
  z45 := Tryd.sizeOf157
  v45 := Tryd.zeroValue157
  t46 := Tryd.underlying158
  a46 := Tryd.isAgg158
  z46 := Tryd.sizeOf158
  v46 := Tryd.zeroValue158
  t50 := Tryd.underlying162
  a50 := Tryd.isAgg162
  z50 := Tryd.sizeOf162
  v50 := Tryd.zeroValue162
  t53 := Tryd.underlying165
  a53 := Tryd.isAgg165
  z53 := Tryd.sizeOf165
  v53 := Tryd.zeroValue165
  t55 := Tryd.underlying167
  a55 := Tryd.isAgg167
  z55 := Tryd.sizeOf167
  v55 := Tryd.zeroValue167
  t66 := Tryd.underlying177
  a66 := Tryd.isAgg177
  z66 := Tryd.sizeOf177
  v66 := Tryd.zeroValue177
  t70 := Tryd.underlying181
  a70 := Tryd.isAgg181
  z70 := Tryd.sizeOf181
  v70 := Tryd.zeroValue181
  t76 := Tryd.underlying189
  a76 := Tryd.isAgg189
  z76 := Tryd.sizeOf189
  v76 := Tryd.zeroValue189
  t77 := Tryd.underlying190
  a77 := Tryd.isAgg190
  z77 := Tryd.sizeOf190
  v77 := Tryd.zeroValue190 }
end Go.Proofs
namespace Go.Proofs.YtoedcefbmbfnhabDoor
open Go.RowKit Go.Shelf Go.Lib
open Go.Sort hiding Below

theorem flat_at : ∀ (Bs : List SB) (j : Nat), j < Bs.length * 4 → (Bs.flatMap encB)[j]? = some ((encB (Bs.getD (j / 4) default))[j % 4]!)
  | [], j, h => by simp at h
  | x :: r, j, h => by
    rw [List.flatMap_cons]
    by_cases hj : j < 4
    · rw [List.getElem?_append_left (by simpa [encB] using hj), show j / 4 = 0 by omega, show j % 4 = j by omega]
      have h4 : j = 0 ∨ j = 1 ∨ j = 2 ∨ j = 3 := by omega
      rcases h4 with rfl | rfl | rfl | rfl <;> rfl
    · rw [List.getElem?_append_right (by simp [encB]; omega), show (encB x).length = 4 from rfl]
      have ih := flat_at r (j - 4) (by simp at h; omega)
      rw [ih, show j / 4 = (j - 4) / 4 + 1 by omega, show j % 4 = (j - 4) % 4 by omega]
      rfl
theorem holdsB {w : World} {base g n c : Nat} {Bs : List SB} (h : w.ownsRow base 45 4 (.slice (some ⟨g, 0, none⟩) n c) n (Bs.flatMap encB)) (hn : n = Bs.length) : HoldsK encB 4 w g 0 Bs.toArray := by
  subst hn
  intro j hj
  rw [size_flatK] at hj
  simp only [List.size_toArray] at hj
  rw [get_flatK _ _ _ _ (by simpa using hj)]
  refine ⟨?_, ?_⟩
  · have hc := h.cellAt j (by omega)
    rw [Nat.zero_add, hc, flat_at Bs j hj]
    simp
  · rcases h.2 with ⟨h1, _⟩ | ⟨g', cap, cur, h1, _, h3, _⟩
    · cases h1
    · cases h1
      simp [World.frozen?, h3]
theorem grown_sorted {w : World} {g m : Nat} {os : Array Obj} (d : Array SB) : w.grownBy (sortWorldK encB 4 w g 0 m d os) (some g) := by
  refine ⟨rfl, rfl, rfl, size_sortWorldK_c _ _ _ _ _ _ _ _, fun k hk hne => ?_⟩
  unfold sortWorldK putRowK
  rw [heap_grow_old _ _ (by simpa using hk)]
  have : g ≠ k := fun e => hne (by rw [e])
  simp [putRow, mapBlock, Sort.ahead, Array.getElem?_modify, this]
/-- Stars in memory. -/
def STR (w : World) (v : Value) (Bs : List SB) : Prop := ∃ a c, v = .slice a Bs.length c ∧ ∀ i (h : i < Bs.length), ∃ g, a = some ⟨g, 0, none⟩ ∧ ∀ c, c < 4 → w.cell? ⟨g, i * 4 + c, none⟩ = some ((encB Bs[i])[c]!)
theorem sortStars_any (w : World) (base c8 : Nat) (a8 : Option Addr) (Bs : List SB) (h : w.ownsRow base 45 4 (.slice a8 Bs.length c8) Bs.length (Bs.flatMap encB)) (hz : Bs.length < 4611686018427387904) :
    Calls Tryd.prog 63 #[.slice a8 Bs.length c8, .func (.func 64) #[] #[]] w fun e w' => e = .returned (.tuple #[]) ∧ ∃ Bs', Bs'.Perm Bs ∧ Bs'.Pairwise (fun x y => ¬ ltP y.1 x.1) ∧ STR w' (.slice a8 Bs.length c8) Bs' ∧ w.grownBy w' (Value.slice a8 Bs.length c8).ownBlock := by
  by_cases h0 : Bs = []
  · subst h0
    have hc := AnyF.slices_SortFunc_none Tryd.sortStars a8 c8 (.func (.func 64) #[] #[]) w
    refine hc.mono ?_
    rintro e w' ⟨rfl, rfl⟩
    exact ⟨rfl, [], List.Perm.refl _, List.Pairwise.nil, ⟨a8, c8, rfl, fun i hi => by simp at hi⟩, ⟨rfl, rfl, rfl, Nat.le_refl _, fun _ _ _ => rfl⟩⟩
  · have hpos : 0 < Bs.length := List.length_pos_iff.2 h0
    obtain ⟨g, rfl⟩ : ∃ g, a8 = some ⟨g, 0, none⟩ := by
      rcases h.2 with ⟨h1, h2⟩ | ⟨g, cap, cur, h1, _⟩
      · omega
      · cases h1
        exact ⟨g, rfl⟩
    have hH := holdsB h rfl
    have hg : g < w.heap.size := (h.lt g rfl).2
    have hcon := AnyQ.slices_SortFunc Tryd.sortStars 4 Tryd.isAgg45 Tryd.sizeOf45 encB (fun _ => rfl) (fun x v hv => by simp [encB] at hv; rcases hv with rfl | rfl | rfl | rfl <;> rfl) cmpB swoB 64 #[] g 0 c8 Bs.toArray w (enters_of Tryd.func64 (by kernel_rfl) rfl) (fun _ _ _ _ x y => closure_gd x y _) hH hg (by simpa using hz)
    change Calls Tryd.prog 63 _ _ _ at hcon
    rw [List.size_toArray] at hcon
    refine hcon.mono ?_
    rintro e w' ⟨rfl, d', m, os, hp, hs, rfl⟩
    have hsz : d'.size = Bs.length := by simpa using hp.1
    refine ⟨rfl, d'.toList, ?_, ?_, ?_, grown_sorted d'⟩
    · have h3 := hp.2.2
      have e1 : (d'.extract 0 Bs.length).toList = d'.toList := by
        rw [← hsz]
        simp
      have e2 : (Bs.toArray.extract 0 Bs.length).toList = Bs := by simp
      rw [e1, e2] at h3
      exact h3
    · rw [List.pairwise_iff_getElem]
      intro i j hi hj hij
      have := hs i j (Nat.zero_le _) hij (by simpa [hsz] using hj)
      rw [cmpB_not] at this
      have hi2 : i < d'.size := by simpa using hi
      have hj2 : j < d'.size := by simpa using hj
      rw [getElem!_pos d' i hi2, getElem!_pos d' j hj2] at this
      simpa using this
    · have e5 : Value.slice (some ⟨g, 0, none⟩) Bs.length c8 = .slice (some ⟨g, 0, none⟩) d'.toList.length c8 := by
        have e6 : d'.toList.length = Bs.length := by simpa using hsz
        rw [e6]
      refine ⟨some ⟨g, 0, none⟩, c8, e5, fun i hi => ⟨g, rfl, fun c hc => ?_⟩⟩
      have hi2 : i < d'.size := by simpa using hi
      have h9 := holdsK_sortWorldK_c encB 4 w g 0 Bs.toArray d' m os hH hg (by simpa using hsz)
      have := (h9.cell hi2 hc).1
      rw [Nat.zero_add] at this
      rw [this, getElem!_pos d' i hi2]
      simp
end Go.Proofs.YtoedcefbmbfnhabDoor
namespace Go.Proofs.YtoedcefbmbfnhabDoor
open Go.RowKit Go.ChangeMaps

def slp : Value → Option Addr × Nat × Nat
  | .slice a n c => (a, n, c)
  | _ => (none, 0, 0)
def toSB (a : SA) : SB := (a.1, slp a.2.1, slp a.2.2)
theorem encB_of {wx : World} {r : Nat} {own : Option Nat} {f : Int × Int → Nat → Int} {a : SA} (h : StarOK wx r own f a) : encB (toSB a) = encS a := by
  obtain ⟨⟨g, o, c, e, _⟩, ⟨g', o', c', e', _⟩⟩ := h
  unfold encB encS toSB
  rw [e, e']
  rfl
theorem flat_of {wx : World} {r : Nat} {own : Option Nat} {f : Int × Int → Nat → Int} : ∀ {A : List SA}, (∀ a ∈ A, StarOK wx r own f a) → (A.map toSB).flatMap encB = A.flatMap encS
  | [], _ => rfl
  | a :: l, h => by
    rw [List.map_cons, List.flatMap_cons, List.flatMap_cons, encB_of (h a (by simp)), flat_of (A := l) (fun b hb => h b (by simp [hb]))]
/-- A star's lists are there. -/
def BOK (w : World) (f : Int × Int → Nat → Int) (b : SB) : Prop := (Row w b.2.1.1 (sdirs (f b.1) 8) ∧ b.2.1.2.1 = (sdirs (f b.1) 8).length) ∧ (Row w b.2.2.1 (skinds (f b.1) 8) ∧ b.2.2.2.1 = (skinds (f b.1) 8).length)
theorem BOK.of {w : World} {r : Nat} {own : Option Nat} {f : Int × Int → Nat → Int} {a : SA} (h : StarOK w r own f a) : BOK w f (toSB a) := by
  obtain ⟨⟨g, o, c, e, hr, _⟩, ⟨g', o', c', e', hr', _⟩⟩ := h
  unfold BOK toSB
  rw [e, e']
  exact ⟨⟨hr, rfl⟩, ⟨hr', rfl⟩⟩
theorem stamp_inj {ls : List ((Int × Int) × Value × Nat)} (h : (ls.map (fun x => x.2.2)).Nodup) : ∀ {a b}, a ∈ ls → b ∈ ls → a.2.2 = b.2.2 → a = b := by
  induction ls with
  | nil => intro a b ha; cases ha
  | cons x l ih =>
    intro a b ha hb e
    rw [List.map_cons, List.nodup_cons] at h
    rcases List.mem_cons.1 ha with e1 | ha2
    · rcases List.mem_cons.1 hb with e2 | hb2
      · rw [e1, e2]
      · exact absurd (List.mem_map.2 ⟨b, hb2, by rw [← e, e1]⟩) h.1
    · rcases List.mem_cons.1 hb with e2 | hb2
      · exact absurd (List.mem_map.2 ⟨a, ha2, by rw [e, e2]⟩) h.1
      · exact ih h.2 ha2 hb2 e
theorem arv_bits {b b' : Nat → Bool} {k k' : Nat → Int} (h : arv b k = arv b' k') : b 0 = b' 0 := by
  unfold arv at h
  simp only [Value.agg.injEq] at h
  have := congrArg (fun a => a[0]?) h
  simpa using this
/-- All have come: the stars are just these. -/
theorem VisOK.all {P : List ((Int × Int) × Nat × Nat)} {f : Int × Int → Nat → Int} {ls vis : List ((Int × Int) × Value × Nat)} {A : List SA} {c : Nat} (h : VisOK P f ls vis A) (hG : Pm.Good ls c) (hl : ∀ pt, (Pm.lk ls pt).getD (arv (fun _ => false) (fun _ => 0)) = arv (bitsOf P pt) (f pt)) (hd : AllCome ls (stamps vis)) (pt : Int × Int) : pt ∈ A.map (fun a => a.1) ↔ gstar P f pt = true := by
  rw [h.2.2, List.mem_map]
  constructor
  · rintro ⟨x, hx, rfl⟩
    exact (List.mem_filter.1 hx).2
  · intro hg
    have hb : bitsOf P pt 0 = true := by
      rw [gstar, Bool.and_eq_true, List.all_eq_true] at hg
      exact hg.2 0 (by simp)
    cases hk : Pm.lk ls pt with
    | none =>
      have := hl pt
      rw [hk] at this
      rw [Option.getD_none] at this
      have := arv_bits this
      rw [hb] at this
      cases this
    | some v =>
      obtain ⟨b, hm⟩ := Pm.lk_mem hk
      have hst := hd _ hm
      obtain ⟨y, hy, e⟩ := List.mem_map.1 hst
      have : y = (pt, v, b) := stamp_inj hG.2.1 (h.1 y hy) hm e
      subst this
      exact ⟨_, List.mem_filter.2 ⟨hy, hg⟩, rfl⟩
/-- What starsOf tells. -/
def StarsR (P : List ((Int × Int) × Nat × Nat)) (f : Int × Int → Nat → Int) (w w' : World) (e : Ending) : Prop := ∃ a c Bs, e = .returned (.slice a (List.length Bs) c) ∧ STR w' (.slice a Bs.length c) Bs ∧ (∀ b ∈ Bs, BOK w' f b) ∧ (Bs.map (fun b => b.1)).Pairwise ltP ∧ (∀ pt, pt ∈ Bs.map (fun b => b.1) ↔ gstar P f pt = true) ∧ Below w.heap.size w w'
theorem StarsR.of {w wr w9 : World} {rm r c c8 : Nat} {a8 : Option Addr} {P : List ((Int × Int) × Nat × Nat)} {f : Int × Int → Nat → Int} {ls vis : List ((Int × Int) × Value × Nat)} {A : List SA} {Bs : List SB} (hS : ST w wr rm r c ls (stamps vis) (.slice a8 A.length c8) f A) (hV : VisOK P f ls vis A) (hG : Pm.Good ls c) (hl : ∀ pt, (Pm.lk ls pt).getD (arv (fun _ => false) (fun _ => 0)) = arv (bitsOf P pt) (f pt)) (hd : AllCome ls (stamps vis))
    (hp : Bs.Perm (A.map toSB)) (hs : Bs.Pairwise (fun x y => ¬ ltP y.1 x.1)) (hst : STR w9 (.slice a8 A.length c8) Bs) (hg : wr.grownBy w9 (Value.slice a8 A.length c8).ownBlock) : StarsR P f w w9 (.returned (.slice a8 A.length c8)) := by
  have hlen : Bs.length = A.length := by rw [hp.length_eq, List.length_map]
  have hkeys : (Bs.map (fun b => b.1)).Perm (A.map (fun a => a.1)) := by
    have := hp.map (fun b : SB => b.1)
    rw [List.map_map] at this
    exact this
  refine ⟨a8, c8, Bs, by rw [hlen], by rw [hlen]; exact hst, fun b hb => ?_, ?_, fun pt => ?_, ?_⟩
  · obtain ⟨a, ha, rfl⟩ := List.mem_map.1 (hp.mem_iff.1 hb)
    exact BOK.of ((hS.ok a ha).grown hg (own' := none) (fun g _ _ hn => hn) (fun g _ _ => by simp))
  · have hnd : (Bs.map (fun b => b.1)).Nodup := hkeys.nodup_iff.2 (hV.keys hG)
    have h1 : Bs.Pairwise (fun x y => x.1 ≠ y.1) := List.pairwise_map.1 hnd
    refine List.pairwise_map.2 ((hs.and h1).imp (fun {x y} hxy => ?_))
    obtain ⟨⟨x0, x1⟩, x2⟩ := x
    obtain ⟨⟨y0, y1⟩, y2⟩ := y
    simp only [ltP, ne_eq, Prod.mk.injEq] at hxy ⊢
    omega
  · rw [hkeys.mem_iff]
    exact hV.all hG hl hd pt
  · exact hS.b.grown hg hS.b.size (fun q hq => by
      have := own_base hS.own q hq
      have := hS.hr
      have := hS.lo
      omega)
end Go.Proofs.YtoedcefbmbfnhabDoor
