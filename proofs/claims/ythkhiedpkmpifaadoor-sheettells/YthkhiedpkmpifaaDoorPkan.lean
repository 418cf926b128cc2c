import Derived.Shelf.Slices.Turned
import Derived.Test.YthkhiedpkmpifaaDoorProg
import Derived.Test.YthkhiedpkmpifaaDoorPkam
import Derived.Test.YthkhiedpkmpifaaDoorPkak
/- Contracts of Go's library, laid at this dump off the shelf. -/
namespace Go.Proofs
open Go.Shelf
def Tryd.lays113_ren : Go.Shelf.Ren := ⟨fun | 113 => 106 | n => n, fun | 28 => 70 | 3 => 3 | 4 => 4 | 9 => 9 | 20 => 20 | 0 => 0 | n => n, fun | n => n⟩
theorem Tryd.lays113 : Go.Proofs.Lays.n113 Tryd.prog Tryd.lays113_ren := {
  mixed := by kernel_rfl
  f113 := Tryd.func106.trans (congrArg some (by kernel_rfl))
  t0 := Tryd.underlying0
  a0 := Tryd.isAgg0
  z0 := Tryd.sizeOf0
  v0 := Tryd.zeroValue0
  t3 := Tryd.underlying3
  a3 := Tryd.isAgg3
  z3 := Tryd.sizeOf3
  v3 := Tryd.zeroValue3
  t4 := Tryd.underlying4
  a4 := Tryd.isAgg4
  z4 := Tryd.sizeOf4
  v4 := Tryd.zeroValue4
  t9 := Tryd.underlying9
  a9 := Tryd.isAgg9
  z9 := Tryd.sizeOf9
  v9 := Tryd.zeroValue9
  t20 := Tryd.underlying20
  a20 := Tryd.isAgg20
  z20 := Tryd.sizeOf20
  v20 := Tryd.zeroValue20
  t28 := Tryd.underlying70
  a28 := Tryd.isAgg70
  z28 := Tryd.sizeOf70
  v28 := Tryd.zeroValue70 }
open Go.Lib in
/-- slices.Max at []int: "Max returns the maximal value in x. It panics if x is empty.": OF A SLICE THAT IS NOT EMPTY IT RETURNS 'Lib.maxOf (the elements)'; the world is as it was. (Of an empty one it panics: no contract here.) (LAID: no walk: one application.) -/
theorem Tryd.slices_Max_int (b off n c : Nat) (zs : List Int) (w : World) (hn : 0 < n) (hz : n ≤ zs.length) (hbig : n ≤ 9223372036854775807) (hc : ∀ j, j < zs.length → w.cell? ⟨b, off + j, none⟩ = some (.int .i64 (zs.getD j 0))) :
    Calls Tryd.prog 106 #[.slice (some ⟨b, off, none⟩) n c] w fun e w' => e = .returned (.int .i64 (Lib.maxOf (zs.take n))) ∧ w' = w := Any.slices_Max_int Tryd.lays113 b off n c zs w hn hz hbig hc
end Go.Proofs

/- The parts of a paper, and whether it is in one piece. -/
namespace Go.Proofs.YthkhiedpkmpifaaDoor
open Go.RowKit Go.ChangeMaps

/-- The parts: each triangle has a number; neighbours have one number; who has one number is joined; numbers come up in order. -/
def PartsOk (cr : Int × Int × Int × Int → Bool) (L : List (Int × Int × Int)) (part : Nat → Int) : Prop :=
  (∀ a, a < L.length → 0 ≤ part a) ∧ (∀ a b (ha : a < L.length) (hb : b < L.length), AdjC cr L[a] L[b] → part b = part a) ∧
  (∀ a b (ha : a < L.length) (hb : b < L.length), part a = part b → ReachC cr L L[a] L[b]) ∧ (∀ a, a < L.length → ∀ c, 0 ≤ c → c < part a → ∃ b, b < a ∧ part b = c)
/-- .. those of the first i triangles, and all that these come to. -/
def PInv (cr : Int × Int × Int × Int → Bool) (L : List (Int × Int × Int)) (part : Nat → Int) (i c : Nat) : Prop :=
  (∀ a, a < L.length → a < i → 0 ≤ part a) ∧ (∀ a b (ha : a < L.length) (hb : b < L.length), AdjC cr L[a] L[b] → 0 ≤ part a → part b = part a) ∧
  (∀ a b (ha : a < L.length) (hb : b < L.length), 0 ≤ part a → part a = part b → ReachC cr L L[a] L[b]) ∧ (∀ a, a < L.length → part a < c) ∧ (∀ a, a < L.length → ∀ d, 0 ≤ d → d < part a → ∃ b, b < a ∧ part b = d) ∧ (∀ d : Int, 0 ≤ d → d < c → ∃ b, b < i ∧ part b = d)
theorem pinv_start (cr : Int × Int × Int × Int → Bool) (L : List (Int × Int × Int)) : PInv cr L (fun _ => -1) 0 0 :=
  ⟨fun a _ h => by omega, fun a b _ _ _ h => by simp at h, fun a b _ _ h => by simp at h, fun a _ => by simp, fun a _ d h1 h2 => by simp at h2; omega, fun d h1 h2 => by simp at h2; omega⟩
theorem PInv.skip {cr : Int × Int × Int × Int → Bool} {L : List (Int × Int × Int)} {part : Nat → Int} {i c : Nat} (h : PInv cr L part i c) (hp : 0 ≤ part i) : PInv cr L part (i + 1) c := by
  obtain ⟨h1, h2, h3, h4, h5, h6⟩ := h
  refine ⟨fun a ha hi => ?_, h2, h3, h4, h5, fun d hd hc => ?_⟩
  · by_cases e : a = i
    · rw [e]
      exact hp
    · exact h1 a ha (by omega)
  · obtain ⟨b, hb, he⟩ := h6 d hd hc
    exact ⟨b, by omega, he⟩
theorem PInv.done {cr : Int × Int × Int × Int → Bool} {L : List (Int × Int × Int)} {part : Nat → Int} {c : Nat} (h : PInv cr L part L.length c) : PartsOk cr L part := by
  obtain ⟨h1, h2, h3, h4, h5, h6⟩ := h
  exact ⟨fun a ha => h1 a ha ha, fun a b ha hb hab => h2 a b ha hb hab (h1 a ha ha), fun a b ha hb e => h3 a b ha hb (h1 a ha ha) e, h5⟩
theorem PInv.next {cr : Int × Int × Int × Int → Bool} {L : List (Int × Int × Int)} {part : Nat → Int} {i c : Nat} {R : List Nat} (h : PInv cr L part i c) (_hk : ∀ t ∈ L, Kd t) (_hnd : L.Nodup) (_hi : i < L.length) (_hp : part i < 0) (hS : Sp cr L part i R) (hD : ∀ a ∈ R, ∀ ha : a < L.length, DoneT cr L part R L[a] 3) : PInv cr L (lab part (c : Int) R) (i + 1) (c + 1) := by
  obtain ⟨h1, h2, h3, h4, h5, h6⟩ := h
  have hin : ∀ a, a ∈ R → lab part (c : Int) R a = c := fun a ha => by simp [lab, ha]
  have hout : ∀ a, a ∉ R → lab part (c : Int) R a = part a := fun a ha => by simp [lab, ha]
  have hlt : ∀ a, a ∈ R → ∃ ha : a < L.length, part a < 0 ∧ i ≤ a := fun a ha => by
    obtain ⟨q1, q2, _⟩ := hS.2.2 a ha
    refine ⟨q1, q2, ?_⟩
    rcases Nat.lt_or_ge a i with q | q
    · have := h1 a q1 q
      omega
    · exact q
  have hcl : ∀ a b (ha : a < L.length) (hb : b < L.length), AdjC cr L[a] L[b] → a ∈ R → b ∈ R := fun a b ha hb hab haR => by
    obtain ⟨hne, e, e1, e2, e3⟩ := hab
    obtain ⟨k, hk3, hke⟩ := hasT_edg e1
    have hd := hD a haR ha k hk3 (by rw [hke]; exact e3) b hb (by rw [hke]; exact e2)
    rcases hd with hd | hd
    · exact hd
    · have q1 := h2 b a hb ha (AdjC.symm ⟨hne, e, e1, e2, e3⟩) hd
      obtain ⟨_, q2, _⟩ := hlt a haR
      omega
  refine ⟨fun a ha hai => ?_, fun a b ha hb hab hpa => ?_, fun a b ha hb hpa he => ?_, fun a ha => ?_, fun a ha d hd hda => ?_, fun d hd hdc => ?_⟩
  · by_cases haR : a ∈ R
    · rw [hin a haR]
      omega
    · rw [hout a haR]
      by_cases e : a = i
      · exact absurd (e ▸ hS.1) haR
      · exact h1 a ha (by omega)
  · by_cases haR : a ∈ R
    · rw [hin a haR, hin b (hcl a b ha hb hab haR)]
    · rw [hout a haR] at hpa ⊢
      have hbR : b ∉ R := fun q => haR (hcl b a hb ha hab.symm q)
      rw [hout b hbR]
      exact h2 a b ha hb hab hpa
  · by_cases haR : a ∈ R
    · by_cases hbR : b ∈ R
      · obtain ⟨_, _, _, r1⟩ := hS.2.2 a haR
        obtain ⟨_, _, _, r2⟩ := hS.2.2 b hbR
        exact r1.symm.trans r2
      · rw [hin a haR, hout b hbR] at he
        have := h4 b hb
        omega
    · by_cases hbR : b ∈ R
      · rw [hout a haR, hin b hbR] at he
        have := h4 a ha
        omega
      · rw [hout a haR, hout b hbR] at he
        rw [hout a haR] at hpa
        exact h3 a b ha hb hpa he
  · by_cases haR : a ∈ R
    · rw [hin a haR]
      omega
    · rw [hout a haR]
      have := h4 a ha
      omega
  · by_cases haR : a ∈ R
    · rw [hin a haR] at hda
      obtain ⟨b, hb, hbe⟩ := h6 d hd hda
      obtain ⟨_, _, hia⟩ := hlt a haR
      refine ⟨b, by omega, ?_⟩
      rw [hout b (fun q => by obtain ⟨_, q2, _⟩ := hlt b q; omega)]
      exact hbe
    · rw [hout a haR] at hda
      obtain ⟨b, hb, hbe⟩ := h5 a ha d hd hda
      refine ⟨b, hb, ?_⟩
      rw [hout b (fun q => by obtain ⟨_, q2, _⟩ := hlt b q; omega)]
      exact hbe
  · by_cases e : d = c
    · exact ⟨i, by omega, by rw [hin i hS.1, e]⟩
    · obtain ⟨b, hb, hbe⟩ := h6 d hd (by omega)
      refine ⟨b, by omega, ?_⟩
      rw [hout b (fun q => by obtain ⟨_, q2, _⟩ := hlt b q; omega)]
      exact hbe

theorem rp_zrow {w : World} {g n : Nat} {z : Int} (h : w.heap[g]? = some (.cells (rp z n n).toArray 3 (0, 0))) : ZRow w g n (fun _ => z) := fun i hi => by
  have e : rp z n n = List.replicate n (Value.int .i64 z) := by simp [rp]
  rw [e] at h
  refine ⟨?_, ?_⟩
  · simp [World.cell?, h, hi]
  · simp [World.frozen?, h]

theorem joined1_any (a b c d : Int) (w : World) : Calls Tryd.prog 105 #[.agg #[.int .i64 a, .int .i64 b, .int .i64 c, .int .i64 d]] w fun e w' => e = .returned (.bool true) ∧ Below w.heap.size w w' := by
  go_enter Tryd.func105, Tryd.ntmps105
  go_wp2
  go_ret
  exact ⟨rfl, bl_alloc (bl_refl _)⟩
set_option maxRecDepth 100000 in
set_option maxHeartbeats 3200000 in
theorem parts_all (w : World) (cc ra rk : Nat) (ad : Option Addr) (L : List (Int × Int × Int)) (cr : Int × Int × Int × Int → Bool) (hs : Steps w) (hPA : PA w ad ra L) (hL : L.length ≤ 300) (hnd : L.Nodup) (hbd : ∀ t ∈ L, (0 ≤ t.1 ∧ t.1 ≤ 8) ∧ (0 ≤ t.2.1 ∧ t.2.1 ≤ 8) ∧ (0 ≤ t.2.2 ∧ t.2.2 ≤ 3))
    (hCL : ∀ (q0 q1 q2 q3 : Int) (W' : World), Below w.heap.size w W' → Calls Tryd.prog 105 #[.agg #[.int .i64 q0, .int .i64 q1, .int .i64 q2, .int .i64 q3]] W' fun e w' => e = .returned (.bool (cr (q0, q1, q2, q3))) ∧ Below W'.heap.size W' w') :
    Calls Tryd.prog 104 #[.agg #[.slice ad L.length cc, .map (some ra), .map (some rk)], .func (.func 105) #[] #[]] w fun e w' => ∃ g part, e = .returned (.slice (some ⟨g, 0, none⟩) L.length L.length) ∧ ZRow w' g L.length part ∧ PartsOk cr L part ∧ w.heap.size ≤ g ∧ Below w.heap.size w w' := by
  have hbE : Below w.heap.size w ((w.alloc (.cells #[.slice ad L.length cc, .map (some ra), .map (some rk)] 106)).alloc (.cells #[.int .i64 (-1)] 3)) := bl_alloc (bl_alloc (bl_refl _))
  have CSP : Hid (∀ (g f : Nat) (part : Nat → Int) (num : Int) (wx : World), Below ((w.alloc (.cells #[.slice ad L.length cc, .map (some ra), .map (some rk)] 106)).alloc (.cells #[.int .i64 (-1)] 3)).heap.size ((w.alloc (.cells #[.slice ad L.length cc, .map (some ra), .map (some rk)] 106)).alloc (.cells #[.int .i64 (-1)] 3)) wx → ((w.alloc (.cells #[.slice ad L.length cc, .map (some ra), .map (some rk)] 106)).alloc (.cells #[.int .i64 (-1)] 3)).heap.size ≤ g → ZRow wx g L.length part → f < L.length → part f < 0 → (0 ≤ num ∧ num ≤ 1000) → Calls Tryd.prog 115 #[.agg #[.slice ad L.length cc, .map (some ra), .map (some rk)], .slice (some ⟨g, 0, none⟩) L.length L.length, .int .i64 (f : Int), .int .i64 num, .func (.func 105) #[] #[]] wx fun e w' => e = .returned (.tuple #[]) ∧ ∃ R, Sp cr L part f R ∧ ZRow w' g L.length (lab part num R) ∧ (∀ i ∈ R, ∀ h : i < L.length, DoneT cr L part R L[i] 3) ∧ Below ((w.alloc (.cells #[.slice ad L.length cc, .map (some ra), .map (some rk)] 106)).alloc (.cells #[.int .i64 (-1)] 3)).heap.size ((w.alloc (.cells #[.slice ad L.length cc, .map (some ra), .map (some rk)] 106)).alloc (.cells #[.int .i64 (-1)] 3)) w') := fun g f part num wx h1 h2 h3 h4 h5 h6 =>
    spread_all ((w.alloc (.cells #[.slice ad L.length cc, .map (some ra), .map (some rk)] 106)).alloc (.cells #[.int .i64 (-1)] 3)) wx g cc ra rk f ad L part num cr (hs.kept hbE) (hPA.kept hbE) h1 h2 h3 h4 h5 h6 hL hnd hbd (fun q0 q1 q2 q3 W' hW' => hCL q0 q1 q2 q3 W' (bl_via hbE hW'))
  have HPB : Hid (∀ t ∈ L, Kd t) := fun t ht => (hbd t ht).2.2
  have HND : Hid (L.Nodup) := hnd
  clear hs hPA hbE hnd hbd hCL
  go_enter Tryd.func104, Tryd.ntmps104
  go_wp2_with (go_at_call 114; refine (repeat_any (-1) (w.heap.size + 1) L.length _ (by omega) (by simp [go_sem])).mono ?_; rintro e w1 ⟨rfl, hrow, hb⟩; have HW1 : Hid (ZRow w1 ((w.alloc (.cells #[.slice ad L.length cc, .map (some ra), .map (some rk)] 106)).alloc (.cells #[.int .i64 (-1)] 3)).heap.size L.length (fun _ => -1) ∧ Below ((w.alloc (.cells #[.slice ad L.length cc, .map (some ra), .map (some rk)] 106)).alloc (.cells #[.int .i64 (-1)] 3)).heap.size ((w.alloc (.cells #[.slice ad L.length cc, .map (some ra), .map (some rk)] 106)).alloc (.cells #[.int .i64 (-1)] 3)) w1) := ⟨rp_zrow hrow, hb⟩; have p0 : w1.cell? ⟨w.heap.size, 0, none⟩ = some (.slice ad L.length cc) := cl_kept hb (by simp [go_sem]); clear hrow hb)
  obtain ⟨WE, hWE⟩ : ∃ W, W = ((w.alloc (.cells #[.slice ad L.length cc, .map (some ra), .map (some rk)] 106)).alloc (.cells #[.int .i64 (-1)] 3)) := ⟨_, rfl⟩
  have q0 : WE.cell? ⟨w.heap.size, 0, none⟩ = some (.slice ad L.length cc) := by rw [hWE]; simp [go_sem]
  have q1 : WE.cell? ⟨w.heap.size, 1, none⟩ = some (.map (some ra)) := by rw [hWE]; simp [go_sem]
  have q2 : WE.cell? ⟨w.heap.size, 2, none⟩ = some (.map (some rk)) := by rw [hWE]; simp [go_sem]
  have hz : WE.heap.size = w.heap.size + 2 := by rw [hWE]; simp
  have HBW : Hid (Below w.heap.size w WE) := by rw [hWE]; exact bl_alloc (bl_alloc (bl_refl _))
  rw [← hWE] at CSP HW1
  have HQ : Hid (WE.cell? ⟨w.heap.size, 0, none⟩ = some (.slice ad L.length cc) ∧ WE.cell? ⟨w.heap.size, 1, none⟩ = some (.map (some ra)) ∧ WE.cell? ⟨w.heap.size, 2, none⟩ = some (.map (some rk))) := ⟨q0, q1, q2⟩
  obtain ⟨g, hg⟩ : ∃ g, g = w.heap.size + 1 + 1 := ⟨_, rfl⟩
  rw [show WE.heap.size = g by omega] at HW1
  have HG : Hid (g = w.heap.size + 1 + 1 ∧ WE.heap.size = g) := ⟨hg, by omega⟩
  rw [← hg]
  clear hWE q0 q1 q2 hg hz
  go_wp2
  go_loopg [6, 16] L.length (fun gk s6 s16 wx => ∃ (i : Nat) (c : Nat) (part : Nat → Int), i ≤ L.length ∧ gk = L.length - i ∧ s16 = .int .i64 (i : Int) ∧ s6 = .int .i64 (c : Int) ∧ c ≤ i ∧ PInv cr L part i c ∧ ZRow wx g L.length part ∧ Below WE.heap.size WE wx)
  case atStart => exact ⟨0, 0, _, by omega, rfl, rfl, rfl, by omega, pinv_start _ _, HW1.out.1, by rw [HG.out.2]; exact HW1.out.2⟩
  case round =>
    clear HW1 p0
    obtain ⟨i, c, part, hi, rfl, rfl, rfl, hci, hI, hZ, hB⟩ := hrel
    have HI : Hid (PInv cr L part i c ∧ ZRow wr g L.length part ∧ Below WE.heap.size WE wr) := ⟨hI, hZ, hB⟩
    clear hI hZ hB
    have p0 : wr.cell? ⟨w.heap.size, 0, none⟩ = some (.slice ad L.length cc) := cl_kept HI.out.2.2 HQ.out.1
    have p1 : wr.cell? ⟨w.heap.size, 1, none⟩ = some (.map (some ra)) := cl_kept HI.out.2.2 HQ.out.2.1
    have p2 : wr.cell? ⟨w.heap.size, 2, none⟩ = some (.map (some rk)) := cl_kept HI.out.2.2 HQ.out.2.2
    by_cases h1 : i < L.length
    · have i1 : (i : Int) < (L.length : Int) := by omega
      have i0 : (0 : Int) ≤ (i : Int) := by omega
      obtain ⟨zc, _⟩ := HI.out.2.1 i h1
      obtain ⟨lv, hlv⟩ : ∃ lv, lv = part i := ⟨_, rfl⟩
      rw [← hlv] at zc
      have HLV : Hid (lv = part i) := hlv
      clear hlv
      by_cases hneg : lv < 0
      · go_wp2_with (go_at_call 115; refine (CSP.out g i part (c : Int) _ HI.out.2.2 (by rw [HG.out.2]; exact Nat.le_refl _) HI.out.2.1 h1 (by rw [← HLV.out]; exact hneg) (by omega)).mono ?_; rintro e w2 ⟨rfl, R, hSp, hZ2, hD, hb2⟩; have HN : Hid (PInv cr L (lab part (c : Int) R) (i + 1) (c + 1) ∧ ZRow w2 g L.length (lab part (c : Int) R) ∧ Below WE.heap.size WE w2) := ⟨HI.out.1.next HPB.out HND.out h1 (by rw [← HLV.out]; exact hneg) hSp hD, hZ2, hb2⟩; clear hSp hZ2 hD hb2)
        go_roundg (L.length - (i + 1))
        case measure => omega
        case rel => exact ⟨i + 1, c + 1, _, by omega, rfl, by go_num, by go_num, by omega, HN.out⟩
      · go_wp2
        go_roundg (L.length - (i + 1))
        case measure => omega
        case rel => exact ⟨i + 1, c, part, by omega, rfl, by go_num, rfl, by omega, HI.out.1.skip (by rw [← HLV.out]; omega), HI.out.2⟩
    · have i1 : ¬ (i : Int) < (L.length : Int) := by omega
      obtain rfl : i = L.length := by omega
      go_wp2
      go_ret
      exact ⟨g, rfl, part, HI.out.2.1, HI.out.1.done, by have := HG.out.1; omega, bl_via HBW.out HI.out.2.2⟩

theorem max_zero : ∀ (l : List Int) (a : Int), (∀ x ∈ l, 0 ≤ x) → 0 ≤ a → (l.foldl max a = 0 ↔ a = 0 ∧ ∀ x ∈ l, x = 0)
  | [], a, _, _ => by simp
  | x :: r, a, h, ha => by
    have hx := h x (by simp)
    have ih := max_zero r (max a x) (fun y hy => h y (by simp [hy])) (by omega)
    rw [List.foldl_cons, ih]
    constructor
    · rintro ⟨h1, h2⟩
      refine ⟨by omega, fun y hy => ?_⟩
      rcases List.mem_cons.1 hy with rfl | hy
      · omega
      · exact h2 y hy
    · rintro ⟨h1, h2⟩
      refine ⟨?_, fun y hy => h2 y (by simp [hy])⟩
      have := h2 x (by simp)
      omega
theorem maxOf_zero {l : List Int} (hl : l ≠ []) (h : ∀ x ∈ l, 0 ≤ x) : Lib.maxOf l = 0 ↔ ∀ x ∈ l, x = 0 := by
  cases l with
  | nil => exact absurd rfl hl
  | cons a r =>
    unfold Lib.maxOf
    rw [List.headD_cons, max_zero _ _ h (h a (by simp))]
    exact ⟨fun q => q.2, fun q => ⟨q a (by simp), q⟩⟩
/-- All parts are one just where all triangles are joined. -/
theorem parts_joined {L : List (Int × Int × Int)} {part : Nat → Int} (h : PartsOk (fun _ => true) L part) (hnd : L.Nodup) (h0 : 0 < L.length) : (∀ a, a < L.length → part a = 0) ↔ Joined L := by
  obtain ⟨h1, h2, h3, h4⟩ := h
  have hz : part 0 = 0 := by
    rcases Int.lt_or_le 0 (part 0) with q | q
    · obtain ⟨b, hb, _⟩ := h4 0 h0 0 (Int.le_refl _) q
      omega
    · have := h1 0 h0
      omega
  exact reached_joined h0 (fun a => part a = 0) hz (fun a ha q => reach_all.1 (h3 0 a h0 ha (by rw [hz, q]))) (fun a b ha hb q hab => by
    have := h2 a b ha hb ⟨hab.1, hab.2.imp fun _ he => ⟨he.1, he.2, rfl⟩⟩
    omega) hnd

set_option maxRecDepth 100000 in
set_option maxHeartbeats 3200000 in
theorem joined_any (w : World) (cc ra rk : Nat) (ad : Option Addr) (L : List (Int × Int × Int)) (hs : Steps w) (hPA : PA w ad ra L) (hL : L.length ≤ 300) (hnd : L.Nodup) (hbd : ∀ t ∈ L, (0 ≤ t.1 ∧ t.1 ≤ 8) ∧ (0 ≤ t.2.1 ∧ t.2.1 ≤ 8) ∧ (0 ≤ t.2.2 ∧ t.2.2 ≤ 3)) :
    Calls Tryd.prog 95 #[.agg #[.slice ad L.length cc, .map (some ra), .map (some rk)]] w fun e w' => ∃ bb : Bool, e = .returned (.bool bb) ∧ (bb = true ↔ Joined L) ∧ Below w.heap.size w w' := by
  have CP : Hid (∀ wx : World, Below w.heap.size w wx → Calls Tryd.prog 104 #[.agg #[.slice ad L.length cc, .map (some ra), .map (some rk)], .func (.func 105) #[] #[]] wx fun e w' => ∃ g part, e = .returned (.slice (some ⟨g, 0, none⟩) L.length L.length) ∧ ZRow w' g L.length part ∧ PartsOk (fun _ => true) L part ∧ wx.heap.size ≤ g ∧ Below wx.heap.size wx w') := fun wx hb => parts_all wx cc ra rk ad L (fun _ => true) (hs.kept hb) (hPA.kept hb) hL hnd hbd (fun q0 q1 q2 q3 W' _ => joined1_any q0 q1 q2 q3 W')
  have HND : Hid (L.Nodup) := hnd
  clear hs hPA hnd hbd
  by_cases h0 : 0 < L.length
  · have i0 : (0 : Int) < (L.length : Int) := by omega
    go_enter Tryd.func95, Tryd.ntmps95
    go_wp2_with (first
      | (go_at_call 104; refine (CP.out _ (by with_reducible exact bl_alloc (bl_refl _))).mono ?_; rintro e w1 ⟨g, part, rfl, hZ, hP, hg, hb⟩; have HW : Hid (ZRow w1 g L.length part ∧ PartsOk (fun _ => true) L part ∧ Below w.heap.size w w1) := ⟨hZ, hP, bl_via (bl_alloc (bl_refl _)) hb⟩; clear hZ hP hb hg)
      | (go_at_call 106; refine (Tryd.slices_Max_int g 0 L.length L.length ((List.range L.length).map part) _ h0 (by simp) (by omega) (fun j hj => by
          have hj' : j < L.length := by simpa using hj
          rw [Nat.zero_add, (HW.out.1 j hj').1]
          simp [hj'])).mono ?_; rintro e w2 ⟨rfl, hw2⟩; have hw3 := hw2.symm; clear hw2; subst hw3))
    go_ret
    have hm : (Lib.maxOf (((List.range L.length).map part).take L.length) = 0) ↔ Joined L := by
      rw [List.take_of_length_le (by simp), maxOf_zero (fun q => by
        have q2 := congrArg List.length q
        rw [List.length_map, List.length_range, List.length_nil] at q2
        omega) (fun x hx => by
        obtain ⟨a, ha, rfl⟩ := List.mem_map.1 hx
        exact HW.out.2.1.1 a (by simpa using ha))]
      rw [← parts_joined HW.out.2.1 HND.out h0]
      constructor
      · intro q a ha
        exact q _ (List.mem_map.2 ⟨a, by simpa using ha, rfl⟩)
      · intro q x hx
        obtain ⟨a, ha, rfl⟩ := List.mem_map.1 hx
        exact q a (by simpa using ha)
    refine ⟨_, rfl, ?_, HW.out.2.2⟩
    rw [← hm]
    simp
  · have i0 : ¬ (0 : Int) < (L.length : Int) := by omega
    go_enter Tryd.func95, Tryd.ntmps95
    go_wp2_with (go_at_call 104; refine (CP.out _ (by with_reducible exact bl_alloc (bl_refl _))).mono ?_; rintro e w1 ⟨g, part, rfl, hZ, hP, hg, hb⟩; have HW : Hid (Below w.heap.size w w1) := bl_via (bl_alloc (bl_refl _)) hb; clear hZ hP hb hg)
    go_ret
    refine ⟨_, rfl, ⟨fun q => ?_, fun q => absurd q.1 h0⟩, HW.out⟩
    first | exact Bool.noConfusion q | (exfalso; simp at q; done) | (exfalso; simp at q; omega)
end Go.Proofs.YthkhiedpkmpifaaDoor

/- A sheet's text: the program's way. -/
namespace Go.Proofs.YthkhiedpkmpifaaDoor
open Go.RowKit

def nmB (ns : List Nat) : ByteArray := ⟨(nmL ns).toArray⟩
def kdS (k : Int) : ByteArray := ⟨#[kdB k]⟩
theorem nmB_list (ns : List Nat) : (nmB ns).data.toList = nmL ns := by simp [nmB]
theorem nmB_size (ns : List Nat) : (nmB ns).size ≤ 3 * ns.length := by
  rw [bsz, nmB_list]
  exact nmL_len ns
theorem isB_kept {B b : Nat} {bs : List Value} {w w' : World} (h : Lib.IsBuilder 128 5 B b bs w) (hb : Below w.heap.size w w') : Lib.IsBuilder 128 5 B b bs w' := by
  have key : ∀ p, Lib.BuilderAt 128 5 B b p bs w → Lib.BuilderAt 128 5 B b p bs w' := fun p hp => by
    obtain ⟨q1, v, q2, q3, q4⟩ := hp
    exact ⟨q1, v, (hb.block b (Array.getElem?_eq_some_iff.1 q2).1).trans q2, own_below q3 hb, q4⟩
  exact h.imp (key _) (key _)
theorem bcat (l : List UInt8) (s : ByteArray) : Lib.byteCells l ++ Lib.strCells s = Lib.byteCells (l ++ s.data.toList) := by simp [Lib.byteCells, Lib.strCells]
theorem bone (l : List UInt8) (u : UInt8) : Lib.byteCells l ++ [.int .u8 (u.toNat : Int)] = Lib.byteCells (l ++ [u]) := by simp [Lib.byteCells]
theorem ob_al {w : World} {q : Nat} {o x : Obj} (h : w.heap[q]? = some o) : (w.alloc x).heap[q]? = some o := (Lib.alloc_old w x q (Array.getElem?_eq_some_iff.1 h).1).trans h
theorem ob_dr {w : World} {q : Nat} {o : Obj} (h : w.heap[q]? = some o) : w.drew.heap[q]? = some o := h
theorem five_of {w : World} {q : Nat} {c0 c1 c2 c3 c4 : Value} (h : w.heap[q]? = some (.cells #[c0, c1, c2, c3, c4] 110 (0, 0))) : w.heap[q]? = some (.cells #[c0, c1, c2, c3, c4] 110 (0, 0)) ∧ w.cell? ⟨q, 0, none⟩ = some c0 ∧ w.cell? ⟨q, 1, none⟩ = some c1 ∧ w.cell? ⟨q, 2, none⟩ = some c2 ∧ w.cell? ⟨q, 3, none⟩ = some c3 ∧ w.cell? ⟨q, 4, none⟩ = some c4 := by
  refine ⟨h, ?_, ?_, ?_, ?_, ?_⟩ <;> simp [World.cell?, h]

theorem hdT_len (W H : Nat) : (hdT W H).length ≤ 20 := by
  have := dgs_len W
  have := dgs_len H
  simp [hdT]
  omega
theorem rsT_len (zs : List Int) (W H : Nat) : ∀ k, W ≤ 8 → (rsT zs W H k).length ≤ 9 * k
  | 0, _ => by simp [rsT]
  | k + 1, h => by
    have := rsT_len zs W H k h
    simp [rsT, rwT]
    omega
theorem csT_len (ks : List Int) : ∀ i, (csT ks i).length ≤ 15 * i
  | 0 => by simp [csT]
  | i + 1 => by
    have := csT_len ks i
    have := dgs_len (ck ks i 0).toNat
    have := dgs_len (ck ks i 1).toNat
    have := dgs_len (ck ks i 2).toNat
    have := dgs_len (ck ks i 3).toNat
    simp [csT, crT]
    omega

set_option maxRecDepth 100000 in
set_option maxHeartbeats 6400000 in
theorem show_any (W H b off cap n ccap : Nat) (cb : Option Addr) (zs ks : List Int) (w : World) (hr : Row w (some ⟨b, off, none⟩) zs) (hW : 1 ≤ W ∧ W ≤ 8) (hH : 1 ≤ H ∧ H ≤ 8) (hl : zs.length = W * H) (hm : maskB zs = true) (hcap : zs.length ≤ cap) (hk : Row w cb ks) (hn : ks.length = n * 5) (hn2 : n ≤ 3518437208883) (hcr : ∀ i, i < n → ∀ j, j < 4 → 0 ≤ ck ks i j ∧ ck ks i j < 100) :
    Calls Tryd.prog 73 #[.agg #[.int .i64 (W : Int), .int .i64 (H : Int), .slice (some ⟨b, off, none⟩) zs.length cap, .slice cb n ccap]] w fun e w' => e = .returned (.string ⟨(shT zs ks W H n).toArray⟩) ∧ Below w.heap.size w w' := by
  have HR : Hid (Row w (some ⟨b, off, none⟩) zs) := hr
  have h64 : zs.length ≤ 64 := by rw [hl]; exact Nat.le_trans (Nat.mul_le_mul hW.2 hH.2) (by decide)
  have HM : Hid (∀ z ∈ zs, 0 ≤ z ∧ z ≤ 15) := by
    show ∀ z ∈ zs, 0 ≤ z ∧ z ≤ 15
    simpa [maskB] using hm
  have HL : Hid (zs.length = W * H) := hl
  have HCR : Hid (CRow w cb ks n) := row_crow hk hn
  have HCB : Hid (∀ i, i < n → ∀ j, j < 4 → 0 ≤ ck ks i j ∧ ck ks i j < 100) := hcr
  obtain ⟨w1, w8⟩ := hW
  obtain ⟨h1, h8⟩ := hH
  have zN := nmB_size [W, H]
  simp only [List.length_cons, List.length_nil] at zN
  have HN2 : Hid (∀ (g : Nat) (W' : World), W'.cell? ⟨g, 0, none⟩ = some (.int .i64 (W : Int)) → W'.cell? ⟨g, 1, none⟩ = some (.int .i64 (H : Int)) → Calls Tryd.prog 98 #[.slice (some ⟨g, 0, none⟩) 2 2] W' fun e w' => e = .returned (.string (nmB [W, H])) ∧ w' = W') := fun g W' q0 q1 => numbers_any g 2 [W, H] W' (by intro m hm; simp at hm; omega) (by simp) (fun i hi => by
    match i, hi with
    | 0, _ => exact q0
    | 1, _ => exact q1)
  clear hr hm hl hk hn hcr
  obtain ⟨W1, hW1⟩ : ∃ W1, W1 = w.alloc (.cells #[.int .i64 (W : Int), .int .i64 (H : Int), .slice (some ⟨b, off, none⟩) zs.length cap, .slice cb n ccap] 74) := ⟨_, rfl⟩
  have hz1 : W1.heap.size = w.heap.size + 1 := by rw [hW1]; simp
  have HQ : Hid (W1.cell? ⟨w.heap.size, 0, none⟩ = some (.int .i64 (W : Int)) ∧ W1.cell? ⟨w.heap.size, 1, none⟩ = some (.int .i64 (H : Int)) ∧ W1.cell? ⟨w.heap.size, 2, none⟩ = some (.slice (some ⟨b, off, none⟩) zs.length cap) ∧ W1.cell? ⟨w.heap.size, 3, none⟩ = some (.slice cb n ccap)) := by
    show _ ∧ _
    rw [hW1]
    simp [go_sem]
  have HB1 : Hid (Below w.heap.size w W1) := by rw [hW1]; exact bl_alloc (bl_refl _)
  have HZ1 : Hid (W1.heap.size = w.heap.size + 1) := hz1
  have HFB : Hid (Lib.IsBuilder 128 5 (w.heap.size + 1) (w.heap.size + 1) (Lib.byteCells ([])) ((w.alloc (.cells #[.int .i64 (W : Int), .int .i64 (H : Int), .slice (some ⟨b, off, none⟩) zs.length cap, .slice cb n ccap] 74)).alloc (.cells #[.pointer none, .slice none 0 0] 128))) := by
    have q := Lib.fresh_isBuilder 128 5 W1
    rw [hz1, hW1] at q
    exact q
  have HW1 : Hid (W1 = w.alloc (.cells #[.int .i64 (W : Int), .int .i64 (H : Int), .slice (some ⟨b, off, none⟩) zs.length cap, .slice cb n ccap] 74)) := hW1
  clear hW1 hz1
  go_enter Tryd.func73, Tryd.ntmps73
  go_wp2_with (first
    | (go_at_call 98; refine (HN2.out _ _ (by simp [go_sem]) (by simp [go_sem])).mono ?_; rintro e w9 ⟨rfl, hw9⟩; have hw9b := hw9.symm; clear hw9; subst hw9b)
    | (go_at_call 97; refine (writeString_any (w.heap.size + 1) (w.heap.size + 1) [] _ _ (isB_kept HFB.out (bl_alloc (bl_refl _))) (by simp only [List.length_nil, ByteArray.size_append]; have e1 : ByteArray.size ⟨#[115, 104, 101, 101, 116]⟩ = 5 := rfl; have e2 : ByteArray.size ⟨#[10]⟩ = 1 := rfl; omega) (by simp <;> omega)).mono ?_; rintro e w5 ⟨rfl, hbd, hb5, _⟩; have HS5 : Hid (Lib.IsBuilder 128 5 (w.heap.size + 1) (w.heap.size + 1) (Lib.byteCells (hdT W H)) w5 ∧ Below W1.heap.size W1 w5) := ⟨Or.inr (by
        have q := hbd
        rw [List.nil_append] at q
        have e3 : Lib.strCells (⟨#[115, 104, 101, 101, 116]⟩ ++ nmB [W, H] ++ ⟨#[10]⟩) = Lib.byteCells (hdT W H) := by
          rw [show Lib.byteCells (hdT W H) = Lib.byteCells [] ++ Lib.byteCells (hdT W H) by simp [Lib.byteCells]]
          simp [Lib.strCells, Lib.byteCells, nmB_list, nmL, hdT]
        rw [e3] at q
        exact q), by
        have q2 : Below W1.heap.size W1 ((w.alloc (.cells #[.int .i64 (W : Int), .int .i64 (H : Int), .slice (some ⟨b, off, none⟩) zs.length cap, .slice cb n ccap] 74)).alloc (.cells #[.pointer none, .slice none 0 0] 128)) := by rw [← HW1.out]; exact bl_alloc (bl_refl _)
        exact (bl_alloc q2).trans (HZ1.out ▸ hb5)⟩; have s0 : w5.cell? ⟨w.heap.size, 0, none⟩ = some (.int .i64 (W : Int)) := cl_kept HS5.out.2 HQ.out.1; have s1 : w5.cell? ⟨w.heap.size, 1, none⟩ = some (.int .i64 (H : Int)) := cl_kept HS5.out.2 HQ.out.2.1; have s2 : w5.cell? ⟨w.heap.size, 2, none⟩ = some (.slice (some ⟨b, off, none⟩) zs.length cap) := cl_kept HS5.out.2 HQ.out.2.2.1; have s3 : w5.cell? ⟨w.heap.size, 3, none⟩ = some (.slice cb n ccap) := cl_kept HS5.out.2 HQ.out.2.2.2; clear hbd hb5))
  clear s0 s1 s2 s3
  go_loopg [4] (H + 1) (fun gk s4 wx => ∃ (r : Nat) (v : Int), r ≤ H ∧ gk = r + 1 ∧ v = (r : Int) - 1 ∧ s4 = .int .i64 v ∧ Lib.IsBuilder 128 5 (w.heap.size + 1) (w.heap.size + 1) (Lib.byteCells (hdT W H ++ rsT zs W H (H - r))) wx ∧ Below W1.heap.size W1 wx)
  case atStart => exact ⟨H, _, by omega, rfl, rfl, rfl, by simpa [rsT] using HS5.out⟩
  case round =>
    clear HS5 HFB HN2
    obtain ⟨r, v, hr, rfl, hv, rfl, hS, hB⟩ := hrel
    have HS : Hid (Lib.IsBuilder 128 5 (w.heap.size + 1) (w.heap.size + 1) (Lib.byteCells (hdT W H ++ rsT zs W H (H - r))) wr ∧ Below W1.heap.size W1 wr) := ⟨hS, hB⟩
    clear hS hB
    have s0 : wr.cell? ⟨w.heap.size, 0, none⟩ = some (.int .i64 (W : Int)) := cl_kept HS.out.2 HQ.out.1
    have s1 : wr.cell? ⟨w.heap.size, 1, none⟩ = some (.int .i64 (H : Int)) := cl_kept HS.out.2 HQ.out.2.1
    have s2 : wr.cell? ⟨w.heap.size, 2, none⟩ = some (.slice (some ⟨b, off, none⟩) zs.length cap) := cl_kept HS.out.2 HQ.out.2.2.1
    have s3 : wr.cell? ⟨w.heap.size, 3, none⟩ = some (.slice cb n ccap) := cl_kept HS.out.2 HQ.out.2.2.2
    have zs0 : w.heap.size < wr.heap.size := World.block_lt_of_cell? _ _ s0
    by_cases hr0 : 0 < r
    · obtain ⟨y, rfl⟩ : ∃ y, r = y + 1 := ⟨r - 1, by omega⟩
      obtain rfl : v = (y : Int) := by omega
      clear hv
      have iy : (0 : Int) ≤ (y : Int) := by omega
      have hyw : y * W + W ≤ W * H := by
        have := Nat.mul_le_mul_right W (show y + 1 ≤ H by omega)
        rw [Nat.succ_mul, Nat.mul_comm H W] at this
        exact this
      obtain ⟨yw, hyw0⟩ : ∃ m, m = y * W := ⟨_, rfl⟩
      have e1 : (y : Int) * (W : Int) = (yw : Int) := by rw [hyw0]; simp
      have e2 : ((y : Int) + 1) * (W : Int) = ((yw + W : Nat) : Int) := by rw [Int.add_mul, e1]; simp
      have hl2 : yw + W ≤ zs.length := by rw [HL.out, hyw0]; exact hyw
      have HYW : Hid (yw = y * W) := hyw0
      clear hyw hyw0
      have b1 : (0 : Int) ≤ (yw : Int) := by omega
      have b2 : (yw : Int) ≤ ((yw + W : Nat) : Int) := by omega
      have b3 : ((yw + W : Nat) : Int) ≤ (cap : Int) := by omega
      have b4 : ¬ cap = yw := by omega
      have b5 : (yw : Int) + (W : Int) ≤ (cap : Int) := by omega
      go_wp2
      rw [show yw + W - yw = W by omega]
      go_loopg [38] W (fun gk s38 wx => ∃ x : Nat, x ≤ W ∧ gk = W - x ∧ s38 = .int .i64 (x : Int) ∧ Lib.IsBuilder 128 5 (w.heap.size + 1) (w.heap.size + 1) (Lib.byteCells (hdT W H ++ rsT zs W H (H - (y + 1)) ++ rwT zs W y x)) wx ∧ Below W1.heap.size W1 wx)
      case atStart => exact ⟨0, by omega, rfl, rfl, by simpa [rwT] using HS.out⟩
      case round =>
        clear HS s0 s1 s2 s3 zs0
        obtain ⟨x, hx, rfl, rfl, hS, hB⟩ := hrel
        have HS : Hid (Lib.IsBuilder 128 5 (w.heap.size + 1) (w.heap.size + 1) (Lib.byteCells (hdT W H ++ rsT zs W H (H - (y + 1)) ++ rwT zs W y x)) wr ∧ Below W1.heap.size W1 wr) := ⟨hS, hB⟩
        clear hS hB
        have hlen : (hdT W H ++ rsT zs W H (H - (y + 1)) ++ rwT zs W y x).length ≤ 200 := by
          simp only [List.length_append]
          have q1 := hdT_len W H
          have q2 := rsT_len zs W H (H - (y + 1)) w8
          have q3 : (rwT zs W y x).length = x := by simp [rwT]
          omega
        have hwz : w.heap.size + 1 ≤ wr.heap.size := by rw [← HZ1.out]; exact HS.out.2.size
        by_cases hx1 : x < W
        · have ix : (x : Int) < (W : Int) := by omega
          have ix0 : (0 : Int) ≤ (x : Int) := by omega
          have hm : yw + x < zs.length := by omega
          obtain ⟨b', off', e', hc⟩ := (HR.out.kept (bl_via HB1.out HS.out.2)) (yw + x) hm
          simp at e'
          obtain ⟨rfl, rfl⟩ := e'
          rw [← Nat.add_assoc] at hc
          have hzb := HM.out _ (List.getElem_mem hm)
          have HZ : Hid (zs.getD (y * W + x) 0 = zs[yw + x]) := by show _ = _; rw [← HYW.out]; simp [hm]
          obtain ⟨z, hz⟩ : ∃ z, z = zs[yw + x] := ⟨_, rfl⟩
          rw [← hz] at hc hzb HZ
          have zbb := World.block_lt_of_cell? _ _ hc
          obtain ⟨z0, z15⟩ := hzb
          have hix := idx_letter z z0 z15 wr
          clear hz hm
          go_wp2_with (go_at_call 99; refine (writeByte_any (w.heap.size + 1) (w.heap.size + 1) _ _ _ HS.out.1 (by rw [Lib.byteCells_length]; omega) hwz).mono ?_; rintro e w5 ⟨rfl, hbd, hb5⟩; have HS5 : Hid (Lib.IsBuilder 128 5 (w.heap.size + 1) (w.heap.size + 1) (Lib.byteCells (hdT W H ++ rsT zs W H (H - (y + 1)) ++ rwT zs W y (x + 1))) w5 ∧ Below W1.heap.size W1 w5) := ⟨Or.inr (by
              rw [rwT_succ, HZ.out, ← List.append_assoc, ← bone]
              exact hbd), HS.out.2.trans (HZ1.out ▸ hb5)⟩; clear hbd hb5)
          go_roundg (W - (x + 1))
          case measure => omega
          case rel => exact ⟨x + 1, by omega, rfl, by go_num, HS5.out⟩
        · have ix : ¬ (x : Int) < (W : Int) := by omega
          obtain rfl : W = x := by omega
          go_wp2_with (go_at_call 97; refine (writeString_any (w.heap.size + 1) (w.heap.size + 1) _ _ _ HS.out.1 (by rw [Lib.byteCells_length, show ByteArray.size ⟨#[10]⟩ = 1 from rfl]; omega) hwz).mono ?_; rintro e w5 ⟨rfl, hbd, hb5, _⟩; have HS5 : Hid (Lib.IsBuilder 128 5 (w.heap.size + 1) (w.heap.size + 1) (Lib.byteCells (hdT W H ++ rsT zs W H (H - y))) w5 ∧ Below W1.heap.size W1 w5) := ⟨Or.inr (by
              have e : H - y = (H - (y + 1)) + 1 := by omega
              rw [e, rsT, show H - 1 - (H - (y + 1)) = y by omega]
              rw [bcat] at hbd
              simpa [List.append_assoc] using hbd), HS.out.2.trans (HZ1.out ▸ hb5)⟩; clear hbd hb5)
          go_roundg (y + 1)
          case measure => omega
          case rel => exact ⟨y, (y : Int) - 1, by omega, rfl, rfl, rfl, HS5.out⟩
    · obtain rfl : r = 0 := by omega
      obtain rfl : v = -1 := by omega
      clear hv
      have hs0 : Lib.IsBuilder 128 5 (w.heap.size + 1) (w.heap.size + 1) (Lib.byteCells (hdT W H ++ rsT zs W H H ++ csT ks 0)) wr ∧ Below W1.heap.size W1 wr := by simpa [csT] using HS.out
      have HS0 : Hid (Lib.IsBuilder 128 5 (w.heap.size + 1) (w.heap.size + 1) (Lib.byteCells (hdT W H ++ rsT zs W H H ++ csT ks 0)) wr ∧ Below W1.heap.size W1 wr) := hs0
      clear hs0
      clear HS
      go_wp2
      go_loopg [50] n (fun gk s50 wx => ∃ i : Nat, i ≤ n ∧ gk = n - i ∧ s50 = .int .i64 (i : Int) ∧ Lib.IsBuilder 128 5 (w.heap.size + 1) (w.heap.size + 1) (Lib.byteCells (hdT W H ++ rsT zs W H H ++ csT ks i)) wx ∧ Below W1.heap.size W1 wx)
      case atStart => exact ⟨0, by omega, rfl, rfl, HS0.out⟩
      case round =>
        clear HS0 s0 s1 s2 s3 zs0
        obtain ⟨i, hi, rfl, rfl, hS, hB⟩ := hrel
        have HS : Hid (Lib.IsBuilder 128 5 (w.heap.size + 1) (w.heap.size + 1) (Lib.byteCells (hdT W H ++ rsT zs W H H ++ csT ks i)) wr ∧ Below W1.heap.size W1 wr) := ⟨hS, hB⟩
        clear hS hB
        have hlen : (hdT W H ++ rsT zs W H H ++ csT ks i).length ≤ 200 + 15 * i := by
          simp only [List.length_append]
          have q1 := hdT_len W H
          have q2 := rsT_len zs W H H w8
          have q3 := csT_len ks i
          omega
        have hwz : w.heap.size + 1 ≤ wr.heap.size := by rw [← HZ1.out]; exact HS.out.2.size
        by_cases h1' : i < n
        · have i1 : (i : Int) < (n : Int) := by omega
          have i0 : (0 : Int) ≤ (i : Int) := by omega
          obtain ⟨bb, bo, rfl, c0, c1, c2, c3, c4⟩ := (HCR.out.kept (bl_via HB1.out HS.out.2)) i h1'
          have zb : bb < wr.heap.size := World.block_lt_of_cell? _ _ c0
          obtain ⟨p0, p0'⟩ := HCB.out i h1' 0 (by omega)
          obtain ⟨p1, p1'⟩ := HCB.out i h1' 1 (by omega)
          obtain ⟨p2, p2'⟩ := HCB.out i h1' 2 (by omega)
          obtain ⟨p3, p3'⟩ := HCB.out i h1' 3 (by omega)
          go_wp2
          refine wp_named (fun W0 hW0 => ?_)
          have hB0 : Below wr.heap.size wr W0 := by rw [hW0]; exact bl_alloc (bl_refl _)
          have hblk : W0.heap[wr.heap.size]? = some (.cells #[.int .i64 (ck ks i 0), .int .i64 (ck ks i 1), .int .i64 (ck ks i 2), .int .i64 (ck ks i 3), .int .i64 (ck ks i 4)] 110 (0, 0)) := by rw [hW0]; exact heap_alloc_new wr _
          have hz0 : W0.heap.size = wr.heap.size + 1 := by rw [hW0]; simp
          have HBK : Hid (W0.heap[wr.heap.size]? = some (.cells #[.int .i64 (ck ks i 0), .int .i64 (ck ks i 1), .int .i64 (ck ks i 2), .int .i64 (ck ks i 3), .int .i64 (ck ks i 4)] 110 (0, 0))) := hblk
          have HZ0 : Hid (W0.heap.size = wr.heap.size + 1) := hz0
          have HB0 : Hid (Below wr.heap.size wr W0) := hB0
          have HF : Hid (Lib.IsBuilder 128 5 (w.heap.size + 1) (w.heap.size + 1) (Lib.byteCells (hdT W H ++ rsT zs W H H ++ csT ks i)) W0 ∧ Below W1.heap.size W1 W0) := ⟨isB_kept HS.out.1 hB0, bl_via HS.out.2 hB0⟩
          have q5 := five_of hblk
          obtain ⟨_, t0, t1, t2, t3, t4⟩ := q5
          clear hW0 hB0 hblk hz0 c0 c1 c2 c3 c4 zb
          obtain ⟨ns, hns⟩ : ∃ ns, ns = [(ck ks i 0).toNat, (ck ks i 1).toNat, (ck ks i 2).toNat, (ck ks i 3).toNat] := ⟨_, rfl⟩
          have zn : (nmB ns).size ≤ 12 := by
            have := nmB_size ns
            rw [hns] at this ⊢
            exact this
          have zk : (kdS (ck ks i 4)).size = 1 := rfl
          have CN : Hid (∀ (g : Nat) (W' : World), W'.cell? ⟨g, 0, none⟩ = some (.int .i64 (ck ks i 0)) → W'.cell? ⟨g, 1, none⟩ = some (.int .i64 (ck ks i 1)) → W'.cell? ⟨g, 2, none⟩ = some (.int .i64 (ck ks i 2)) → W'.cell? ⟨g, 3, none⟩ = some (.int .i64 (ck ks i 3)) → Calls Tryd.prog 98 #[.slice (some ⟨g, 0, none⟩) 4 4] W' fun e w' => e = .returned (.string (nmB ns)) ∧ w' = W') := fun g W' q0 q1 q2 q3 => by
            rw [hns]
            exact numbers_any g 4 [(ck ks i 0).toNat, (ck ks i 1).toNat, (ck ks i 2).toNat, (ck ks i 3).toNat] W' (by intro m hm; simp at hm; omega) (by simp) (fun j hj => by
              match j, hj with
              | 0, _ => exact q0.trans (by simp; omega)
              | 1, _ => exact q1.trans (by simp; omega)
              | 2, _ => exact q2.trans (by simp; omega)
              | 3, _ => exact q3.trans (by simp; omega))
          have CL : Hid (∀ W' : World, Calls Tryd.prog 100 #[.int .i64 (ck ks i 4)] W' fun e w' => e = .returned (.string (kdS (ck ks i 4))) ∧ w' = W') := fun W' => letter_any (ck ks i 4) W'
          have HLINE : Hid ((kdS (ck ks i 4) ++ nmB ns ++ ⟨#[10]⟩).data.toList = crT ks i) := by
            show _ = _
            rw [app_list, app_list, nmB_list, hns]
            simp [kdS, kdB, nmL, crT]
          have HNE : Hid (wr.heap.size ≠ w.heap.size + 1) := fun e => by
            obtain ⟨p, q⟩ : ∃ p, Lib.BuilderAt 128 5 (w.heap.size + 1) (w.heap.size + 1) p (Lib.byteCells (hdT W H ++ rsT zs W H H ++ csT ks i)) wr := by
              rcases HS.out.1 with h | h
              · exact ⟨_, h⟩
              · exact ⟨_, h⟩
            have := q.lt
            omega
          have a1 : (kdS (ck ks i 4)).size + (nmB ns).size ≤ 9223372036854775807 := by omega
          have a2 : (kdS (ck ks i 4)).size + (nmB ns).size + 1 ≤ 9223372036854775807 := by omega
          have a3 : 1 + (nmB ns).size ≤ 9223372036854775807 := by omega
          have a4 : 1 + (nmB ns).size + 1 ≤ 9223372036854775807 := by omega
          have d1 : ∀ w' : World, (Op.stringOp .add (kdS (ck ks i 4)) (nmB ns)).run Tryd.prog w' = .ok (.string (kdS (ck ks i 4) ++ nmB ns)) w' := fun w' => run_string_add_sum (P := Tryd.prog) (w := w') _ _ a1
          have d2 : ∀ w' : World, (Op.stringOp .add (kdS (ck ks i 4) ++ nmB ns) ⟨#[10]⟩).run Tryd.prog w' = .ok (.string (kdS (ck ks i 4) ++ nmB ns ++ ⟨#[10]⟩)) w' := fun w' => run_string_add_sum (P := Tryd.prog) (w := w') _ _ (by rw [ByteArray.size_append]; exact a2)
          clear hns
          go_region_held3 (fun w' => w'.heap[wr.heap.size]? = some (.cells #[.int .i64 (ck ks i 0), .int .i64 (ck ks i 1), .int .i64 (ck ks i 2), .int .i64 (ck ks i 3), .int .i64 (ck ks i 4)] 110 (0, 0)) ∧ w'.cell? ⟨wr.heap.size, 0, none⟩ = some (.int .i64 (ck ks i 0)) ∧ w'.cell? ⟨wr.heap.size, 1, none⟩ = some (.int .i64 (ck ks i 1)) ∧ w'.cell? ⟨wr.heap.size, 2, none⟩ = some (.int .i64 (ck ks i 2)) ∧ w'.cell? ⟨wr.heap.size, 3, none⟩ = some (.int .i64 (ck ks i 3)) ∧ w'.cell? ⟨wr.heap.size, 4, none⟩ = some (.int .i64 (ck ks i 4)))
            ((exact five_of (by with_reducible (first | exact HBK.out | exact HBK5.out | exact ob_dr HBK.out | exact ob_dr (ob_al HBK.out) | exact ob_al (ob_dr HBK.out)))))
            (first
              | (go_at_call 100; refine (CL.out _).mono ?_; rintro e w9 ⟨rfl, hw9⟩; have hw9b := hw9.symm; clear hw9; subst hw9b)
              | (go_at_call 98; refine (CN.out _ _ (by simp [go_sem]) (by simp [go_sem]) (by simp [go_sem]) (by simp [go_sem])).mono ?_; rintro e w9 ⟨rfl, hw9⟩; have hw9b := hw9.symm; clear hw9; subst hw9b)
              | (go_at_call 97; refine (writeString_any (w.heap.size + 1) (w.heap.size + 1) _ _ _ (isB_kept HF.out.1 (by with_reducible (first | exact bl_refl _ | exact bl_drew (bl_alloc (bl_refl _)) | exact bl_alloc (bl_drew (bl_refl _))))) (by rw [Lib.byteCells_length]; simp only [ByteArray.size_append, zk, show ByteArray.size ⟨#[10]⟩ = 1 from rfl]; omega) (by simp [HZ0.out] <;> omega)).mono ?_; rintro e w5 ⟨rfl, hbd, hb5, hkp⟩; have HBK5 : Hid (w5.heap[wr.heap.size]? = some (.cells #[.int .i64 (ck ks i 0), .int .i64 (ck ks i 1), .int .i64 (ck ks i 2), .int .i64 (ck ks i 3), .int .i64 (ck ks i 4)] 110 (0, 0))) := hkp _ _ _ _ (by with_reducible (first | exact ob_dr (ob_al HBK.out) | exact ob_al (ob_dr HBK.out))) HNE.out (by decide); have HS5 : Hid (Lib.IsBuilder 128 5 (w.heap.size + 1) (w.heap.size + 1) (Lib.byteCells (hdT W H ++ rsT zs W H H ++ csT ks (i + 1))) w5 ∧ Below W1.heap.size W1 w5) := ⟨Or.inr (by rw [csT, ← List.append_assoc, ← HLINE.out, ← bcat]; exact hbd), (bl_via HF.out.2 (by with_reducible (first | exact bl_drew (bl_alloc (bl_refl _)) | exact bl_alloc (bl_drew (bl_refl _))))).trans (HZ1.out ▸ hb5)⟩; clear hbd hb5 hkp))
          all_goals
            go_wp2
            go_roundg (n - (i + 1))
            case measure => omega
            case rel => exact ⟨i + 1, by omega, rfl, by go_num, HS5.out⟩
        · have i1 : ¬ (i : Int) < (n : Int) := by omega
          obtain rfl : i = n := by omega
          obtain ⟨lt, hlt⟩ : ∃ lt, lt = shT zs ks W H i := ⟨_, rfl⟩
          have HLT : Hid (lt = shT zs ks W H i) := hlt
          have HSL : Hid (Lib.IsBuilder 128 5 (w.heap.size + 1) (w.heap.size + 1) (Lib.byteCells lt) wr) := by rw [hlt]; exact HS.out.1
          clear hlt
          go_wp2_with (go_at_call 101; refine (Tryd.Builder_String_any (w.heap.size + 1) (w.heap.size + 1) lt _ HSL.out hwz).mono ?_; rintro e w5 ⟨rfl, hb5⟩; have HB5 : Hid (Below w.heap.size w w5) := bl_via HB1.out (HS.out.2.trans (HZ1.out ▸ hb5)); clear hb5)
          go_ret
          exact ⟨by rw [← HLT.out]; rfl, HB5.out⟩
end Go.Proofs.YthkhiedpkmpifaaDoor

