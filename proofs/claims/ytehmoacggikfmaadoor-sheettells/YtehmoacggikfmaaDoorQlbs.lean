/- The parts of a paper, and whether it is in one piece. -/
import Derived.Test.YtehmoacggikfmaaDoorQlbq
import Derived.Test.YtehmoacggikfmaaDoorQlbr
import Derived.Test.YtehmoacggikfmaaDoorQlaf
namespace Go.Proofs.YtehmoacggikfmaaDoor
open Go.RowKit Go.ChangeMaps

/-- The parts: each triangle has a number; neighbours have one number; who has one number is joined; numbers come up in order. -/
def PartsOk (cr : Int × Int × Int × Int → Bool) (L : List (Int × Int × Int)) (part : Nat → Int) : Prop :=
  (∀ a, a < L.length → 0 ≤ part a) ∧ (∀ a b (ha : a < L.length) (hb : b < L.length), AdjC cr L[a] L[b] → part b = part a) ∧
  (∀ a b (ha : a < L.length) (hb : b < L.length), part a = part b → ReachC cr L L[a] L[b]) ∧ (∀ a, a < L.length → ∀ c, 0 ≤ c → c < part a → ∃ b, b < a ∧ part b = c)
/-- .. those of the first i triangles, and all that these come to. -/
def PInv (cr : Int × Int × Int × Int → Bool) (L : List (Int × Int × Int)) (part : Nat → Int) (i c : Nat) : Prop :=
  (∀ a, a < L.length → a < i → 0 ≤ part a) ∧ (∀ a b (ha : a < L.length) (hb : b < L.length), AdjC cr L[a] L[b] → 0 ≤ part a → part b = part a) ∧
  (∀ a b (ha : a < L.length) (hb : b < L.length), 0 ≤ part a → part a = part b → ReachC cr L L[a] L[b]) ∧ (∀ a, a < L.length → part a < c) ∧ (∀ a, a < L.length → ∀ d, 0 ≤ d → d < part a → ∃ b, b < a ∧ part b = d) ∧ (∀ d : Int, 0 ≤ d → d < c → ∃ b, b < i ∧ part b = d)
theorem pinv_start (cr : Int × Int × Int × Int → Bool) (L : List (Int × Int × Int)) : PInv cr L (fun _ => -1) 0 0 :=
  ⟨fun a _ h => by omega, fun a b _ _ _ h => by simp at h, fun a b _ _ h => by simp at h, fun a _ => by simp, fun a _ d h1 h2 => by simp at h2; omega, fun d h1 h2 => by simp at h2; omega⟩
theorem PInv.skip {cr : Int × Int × Int × Int → Bool} {L : List (Int × Int × Int)} {part : Nat → Int} {i c : Nat} (h : PInv cr L part i c) (hp : 0 ≤ part i) : PInv cr L part (i + 1) c := by
  obtain ⟨h1, h2, h3, h4, h5, h6⟩ := h
  refine ⟨fun a ha hi => ?_, h2, h3, h4, h5, fun d hd hc => ?_⟩
  · by_cases e : a = i
    · rw [e]
      exact hp
    · exact h1 a ha (by omega)
  · obtain ⟨b, hb, he⟩ := h6 d hd hc
    exact ⟨b, by omega, he⟩
theorem PInv.done {cr : Int × Int × Int × Int → Bool} {L : List (Int × Int × Int)} {part : Nat → Int} {c : Nat} (h : PInv cr L part L.length c) : PartsOk cr L part := by
  obtain ⟨h1, h2, h3, h4, h5, h6⟩ := h
  exact ⟨fun a ha => h1 a ha ha, fun a b ha hb hab => h2 a b ha hb hab (h1 a ha ha), fun a b ha hb e => h3 a b ha hb (h1 a ha ha) e, h5⟩
theorem PInv.next {cr : Int × Int × Int × Int → Bool} {L : List (Int × Int × Int)} {part : Nat → Int} {i c : Nat} {R : List Nat} (h : PInv cr L part i c) (_hk : ∀ t ∈ L, Kd t) (_hnd : L.Nodup) (_hi : i < L.length) (_hp : part i < 0) (hS : Sp cr L part i R) (hD : ∀ a ∈ R, ∀ ha : a < L.length, DoneT cr L part R L[a] 3) : PInv cr L (lab part (c : Int) R) (i + 1) (c + 1) := by
  obtain ⟨h1, h2, h3, h4, h5, h6⟩ := h
  have hin : ∀ a, a ∈ R → lab part (c : Int) R a = c := fun a ha => by simp [lab, ha]
  have hout : ∀ a, a ∉ R → lab part (c : Int) R a = part a := fun a ha => by simp [lab, ha]
  have hlt : ∀ a, a ∈ R → ∃ ha : a < L.length, part a < 0 ∧ i ≤ a := fun a ha => by
    obtain ⟨q1, q2, _⟩ := hS.2.2 a ha
    refine ⟨q1, q2, ?_⟩
    rcases Nat.lt_or_ge a i with q | q
    · have := h1 a q1 q
      omega
    · exact q
  have hcl : ∀ a b (ha : a < L.length) (hb : b < L.length), AdjC cr L[a] L[b] → a ∈ R → b ∈ R := fun a b ha hb hab haR => by
    obtain ⟨hne, e, e1, e2, e3⟩ := hab
    obtain ⟨k, hk3, hke⟩ := hasT_edg e1
    have hd := hD a haR ha k hk3 (by rw [hke]; exact e3) b hb (by rw [hke]; exact e2)
    rcases hd with hd | hd
    · exact hd
    · have q1 := h2 b a hb ha (AdjC.symm ⟨hne, e, e1, e2, e3⟩) hd
      obtain ⟨_, q2, _⟩ := hlt a haR
      omega
  refine ⟨fun a ha hai => ?_, fun a b ha hb hab hpa => ?_, fun a b ha hb hpa he => ?_, fun a ha => ?_, fun a ha d hd hda => ?_, fun d hd hdc => ?_⟩
  · by_cases haR : a ∈ R
    · rw [hin a haR]
      omega
    · rw [hout a haR]
      by_cases e : a = i
      · exact absurd (e ▸ hS.1) haR
      · exact h1 a ha (by omega)
  · by_cases haR : a ∈ R
    · rw [hin a haR, hin b (hcl a b ha hb hab haR)]
    · rw [hout a haR] at hpa ⊢
      have hbR : b ∉ R := fun q => haR (hcl b a hb ha hab.symm q)
      rw [hout b hbR]
      exact h2 a b ha hb hab hpa
  · by_cases haR : a ∈ R
    · by_cases hbR : b ∈ R
      · obtain ⟨_, _, _, r1⟩ := hS.2.2 a haR
        obtain ⟨_, _, _, r2⟩ := hS.2.2 b hbR
        exact r1.symm.trans r2
      · rw [hin a haR, hout b hbR] at he
        have := h4 b hb
        omega
    · by_cases hbR : b ∈ R
      · rw [hout a haR, hin b hbR] at he
        have := h4 a ha
        omega
      · rw [hout a haR, hout b hbR] at he
        rw [hout a haR] at hpa
        exact h3 a b ha hb hpa he
  · by_cases haR : a ∈ R
    · rw [hin a haR]
      omega
    · rw [hout a haR]
      have := h4 a ha
      omega
  · by_cases haR : a ∈ R
    · rw [hin a haR] at hda
      obtain ⟨b, hb, hbe⟩ := h6 d hd hda
      obtain ⟨_, _, hia⟩ := hlt a haR
      refine ⟨b, by omega, ?_⟩
      rw [hout b (fun q => by obtain ⟨_, q2, _⟩ := hlt b q; omega)]
      exact hbe
    · rw [hout a haR] at hda
      obtain ⟨b, hb, hbe⟩ := h5 a ha d hd hda
      refine ⟨b, hb, ?_⟩
      rw [hout b (fun q => by obtain ⟨_, q2, _⟩ := hlt b q; omega)]
      exact hbe
  · by_cases e : d = c
    · exact ⟨i, by omega, by rw [hin i hS.1, e]⟩
    · obtain ⟨b, hb, hbe⟩ := h6 d hd (by omega)
      refine ⟨b, by omega, ?_⟩
      rw [hout b (fun q => by obtain ⟨_, q2, _⟩ := hlt b q; omega)]
      exact hbe

theorem rp_zrow {w : World} {g n : Nat} {z : Int} (h : w.heap[g]? = some (.cells (rp z n n).toArray 3 (0, 0))) : ZRow w g n (fun _ => z) := fun i hi => by
  have e : rp z n n = List.replicate n (Value.int .i64 z) := by simp [rp]
  rw [e] at h
  refine ⟨?_, ?_⟩
  · simp [World.cell?, h, hi]
  · simp [World.frozen?, h]

theorem joined1_any (n a b c d t : Int) (w : World) : Calls Tryd.prog 36 #[.int .i64 n, .agg #[.int .i64 a, .int .i64 b, .int .i64 c, .int .i64 d, .int .i64 t]] w fun e w' => e = .returned (.bool true) ∧ Below w.heap.size w w' := by
  go_enter Tryd.func36, Tryd.ntmps36
  go_wp2
  go_ret
  exact ⟨rfl, bl_alloc (bl_refl _)⟩
set_option maxRecDepth 100000 in
set_option maxHeartbeats 3200000 in
theorem parts_all (w : World) (cc ra rk : Nat) (ad : Option Addr) (L : List (Int × Int × Int)) (cr : Int × Int × Int × Int → Bool) (hs : Steps w) (hPA : PA w ad ra L) (hL : L.length ≤ 300) (hnd : L.Nodup) (hbd : ∀ t ∈ L, (0 ≤ t.1 ∧ t.1 ≤ 8) ∧ (0 ≤ t.2.1 ∧ t.2.1 ≤ 8) ∧ (0 ≤ t.2.2 ∧ t.2.2 ≤ 3))
    (hCL : ∀ (nr q0 q1 q2 q3 qt : Int) (W' : World), Below w.heap.size w W' → Calls Tryd.prog 36 #[.int .i64 nr, .agg #[.int .i64 q0, .int .i64 q1, .int .i64 q2, .int .i64 q3, .int .i64 qt]] W' fun e w' => e = .returned (.bool (cr (q0, q1, q2, q3))) ∧ Below W'.heap.size W' w') :
    Calls Tryd.prog 35 #[.agg #[.slice ad L.length cc, .map (some ra), .map (some rk)], .func (.func 36) #[] #[]] w fun e w' => ∃ g part, e = .returned (.slice (some ⟨g, 0, none⟩) L.length L.length) ∧ ZRow w' g L.length part ∧ PartsOk cr L part ∧ w.heap.size ≤ g ∧ Below w.heap.size w w' := by
  have hbE : Below w.heap.size w ((w.alloc (.cells #[.slice ad L.length cc, .map (some ra), .map (some rk)] 40)).alloc (.cells #[.int .i64 (-1)] 3)) := bl_alloc (bl_alloc (bl_refl _))
  have CSP : Hid (∀ (g f : Nat) (part : Nat → Int) (num : Int) (wx : World), Below ((w.alloc (.cells #[.slice ad L.length cc, .map (some ra), .map (some rk)] 40)).alloc (.cells #[.int .i64 (-1)] 3)).heap.size ((w.alloc (.cells #[.slice ad L.length cc, .map (some ra), .map (some rk)] 40)).alloc (.cells #[.int .i64 (-1)] 3)) wx → ((w.alloc (.cells #[.slice ad L.length cc, .map (some ra), .map (some rk)] 40)).alloc (.cells #[.int .i64 (-1)] 3)).heap.size ≤ g → ZRow wx g L.length part → f < L.length → part f < 0 → (0 ≤ num ∧ num ≤ 1000) → Calls Tryd.prog 49 #[.agg #[.slice ad L.length cc, .map (some ra), .map (some rk)], .slice (some ⟨g, 0, none⟩) L.length L.length, .int .i64 (f : Int), .int .i64 num, .func (.func 36) #[] #[]] wx fun e w' => e = .returned (.tuple #[]) ∧ ∃ R, Sp cr L part f R ∧ ZRow w' g L.length (lab part num R) ∧ (∀ i ∈ R, ∀ h : i < L.length, DoneT cr L part R L[i] 3) ∧ Below ((w.alloc (.cells #[.slice ad L.length cc, .map (some ra), .map (some rk)] 40)).alloc (.cells #[.int .i64 (-1)] 3)).heap.size ((w.alloc (.cells #[.slice ad L.length cc, .map (some ra), .map (some rk)] 40)).alloc (.cells #[.int .i64 (-1)] 3)) w') := fun g f part num wx h1 h2 h3 h4 h5 h6 =>
    spread_all ((w.alloc (.cells #[.slice ad L.length cc, .map (some ra), .map (some rk)] 40)).alloc (.cells #[.int .i64 (-1)] 3)) wx g cc ra rk f ad L part num cr (hs.kept hbE) (hPA.kept hbE) h1 h2 h3 h4 h5 h6 hL hnd hbd (fun nr q0 q1 q2 q3 qt W' hW' => hCL nr q0 q1 q2 q3 qt W' (bl_via hbE hW'))
  have HPB : Hid (∀ t ∈ L, Kd t) := fun t ht => (hbd t ht).2.2
  have HND : Hid (L.Nodup) := hnd
  clear hs hPA hbE hnd hbd hCL
  go_enter Tryd.func35, Tryd.ntmps35
  go_wp2_with (go_at_call 48; refine (repeat_any (-1) (w.heap.size + 1) L.length _ (by omega) (by simp [go_sem])).mono ?_; rintro e w1 ⟨rfl, hrow, hb⟩; have HW1 : Hid (ZRow w1 ((w.alloc (.cells #[.slice ad L.length cc, .map (some ra), .map (some rk)] 40)).alloc (.cells #[.int .i64 (-1)] 3)).heap.size L.length (fun _ => -1) ∧ Below ((w.alloc (.cells #[.slice ad L.length cc, .map (some ra), .map (some rk)] 40)).alloc (.cells #[.int .i64 (-1)] 3)).heap.size ((w.alloc (.cells #[.slice ad L.length cc, .map (some ra), .map (some rk)] 40)).alloc (.cells #[.int .i64 (-1)] 3)) w1) := ⟨rp_zrow hrow, hb⟩; have p0 : w1.cell? ⟨w.heap.size, 0, none⟩ = some (.slice ad L.length cc) := cl_kept hb (by simp [go_sem]); clear hrow hb)
  obtain ⟨WE, hWE⟩ : ∃ W, W = ((w.alloc (.cells #[.slice ad L.length cc, .map (some ra), .map (some rk)] 40)).alloc (.cells #[.int .i64 (-1)] 3)) := ⟨_, rfl⟩
  have q0 : WE.cell? ⟨w.heap.size, 0, none⟩ = some (.slice ad L.length cc) := by rw [hWE]; simp [go_sem]
  have q1 : WE.cell? ⟨w.heap.size, 1, none⟩ = some (.map (some ra)) := by rw [hWE]; simp [go_sem]
  have q2 : WE.cell? ⟨w.heap.size, 2, none⟩ = some (.map (some rk)) := by rw [hWE]; simp [go_sem]
  have hz : WE.heap.size = w.heap.size + 2 := by rw [hWE]; simp
  have HBW : Hid (Below w.heap.size w WE) := by rw [hWE]; exact bl_alloc (bl_alloc (bl_refl _))
  rw [← hWE] at CSP HW1
  have HQ : Hid (WE.cell? ⟨w.heap.size, 0, none⟩ = some (.slice ad L.length cc) ∧ WE.cell? ⟨w.heap.size, 1, none⟩ = some (.map (some ra)) ∧ WE.cell? ⟨w.heap.size, 2, none⟩ = some (.map (some rk))) := ⟨q0, q1, q2⟩
  obtain ⟨g, hg⟩ : ∃ g, g = w.heap.size + 1 + 1 := ⟨_, rfl⟩
  rw [show WE.heap.size = g by omega] at HW1
  have HG : Hid (g = w.heap.size + 1 + 1 ∧ WE.heap.size = g) := ⟨hg, by omega⟩
  rw [← hg]
  clear hWE q0 q1 q2 hg hz
  go_wp2
  go_loopg [6, 16] L.length (fun gk s6 s16 wx => ∃ (i : Nat) (c : Nat) (part : Nat → Int), i ≤ L.length ∧ gk = L.length - i ∧ s16 = .int .i64 (i : Int) ∧ s6 = .int .i64 (c : Int) ∧ c ≤ i ∧ PInv cr L part i c ∧ ZRow wx g L.length part ∧ Below WE.heap.size WE wx)
  case atStart => exact ⟨0, 0, _, by omega, rfl, rfl, rfl, by omega, pinv_start _ _, HW1.out.1, by rw [HG.out.2]; exact HW1.out.2⟩
  case round =>
    clear HW1 p0
    obtain ⟨i, c, part, hi, rfl, rfl, rfl, hci, hI, hZ, hB⟩ := hrel
    have HI : Hid (PInv cr L part i c ∧ ZRow wr g L.length part ∧ Below WE.heap.size WE wr) := ⟨hI, hZ, hB⟩
    clear hI hZ hB
    have p0 : wr.cell? ⟨w.heap.size, 0, none⟩ = some (.slice ad L.length cc) := cl_kept HI.out.2.2 HQ.out.1
    have p1 : wr.cell? ⟨w.heap.size, 1, none⟩ = some (.map (some ra)) := cl_kept HI.out.2.2 HQ.out.2.1
    have p2 : wr.cell? ⟨w.heap.size, 2, none⟩ = some (.map (some rk)) := cl_kept HI.out.2.2 HQ.out.2.2
    by_cases h1 : i < L.length
    · have i1 : (i : Int) < (L.length : Int) := by omega
      have i0 : (0 : Int) ≤ (i : Int) := by omega
      obtain ⟨zc, _⟩ := HI.out.2.1 i h1
      obtain ⟨lv, hlv⟩ : ∃ lv, lv = part i := ⟨_, rfl⟩
      rw [← hlv] at zc
      have HLV : Hid (lv = part i) := hlv
      clear hlv
      by_cases hneg : lv < 0
      · go_wp2_with (go_at_call 49; refine (CSP.out g i part (c : Int) _ HI.out.2.2 (by rw [HG.out.2]; exact Nat.le_refl _) HI.out.2.1 h1 (by rw [← HLV.out]; exact hneg) (by omega)).mono ?_; rintro e w2 ⟨rfl, R, hSp, hZ2, hD, hb2⟩; have HN : Hid (PInv cr L (lab part (c : Int) R) (i + 1) (c + 1) ∧ ZRow w2 g L.length (lab part (c : Int) R) ∧ Below WE.heap.size WE w2) := ⟨HI.out.1.next HPB.out HND.out h1 (by rw [← HLV.out]; exact hneg) hSp hD, hZ2, hb2⟩; clear hSp hZ2 hD hb2)
        go_roundg (L.length - (i + 1))
        case measure => omega
        case rel => exact ⟨i + 1, c + 1, _, by omega, rfl, by go_num, by go_num, by omega, HN.out⟩
      · go_wp2
        go_roundg (L.length - (i + 1))
        case measure => omega
        case rel => exact ⟨i + 1, c, part, by omega, rfl, by go_num, rfl, by omega, HI.out.1.skip (by rw [← HLV.out]; omega), HI.out.2⟩
    · have i1 : ¬ (i : Int) < (L.length : Int) := by omega
      obtain rfl : i = L.length := by omega
      go_wp2
      go_ret
      exact ⟨g, rfl, part, HI.out.2.1, HI.out.1.done, by have := HG.out.1; omega, bl_via HBW.out HI.out.2.2⟩

theorem max_zero : ∀ (l : List Int) (a : Int), (∀ x ∈ l, 0 ≤ x) → 0 ≤ a → (l.foldl max a = 0 ↔ a = 0 ∧ ∀ x ∈ l, x = 0)
  | [], a, _, _ => by simp
  | x :: r, a, h, ha => by
    have hx := h x (by simp)
    have ih := max_zero r (max a x) (fun y hy => h y (by simp [hy])) (by omega)
    rw [List.foldl_cons, ih]
    constructor
    · rintro ⟨h1, h2⟩
      refine ⟨by omega, fun y hy => ?_⟩
      rcases List.mem_cons.1 hy with rfl | hy
      · omega
      · exact h2 y hy
    · rintro ⟨h1, h2⟩
      refine ⟨?_, fun y hy => h2 y (by simp [hy])⟩
      have := h2 x (by simp)
      omega
theorem maxOf_zero {l : List Int} (hl : l ≠ []) (h : ∀ x ∈ l, 0 ≤ x) : Lib.maxOf l = 0 ↔ ∀ x ∈ l, x = 0 := by
  cases l with
  | nil => exact absurd rfl hl
  | cons a r =>
    unfold Lib.maxOf
    rw [List.headD_cons, max_zero _ _ h (h a (by simp))]
    exact ⟨fun q => q.2, fun q => ⟨q a (by simp), q⟩⟩
/-- All parts are one just where all triangles are joined. -/
theorem parts_joined {L : List (Int × Int × Int)} {part : Nat → Int} (h : PartsOk (fun _ => true) L part) (hnd : L.Nodup) (h0 : 0 < L.length) : (∀ a, a < L.length → part a = 0) ↔ Joined L := by
  obtain ⟨h1, h2, h3, h4⟩ := h
  have hz : part 0 = 0 := by
    rcases Int.lt_or_le 0 (part 0) with q | q
    · obtain ⟨b, hb, _⟩ := h4 0 h0 0 (Int.le_refl _) q
      omega
    · have := h1 0 h0
      omega
  exact reached_joined h0 (fun a => part a = 0) hz (fun a ha q => reach_all.1 (h3 0 a h0 ha (by rw [hz, q]))) (fun a b ha hb q hab => by
    have := h2 a b ha hb ⟨hab.1, hab.2.imp fun _ he => ⟨he.1, he.2, rfl⟩⟩
    omega) hnd

set_option maxRecDepth 100000 in
set_option maxHeartbeats 3200000 in
theorem joined_any (w : World) (cc ra rk : Nat) (ad : Option Addr) (L : List (Int × Int × Int)) (hs : Steps w) (hPA : PA w ad ra L) (hL : L.length ≤ 300) (hnd : L.Nodup) (hbd : ∀ t ∈ L, (0 ≤ t.1 ∧ t.1 ≤ 8) ∧ (0 ≤ t.2.1 ∧ t.2.1 ≤ 8) ∧ (0 ≤ t.2.2 ∧ t.2.2 ≤ 3)) :
    Calls Tryd.prog 23 #[.agg #[.slice ad L.length cc, .map (some ra), .map (some rk)]] w fun e w' => ∃ bb : Bool, e = .returned (.bool bb) ∧ (bb = true ↔ Joined L) ∧ Below w.heap.size w w' := by
  have CP : Hid (∀ wx : World, Below w.heap.size w wx → Calls Tryd.prog 35 #[.agg #[.slice ad L.length cc, .map (some ra), .map (some rk)], .func (.func 36) #[] #[]] wx fun e w' => ∃ g part, e = .returned (.slice (some ⟨g, 0, none⟩) L.length L.length) ∧ ZRow w' g L.length part ∧ PartsOk (fun _ => true) L part ∧ wx.heap.size ≤ g ∧ Below wx.heap.size wx w') := fun wx hb => parts_all wx cc ra rk ad L (fun _ => true) (hs.kept hb) (hPA.kept hb) hL hnd hbd (fun nr q0 q1 q2 q3 qt W' _ => joined1_any nr q0 q1 q2 q3 qt W')
  have HND : Hid (L.Nodup) := hnd
  clear hs hPA hnd hbd
  by_cases h0 : 0 < L.length
  · have i0 : (0 : Int) < (L.length : Int) := by omega
    go_enter Tryd.func23, Tryd.ntmps23
    go_wp2_with (first
      | (go_at_call 35; refine (CP.out _ (by with_reducible exact bl_alloc (bl_refl _))).mono ?_; rintro e w1 ⟨g, part, rfl, hZ, hP, hg, hb⟩; have HW : Hid (ZRow w1 g L.length part ∧ PartsOk (fun _ => true) L part ∧ Below w.heap.size w w1) := ⟨hZ, hP, bl_via (bl_alloc (bl_refl _)) hb⟩; clear hZ hP hb hg)
      | (go_at_call 37; refine (Tryd.slices_Max_int g 0 L.length L.length ((List.range L.length).map part) _ h0 (by simp) (by omega) (fun j hj => by
          have hj' : j < L.length := by simpa using hj
          rw [Nat.zero_add, (HW.out.1 j hj').1]
          simp [hj'])).mono ?_; rintro e w2 ⟨rfl, hw2⟩; have hw3 := hw2.symm; clear hw2; subst hw3))
    go_ret
    have hm : (Lib.maxOf (((List.range L.length).map part).take L.length) = 0) ↔ Joined L := by
      rw [List.take_of_length_le (by simp), maxOf_zero (fun q => by
        have q2 := congrArg List.length q
        rw [List.length_map, List.length_range, List.length_nil] at q2
        omega) (fun x hx => by
        obtain ⟨a, ha, rfl⟩ := List.mem_map.1 hx
        exact HW.out.2.1.1 a (by simpa using ha))]
      rw [← parts_joined HW.out.2.1 HND.out h0]
      constructor
      · intro q a ha
        exact q _ (List.mem_map.2 ⟨a, by simpa using ha, rfl⟩)
      · intro q x hx
        obtain ⟨a, ha, rfl⟩ := List.mem_map.1 hx
        exact q a (by simpa using ha)
    refine ⟨_, rfl, ?_, HW.out.2.2⟩
    rw [← hm]
    simp
  · have i0 : ¬ (0 : Int) < (L.length : Int) := by omega
    go_enter Tryd.func23, Tryd.ntmps23
    go_wp2_with (go_at_call 35; refine (CP.out _ (by with_reducible exact bl_alloc (bl_refl _))).mono ?_; rintro e w1 ⟨g, part, rfl, hZ, hP, hg, hb⟩; have HW : Hid (Below w.heap.size w w1) := bl_via (bl_alloc (bl_refl _)) hb; clear hZ hP hb hg)
    go_ret
    refine ⟨_, rfl, ⟨fun q => ?_, fun q => absurd q.1 h0⟩, HW.out⟩
    first | exact Bool.noConfusion q | (exfalso; simp at q; done) | (exfalso; simp at q; omega)
end Go.Proofs.YtehmoacggikfmaaDoor
