/- The parts of a paper that creases part. -/
import Derived.Test.YtoedcefbmbfnhabDoorSprf
import Derived.Test.YtoedcefbmbfnhabDoorPkal
namespace Go.Proofs.YtoedcefbmbfnhabDoor
open Go.RowKit Go.ChangeMaps

set_option maxRecDepth 100000 in
set_option maxHeartbeats 3200000 in
theorem parts_faces (w : World) (cc ra rk : Nat) (ad : Option Addr) (L : List (Int × Int × Int)) (pb : Nat) (cr : Int × Int × Int × Int → Bool) (hs : Steps w) (hPA : PA w ad ra L) (hL : L.length ≤ 300) (hnd : L.Nodup) (hbd : ∀ t ∈ L, (0 ≤ t.1 ∧ t.1 ≤ 8) ∧ (0 ≤ t.2.1 ∧ t.2.1 ≤ 8) ∧ (0 ≤ t.2.2 ∧ t.2.2 ≤ 3))
    (hCL : ∀ (q0 q1 q2 q3 : Int) (W' : World), Below w.heap.size w W' → Calls Tryd.prog 76 #[.agg #[.int .i64 q0, .int .i64 q1, .int .i64 q2, .int .i64 q3], .pointer (some ⟨pb, 0, none⟩)] W' fun e w' => e = .returned (.bool (cr (q0, q1, q2, q3))) ∧ Below W'.heap.size W' w') :
    Calls Tryd.prog 71 #[.agg #[.slice ad L.length cc, .map (some ra), .map (some rk)], .func (.func 76) #[] #[.pointer (some ⟨pb, 0, none⟩)]] w fun e w' => ∃ g part, e = .returned (.slice (some ⟨g, 0, none⟩) L.length L.length) ∧ ZRow w' g L.length part ∧ PartsOk cr L part ∧ w.heap.size ≤ g ∧ Below w.heap.size w w' := by
  have hbE : Below w.heap.size w ((w.alloc (.cells #[.slice ad L.length cc, .map (some ra), .map (some rk)] 63)).alloc (.cells #[.int .i64 (-1)] 3)) := bl_alloc (bl_alloc (bl_refl _))
  have CSP : Hid (∀ (g f : Nat) (part : Nat → Int) (num : Int) (wx : World), Below ((w.alloc (.cells #[.slice ad L.length cc, .map (some ra), .map (some rk)] 63)).alloc (.cells #[.int .i64 (-1)] 3)).heap.size ((w.alloc (.cells #[.slice ad L.length cc, .map (some ra), .map (some rk)] 63)).alloc (.cells #[.int .i64 (-1)] 3)) wx → ((w.alloc (.cells #[.slice ad L.length cc, .map (some ra), .map (some rk)] 63)).alloc (.cells #[.int .i64 (-1)] 3)).heap.size ≤ g → ZRow wx g L.length part → f < L.length → part f < 0 → (0 ≤ num ∧ num ≤ 1000) → Calls Tryd.prog 92 #[.agg #[.slice ad L.length cc, .map (some ra), .map (some rk)], .slice (some ⟨g, 0, none⟩) L.length L.length, .int .i64 (f : Int), .int .i64 num, .func (.func 76) #[] #[.pointer (some ⟨pb, 0, none⟩)]] wx fun e w' => e = .returned (.tuple #[]) ∧ ∃ R, Sp cr L part f R ∧ ZRow w' g L.length (lab part num R) ∧ (∀ i ∈ R, ∀ h : i < L.length, DoneT cr L part R L[i] 3) ∧ Below ((w.alloc (.cells #[.slice ad L.length cc, .map (some ra), .map (some rk)] 63)).alloc (.cells #[.int .i64 (-1)] 3)).heap.size ((w.alloc (.cells #[.slice ad L.length cc, .map (some ra), .map (some rk)] 63)).alloc (.cells #[.int .i64 (-1)] 3)) w') := fun g f part num wx h1 h2 h3 h4 h5 h6 =>
    spread_faces ((w.alloc (.cells #[.slice ad L.length cc, .map (some ra), .map (some rk)] 63)).alloc (.cells #[.int .i64 (-1)] 3)) wx g cc ra rk f ad L part num pb cr (hs.kept hbE) (hPA.kept hbE) h1 h2 h3 h4 h5 h6 hL hnd hbd (fun q0 q1 q2 q3 W' hW' => hCL q0 q1 q2 q3 W' (bl_via hbE hW'))
  have HPB : Hid (∀ t ∈ L, Kd t) := fun t ht => (hbd t ht).2.2
  have HND : Hid (L.Nodup) := hnd
  clear hs hPA hbE hnd hbd hCL
  go_enter Tryd.func71, Tryd.ntmps71
  go_wp2_with (go_at_call 91; refine (repeat_any (-1) (w.heap.size + 1) L.length _ (by omega) (by simp [go_sem])).mono ?_; rintro e w1 ⟨rfl, hrow, hb⟩; have HW1 : Hid (ZRow w1 ((w.alloc (.cells #[.slice ad L.length cc, .map (some ra), .map (some rk)] 63)).alloc (.cells #[.int .i64 (-1)] 3)).heap.size L.length (fun _ => -1) ∧ Below ((w.alloc (.cells #[.slice ad L.length cc, .map (some ra), .map (some rk)] 63)).alloc (.cells #[.int .i64 (-1)] 3)).heap.size ((w.alloc (.cells #[.slice ad L.length cc, .map (some ra), .map (some rk)] 63)).alloc (.cells #[.int .i64 (-1)] 3)) w1) := ⟨rp_zrow hrow, hb⟩; have p0 : w1.cell? ⟨w.heap.size, 0, none⟩ = some (.slice ad L.length cc) := cl_kept hb (by simp [go_sem]); clear hrow hb)
  obtain ⟨WE, hWE⟩ : ∃ W, W = ((w.alloc (.cells #[.slice ad L.length cc, .map (some ra), .map (some rk)] 63)).alloc (.cells #[.int .i64 (-1)] 3)) := ⟨_, rfl⟩
  have q0 : WE.cell? ⟨w.heap.size, 0, none⟩ = some (.slice ad L.length cc) := by rw [hWE]; simp [go_sem]
  have q1 : WE.cell? ⟨w.heap.size, 1, none⟩ = some (.map (some ra)) := by rw [hWE]; simp [go_sem]
  have q2 : WE.cell? ⟨w.heap.size, 2, none⟩ = some (.map (some rk)) := by rw [hWE]; simp [go_sem]
  have hz : WE.heap.size = w.heap.size + 2 := by rw [hWE]; simp
  have HBW : Hid (Below w.heap.size w WE) := by rw [hWE]; exact bl_alloc (bl_alloc (bl_refl _))
  rw [← hWE] at CSP HW1
  have HQ : Hid (WE.cell? ⟨w.heap.size, 0, none⟩ = some (.slice ad L.length cc) ∧ WE.cell? ⟨w.heap.size, 1, none⟩ = some (.map (some ra)) ∧ WE.cell? ⟨w.heap.size, 2, none⟩ = some (.map (some rk))) := ⟨q0, q1, q2⟩
  obtain ⟨g, hg⟩ : ∃ g, g = w.heap.size + 1 + 1 := ⟨_, rfl⟩
  rw [show WE.heap.size = g by omega] at HW1
  have HG : Hid (g = w.heap.size + 1 + 1 ∧ WE.heap.size = g) := ⟨hg, by omega⟩
  rw [← hg]
  clear hWE q0 q1 q2 hg hz
  go_wp2
  go_loopg [6, 16] L.length (fun gk s6 s16 wx => ∃ (i : Nat) (c : Nat) (part : Nat → Int), i ≤ L.length ∧ gk = L.length - i ∧ s16 = .int .i64 (i : Int) ∧ s6 = .int .i64 (c : Int) ∧ c ≤ i ∧ PInv cr L part i c ∧ ZRow wx g L.length part ∧ Below WE.heap.size WE wx)
  case atStart => exact ⟨0, 0, _, by omega, rfl, rfl, rfl, by omega, pinv_start _ _, HW1.out.1, by rw [HG.out.2]; exact HW1.out.2⟩
  case round =>
    clear HW1 p0
    obtain ⟨i, c, part, hi, rfl, rfl, rfl, hci, hI, hZ, hB⟩ := hrel
    have HI : Hid (PInv cr L part i c ∧ ZRow wr g L.length part ∧ Below WE.heap.size WE wr) := ⟨hI, hZ, hB⟩
    clear hI hZ hB
    have p0 : wr.cell? ⟨w.heap.size, 0, none⟩ = some (.slice ad L.length cc) := cl_kept HI.out.2.2 HQ.out.1
    have p1 : wr.cell? ⟨w.heap.size, 1, none⟩ = some (.map (some ra)) := cl_kept HI.out.2.2 HQ.out.2.1
    have p2 : wr.cell? ⟨w.heap.size, 2, none⟩ = some (.map (some rk)) := cl_kept HI.out.2.2 HQ.out.2.2
    by_cases h1 : i < L.length
    · have i1 : (i : Int) < (L.length : Int) := by omega
      have i0 : (0 : Int) ≤ (i : Int) := by omega
      obtain ⟨zc, _⟩ := HI.out.2.1 i h1
      obtain ⟨lv, hlv⟩ : ∃ lv, lv = part i := ⟨_, rfl⟩
      rw [← hlv] at zc
      have HLV : Hid (lv = part i) := hlv
      clear hlv
      by_cases hneg : lv < 0
      · go_wp2_with (go_at_call 92; refine (CSP.out g i part (c : Int) _ HI.out.2.2 (by rw [HG.out.2]; exact Nat.le_refl _) HI.out.2.1 h1 (by rw [← HLV.out]; exact hneg) (by omega)).mono ?_; rintro e w2 ⟨rfl, R, hSp, hZ2, hD, hb2⟩; have HN : Hid (PInv cr L (lab part (c : Int) R) (i + 1) (c + 1) ∧ ZRow w2 g L.length (lab part (c : Int) R) ∧ Below WE.heap.size WE w2) := ⟨HI.out.1.next HPB.out HND.out h1 (by rw [← HLV.out]; exact hneg) hSp hD, hZ2, hb2⟩; clear hSp hZ2 hD hb2)
        go_roundg (L.length - (i + 1))
        case measure => omega
        case rel => exact ⟨i + 1, c + 1, _, by omega, rfl, by go_num, by go_num, by omega, HN.out⟩
      · go_wp2
        go_roundg (L.length - (i + 1))
        case measure => omega
        case rel => exact ⟨i + 1, c, part, by omega, rfl, by go_num, rfl, by omega, HI.out.1.skip (by rw [← HLV.out]; omega), HI.out.2⟩
    · have i1 : ¬ (i : Int) < (L.length : Int) := by omega
      obtain rfl : i = L.length := by omega
      go_wp2
      go_ret
      exact ⟨g, rfl, part, HI.out.2.1, HI.out.1.done, by have := HG.out.1; omega, bl_via HBW.out HI.out.2.2⟩

end Go.Proofs.YtoedcefbmbfnhabDoor
