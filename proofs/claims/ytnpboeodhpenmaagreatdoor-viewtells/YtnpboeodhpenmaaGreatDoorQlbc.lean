/- A part of the proof of viewTells_holds. -/
import Derived.Test.YtnpboeodhpenmaaGreatDoorQlae
import Derived.Laws.CopyOwn
import Derived.Deep.RegionHeld3
import Derived.Test.YtnpboeodhpenmaaGreatDoorQlbb
namespace Go.Proofs.YtnpboeodhpenmaaGreatDoor
open Go.RowKit

theorem mul_one_any (n : Nat) (h : n ≤ 1000000) (w : World) : Calls Tryz.prog 248 #[.int .u64 1, .int .u64 (n : Int)] w fun e w' => e = .returned (.tuple #[.int .u64 0, .int .u64 (n : Int)]) ∧ w' = w := by
  have := Tryz.bits_Mul 1 n (by omega) (by omega) w
  have e1 : 1 * n / 18446744073709551616 = 0 := by omega
  have e2 : 1 * n % 18446744073709551616 = n := by omega
  rw [e1, e2] at this
  exact this

/-- A row whose first m cells hold a number, the others nought. -/
def rp (z : Int) (m n : Nat) : List Value := List.replicate m (.int .i64 z) ++ List.replicate (n - m) (.int .i64 0)
theorem rp_len (z : Int) {m n : Nat} (h : m ≤ n) : (rp z m n).length = n := by simp [rp]; omega
theorem rp_splice (z : Int) {m c n : Nat} (_h : m + c ≤ n) : splice (rp z m n) m (List.replicate c (.int .i64 z)) = rp z (m + c) n := by
  unfold splice rp
  have e1 : List.take m (List.replicate m (Value.int .i64 z) ++ List.replicate (n - m) (Value.int .i64 0)) = List.replicate m (Value.int .i64 z) := by
    rw [List.take_append_of_le_length (by simp)]
    simp
  have e2 : List.drop (m + (List.replicate c (Value.int .i64 z)).length) (List.replicate m (Value.int .i64 z) ++ List.replicate (n - m) (Value.int .i64 0)) = List.replicate (n - (m + c)) (Value.int .i64 0) := by
    rw [List.drop_append, List.drop_eq_nil_of_le (by simp), List.nil_append, List.drop_replicate]
    congr 1
    simp
    omega
  rw [e1, e2, ← List.append_assoc, List.replicate_append_replicate]
theorem rp_cell {w : World} {g n : Nat} {z : Int} {m : Nat} (h : w.heap[g]? = some (.cells (rp z m n).toArray 3 (0, 0))) {c : Nat} (hc : c ≤ m) : ∀ j v, (List.replicate c (Value.int .i64 z))[j]? = some v → w.cell? ((⟨g, 0, none⟩ : Addr).add j) = some v := by
  intro j v hv
  have hj : j < c := by
    rcases Nat.lt_or_ge j c with hj | hj
    · exact hj
    · rw [List.getElem?_eq_none (by simpa using hj)] at hv
      cases hv
  have hv' : v = .int .i64 z := by
    rw [List.getElem?_eq_getElem (by simpa using hj)] at hv
    simpa using hv.symm
  subst hv'
  have ha : (⟨g, 0, none⟩ : Addr).add j = ⟨g, j, none⟩ := by unfold Addr.add; split <;> simp_all
  rw [ha]
  simp [World.cell?, h, rp]
  rw [List.getElem?_append_left (by simp; omega)]
  rw [List.getElem?_replicate, if_pos (by omega)]
theorem rep_one (c : Nat) (z : Int) : ∀ v ∈ List.replicate c (Value.int .i64 z), v.oneCell' = true := by
  intro v hv
  rw [List.eq_of_mem_replicate hv]
  rfl

theorem made_row {w : World} {base g n : Nat} (ho : w.ownsRow base 3 1 (.slice (some ⟨g, 0, none⟩) n n) n (madeCells #[Value.int .i64 0] n).toList) : w.heap[g]? = some (.cells (List.replicate n (Value.int .i64 0)).toArray 3 (0, 0)) := by
  rcases ho.2 with ⟨e, _⟩ | ⟨g', cap, cur, e, h2, h3, h4, h5, h6, h7⟩
  · cases e
  · simp only [Value.slice.injEq, Option.some.injEq, Addr.mk.injEq, and_true, true_and] at e
    obtain ⟨rfl, rfl⟩ := e
    have h8 : cur.toList = List.replicate n (Value.int .i64 0) := by
      rw [Nat.mul_one, List.take_of_length_le (by rw [Array.length_toList]; omega)] at h7
      rw [h7]
      apply List.ext_getElem
      · simp [madeCells]
      · intro i h1 h2
        simp [madeCells, Nat.mod_one]
    rw [h3, ← h8]

set_option maxRecDepth 100000 in
set_option maxHeartbeats 3200000 in
theorem repeat_any (z : Int) (sb n : Nat) (w : World) (hn : n ≤ 1000000) (hc : w.cell? ⟨sb, 0, none⟩ = some (.int .i64 z)) :
    Calls Tryz.prog 167 #[.slice (some ⟨sb, 0, none⟩) 1 1, .int .i64 (n : Int)] w fun e w' => e = .returned (.slice (some ⟨w.heap.size, 0, none⟩) n n) ∧ w'.heap[w.heap.size]? = some (.cells (rp z n n).toArray 3 (0, 0)) ∧ Below w.heap.size w w' := by
  obtain ⟨i3, hi3, hz0, hz1, hz2⟩ := info_parts inf3
  have HI3 : Hid (Tryz.prog.info? 3 = some i3 ∧ i3.zero = some (.int .i64 0) ∧ i3.size = 1 ∧ i3.bytes = 8) := ⟨hi3, hz0, hz1, hz2⟩
  have hsz : (Tryz.prog.info? 3).map (fun i => i.size) = some 1 := by rw [hi3]; simp [hz1]
  have HSZ : Hid ((Tryz.prog.info? 3).map (fun i => i.size) = some 1) := hsz
  clear hi3 hz0 hz1 hz2 hsz
  have n0 : (0 : Int) ≤ (n : Int) := by omega
  have n1 : (n : Int) ≤ 1000000 := by omega
  go_enter Tryz.func167, Tryz.ntmps167
  go_wp2_with (first
    | (go_at_call 248; refine (mul_one_any n hn _).mono ?_; rintro e w' ⟨rfl, hw⟩; have hw2 := hw.symm; clear hw; subst hw2)
    | (at_make; refine wpList_make_full _ rfl (.tmp 29) (.tmp 29) 22 rfl w.heap.size 3 i3 (.int .i64 0) 1 Tryz.underlying22 HI3.out.1 HI3.out.2.1 HI3.out.2.2.1 .i64 .i64 _ _ n rfl rfl rfl rfl ?b2 ?b3 ?b4 ?mk))
  case b2 =>
    rw [HI3.out.2.2.2]
    omega
  case b3 =>
    unfold maxLen
    omega
  case b4 => exact Nat.le_refl _
  case mk =>
    intro w2 ho hg
    have hbel : Below w.heap.size w w2 := (Below.refl _ _).grown hg (Nat.le_refl _) (fun k h => by cases h)
    have hrow : w2.heap[w.heap.size]? = some (.cells (rp z 0 n).toArray 3 (0, 0)) := by simpa [rp] using made_row ho
    clear ho hg
    have HB : Hid (Below w.heap.size w w2 ∧ w2.heap[w.heap.size]? = some (.cells (rp z 0 n).toArray 3 (0, 0))) := ⟨hbel, hrow⟩
    have hc2 : w2.cell? ⟨sb, 0, none⟩ = some (.int .i64 z) := cl_kept hbel hc
    have HC2 : Hid (w2.cell? ⟨sb, 0, none⟩ = some (.int .i64 z)) := hc2
    clear hbel hrow hc hc2
    obtain ⟨c, hcc⟩ : ∃ c, c = Nat.min 1 n := ⟨_, rfl⟩
    have hc1 : c ≤ 1 := by rw [hcc]; exact Nat.min_le_left _ _
    have hcn : c ≤ n := by rw [hcc]; exact Nat.min_le_right _ _
    have hcp : n = 0 ∨ c = 1 := by
      rcases Nat.eq_zero_or_pos n with h | h
      · exact Or.inl h
      · exact Or.inr (by rw [hcc]; exact Nat.min_eq_left h)
    have HPO : Hid (0 < (List.replicate c (Value.int .i64 z)).length → (some (⟨w.heap.size, 0, none⟩ : Addr)) = some ⟨w.heap.size, 0, none⟩ ∧ ∃ ad, (some (⟨sb, 0, none⟩ : Addr)) = some ad ∧ ∀ j v, (List.replicate c (Value.int .i64 z))[j]? = some v → w2.cell? (ad.add j) = some v) := fun _ => ⟨rfl, _, rfl, fun j v hv => by
      have hj : j < c := by
        rcases Nat.lt_or_ge j c with hj | hj
        · exact hj
        · rw [List.getElem?_eq_none (by simpa using hj)] at hv
          cases hv
      obtain rfl : j = 0 := by omega
      rw [List.getElem?_replicate, if_pos hj] at hv
      rw [← hv]
      simpa [Addr.add] using HC2.out⟩
    go_wp2_with (refine wpList_copy_splice (by rfl) (.tmp 31) (.tmp 32) 22 22 (by rfl) 3 Tryz.underlying22 HSZ.out (some ⟨w.heap.size, 0, none⟩) (some ⟨sb, 0, none⟩) n n 1 1 (by rfl) (by rfl) w.heap.size 0 (rp z 0 n) 3 HB.out.2 (List.replicate c (.int .i64 z)) (by rw [List.length_replicate]; exact hcc) HPO.out (by rw [List.length_replicate, rp_len z (Nat.zero_le n)]; omega) (rep_one c z) w.heap.size w HB.out.1 (Nat.le_refl _) ?_; intro w3 HG3 hb3)
    have HG : Hid (w3.heap[w.heap.size]? = some (.cells (rp z c n).toArray 3 (0, 0)) ∧ Below w.heap.size w w3) := by
      have := HG3.out
      rw [rp_splice z (by omega), Nat.zero_add] at this
      exact ⟨this, hb3⟩
    have HCC : Hid (c = Nat.min 1 n) := hcc
    clear HG3 hb3 HB HC2 hcc
    go_loopg [8] n (fun gk s8 wx => ∃ m : Nat, m ≤ n ∧ n - m ≤ gk ∧ s8 = .int .i64 (m : Int) ∧ (n = 0 ∨ 1 ≤ m) ∧ wx.heap[w.heap.size]? = some (.cells (rp z m n).toArray 3 (0, 0)) ∧ Below w.heap.size w wx)
    case atStart => exact ⟨c, hcn, by omega, by rw [HCC.out], hcp.imp id (fun h => by omega), HG.out⟩
    case round =>
      clear hcn hcp hc1 HG
      obtain ⟨m, hm, hgk, rfl, hm1, hr, hB⟩ := hrel
      have HR : Hid (wr.heap[w.heap.size]? = some (.cells (rp z m n).toArray 3 (0, 0)) ∧ Below w.heap.size w wr) := ⟨hr, hB⟩
      clear hr hB
      by_cases h1 : m < n
      · have i1 : (m : Int) < (n : Int) := by omega
        have i0 : (0 : Int) ≤ (m : Int) := by omega
        have i2 : (m : Int) ≤ (n : Int) := by omega
        obtain ⟨k, hk⟩ : ∃ k, k = Nat.min m (n - m) := ⟨_, rfl⟩
        have hk1 : k ≤ m := by rw [hk]; exact Nat.min_le_left _ _
        have hk2 : k ≤ n - m := by rw [hk]; exact Nat.min_le_right _ _
        have hk3 : 1 ≤ k := by rw [hk]; exact Nat.le_min.2 ⟨by omega, by omega⟩
        have hnm : ¬ n = m := by omega
        have HK : Hid (k = Nat.min m (n - m)) := hk
        clear hk
        go_wp2
        go_region_held3 (fun _ => True) (trivial) (((refine step_copy_splice (by rfl) (.tmp 41) (.tmp 44) 22 22 (by rfl) 3 Tryz.underlying22 HSZ.out (some ⟨w.heap.size, m, none⟩) (some ⟨w.heap.size, 0, none⟩) (n - m) (n - m) m n (by rfl) (by rfl) w.heap.size m (rp z m n) 3 HR.out.1 (List.replicate k (.int .i64 z)) (by rw [List.length_replicate]; exact HK.out) (fun _ => ⟨rfl, _, rfl, rp_cell HR.out.1 hk1⟩) (by rw [List.length_replicate, rp_len z hm]; omega) (rep_one k z) w.heap.size w (bl_drew HR.out.2) (Nat.le_refl _) ?_; intro w3 HG3 hb3)))
        all_goals
          go_wp2
          go_roundg (n - (m + k))
          case measure => omega
          case rel =>
            refine ⟨m + k, by omega, by omega, (congrArg _ (by first | omega | (rw [IntKind.wrap_i64]; omega))), Or.inr (by omega), ?_, hb3⟩
            have := HG3.out
            rw [rp_splice z (by omega)] at this
            exact this
      · have i1 : ¬ (m : Int) < (n : Int) := by omega
        obtain rfl : m = n := by omega
        go_wp2
        go_ret
        exact ⟨rfl, HR.out⟩

set_option maxRecDepth 100000 in
set_option maxHeartbeats 1600000 in
theorem picture_no (W H k : Int) (a c m s : Option Addr) (zl ca cn cc mn mc sl sc : Nat) (u : Value) (w : World) (hk : k ≠ 0)
    (CT : Hid (∀ V : World, Below w.heap.size w V → Calls Tryz.prog 21 #[.agg #[.int .i64 W, .int .i64 H, .slice a zl ca, .slice c cn cc, .slice m mn mc, .slice s sl sc]] V fun e w' => e = .returned (.tuple #[u, .int .i64 k]) ∧ Below V.heap.size V w')) :
    Calls Tryz.prog 23 #[.agg #[.int .i64 W, .int .i64 H, .slice a zl ca, .slice c cn cc, .slice m mn mc, .slice s sl sc]] w fun e w' => e = .returned (.tuple #[.string ⟨#[]⟩, .int .i64 k]) ∧ Below w.heap.size w w' := by
  have q : (k != 0) = true := by simpa using hk
  go_enter Tryz.func23, Tryz.ntmps23
  go_wp2_with (go_at_call 21; refine (CT.out _ (bl_alloc (bl_refl _))).mono ?_; rintro e w1 ⟨rfl, hb⟩; have HB : Hid (Below w.heap.size w w1) := bl_via (bl_alloc (bl_refl _)) hb; clear hb)
  refine bodyPost_ret (v := .tuple #[_, _]) (by simp [results, Tryz.results23, go_sem]) rfl ⟨rfl, ?_⟩
  exact HB.out
set_option maxRecDepth 100000 in
set_option maxHeartbeats 1600000 in
theorem picture_ok (W H : Int) (a c m s : Option Addr) (zl ca cn cc mn mc sl sc n : Nat) (p : ByteArray) (R : World → Option Addr → Prop) (w : World)
    (CT : Hid (∀ V : World, Below w.heap.size w V → Calls Tryz.prog 21 #[.agg #[.int .i64 W, .int .i64 H, .slice a zl ca, .slice c cn cc, .slice m mn mc, .slice s sl sc]] V fun e w' => ∃ (b : Option Addr) (bc : Nat), e = .returned (.tuple #[.slice b n bc, .int .i64 0]) ∧ R w' b ∧ Below V.heap.size V w'))
    (CD : Hid (∀ (b : Option Addr) (bc : Nat) (V : World), Below w.heap.size w V → R V b → Calls Tryz.prog 73 #[.slice b n bc] V fun e w' => e = .returned (.string p) ∧ Below V.heap.size V w')) :
    Calls Tryz.prog 23 #[.agg #[.int .i64 W, .int .i64 H, .slice a zl ca, .slice c cn cc, .slice m mn mc, .slice s sl sc]] w fun e w' => e = .returned (.tuple #[.string p, .int .i64 0]) ∧ Below w.heap.size w w' := by
  go_enter Tryz.func23, Tryz.ntmps23
  go_wp2_with (first | (go_at_call 21; refine (CT.out _ (bl_alloc (bl_refl _))).mono ?_; rintro e w1 ⟨b, bc, rfl, hr, hb⟩; have HB : Hid (Below w.heap.size w w1 ∧ R w1 b) := ⟨bl_via (bl_alloc (bl_refl _)) hb, hr⟩; clear hb hr) | (go_at_call 73; refine (CD.out _ _ _ HB.out.1 HB.out.2).mono ?_; rintro e w2 ⟨rfl, hb2⟩) | fail)
  refine bodyPost_ret (v := .tuple #[_, _]) (by simp [results, Tryz.results23, go_sem]) rfl ⟨rfl, ?_⟩
  exact bl_via HB.out.1 hb2

/-- The places lie apart. -/
def SnAp (l : List ((Int × Int × Int) × (Int × Int × Int) × Bool)) : Prop := ∀ i j, i < j → j < l.length → (sn l i).1 ≠ (sn l j).1
/-- The rows rise. -/
def SnUp (l : List ((Int × Int × Int) × (Int × Int × Int) × Bool)) : Prop := ∀ i j, i ≤ j → j < l.length → sy l i ≤ sy l j
theorem cv_parts {l : List ((Int × Int × Int) × (Int × Int × Int) × Bool)} (hk : ∀ i, i < l.length → 0 ≤ (sn l i).1.2.2 ∧ (sn l i).1.2.2 ≤ 3) (hd : SnAp l) (x y : Int) : ∀ i, i ≤ l.length → ∃ b0 b1 b2 b3 d0 d1 d2 d3 : Int, ((0 ≤ d0 ∧ d0 ≤ b0 ∧ b0 ≤ 1) ∧ (0 ≤ d1 ∧ d1 ≤ b1 ∧ b1 ≤ 1) ∧ (0 ≤ d2 ∧ d2 ≤ b2 ∧ b2 ≤ 1) ∧ (0 ≤ d3 ∧ d3 ≤ b3 ∧ b3 ≤ 1)) ∧ (cvF l x y i = b0 + 2 * b1 + 4 * b2 + 8 * b3 ∧ bkF l x y i = d0 + 2 * d1 + 4 * d2 + 8 * d3) ∧ (b0 ≠ 0 → ∃ j, j < i ∧ (sn l j).1 = (x, y, 0)) ∧ (b1 ≠ 0 → ∃ j, j < i ∧ (sn l j).1 = (x, y, 1)) ∧ (b2 ≠ 0 → ∃ j, j < i ∧ (sn l j).1 = (x, y, 2)) ∧ (b3 ≠ 0 → ∃ j, j < i ∧ (sn l j).1 = (x, y, 3))
  | 0, _ => ⟨0, 0, 0, 0, 0, 0, 0, 0, by omega, ⟨rfl, rfl⟩, fun h => absurd rfl h, fun h => absurd rfl h, fun h => absurd rfl h, fun h => absurd rfl h⟩
  | i + 1, hi => by
    obtain ⟨b0, b1, b2, b3, d0, d1, d2, d3, ⟨r0, r1, r2, r3⟩, ⟨hc, hb⟩, w0, w1, w2, w3⟩ := cv_parts hk hd x y i (by omega)
    have ⟨k0, k3⟩ := hk i (by omega)
    show ∃ b0 b1 b2 b3 d0 d1 d2 d3 : Int, ((0 ≤ d0 ∧ d0 ≤ b0 ∧ b0 ≤ 1) ∧ (0 ≤ d1 ∧ d1 ≤ b1 ∧ b1 ≤ 1) ∧ (0 ≤ d2 ∧ d2 ≤ b2 ∧ b2 ≤ 1) ∧ (0 ≤ d3 ∧ d3 ≤ b3 ∧ b3 ≤ 1)) ∧ ((if (sn l i).1.1 = x ∧ (sn l i).1.2.1 = y then cvF l x y i + pw (sn l i).1.2.2 else cvF l x y i) = b0 + 2 * b1 + 4 * b2 + 8 * b3 ∧ (if (sn l i).1.1 = x ∧ (sn l i).1.2.1 = y then (if (sn l i).2.2 = true then bkF l x y i + pw (sn l i).1.2.2 else bkF l x y i) else bkF l x y i) = d0 + 2 * d1 + 4 * d2 + 8 * d3) ∧ (b0 ≠ 0 → ∃ j, j < i + 1 ∧ (sn l j).1 = (x, y, 0)) ∧ (b1 ≠ 0 → ∃ j, j < i + 1 ∧ (sn l j).1 = (x, y, 1)) ∧ (b2 ≠ 0 → ∃ j, j < i + 1 ∧ (sn l j).1 = (x, y, 2)) ∧ (b3 ≠ 0 → ∃ j, j < i + 1 ∧ (sn l j).1 = (x, y, 3))
    by_cases h : (sn l i).1.1 = x ∧ (sn l i).1.2.1 = y
    · rw [if_pos h, if_pos h, hc, hb]
      have apart : ∀ k : Int, (sn l i).1.2.2 = k → ¬ ∃ j, j < i ∧ (sn l j).1 = (x, y, k) := fun k ek ⟨j, hj, e⟩ => hd j i hj (by omega) (by
        rw [e, ← h.1, ← h.2, ← ek])
      have here : ∀ k : Int, (sn l i).1.2.2 = k → (sn l i).1 = (x, y, k) := fun k ek => by rw [← h.1, ← h.2, ← ek]
      have four : (sn l i).1.2.2 = 0 ∨ (sn l i).1.2.2 = 1 ∨ (sn l i).1.2.2 = 2 ∨ (sn l i).1.2.2 = 3 := by omega
      rcases four with e | e | e | e
      · have z : b0 = 0 := Classical.byContradiction fun hz => apart 0 e (w0 hz)
        have ep : pw (sn l i).1.2.2 = 1 := by rw [e]; rfl
        rw [ep]
        by_cases hs : (sn l i).2.2 = true
        · rw [if_pos hs]
          exact ⟨1, b1, b2, b3, 1, d1, d2, d3, by omega, ⟨by omega, by omega⟩, fun _ => ⟨i, by omega, here 0 e⟩, fun h => (w1 h).imp fun j hj => ⟨by omega, hj.2⟩, fun h => (w2 h).imp fun j hj => ⟨by omega, hj.2⟩, fun h => (w3 h).imp fun j hj => ⟨by omega, hj.2⟩⟩
        · rw [if_neg hs]
          exact ⟨1, b1, b2, b3, 0, d1, d2, d3, by omega, ⟨by omega, by omega⟩, fun _ => ⟨i, by omega, here 0 e⟩, fun h => (w1 h).imp fun j hj => ⟨by omega, hj.2⟩, fun h => (w2 h).imp fun j hj => ⟨by omega, hj.2⟩, fun h => (w3 h).imp fun j hj => ⟨by omega, hj.2⟩⟩
      · have z : b1 = 0 := Classical.byContradiction fun hz => apart 1 e (w1 hz)
        have ep : pw (sn l i).1.2.2 = 2 := by rw [e]; rfl
        rw [ep]
        by_cases hs : (sn l i).2.2 = true
        · rw [if_pos hs]
          exact ⟨b0, 1, b2, b3, d0, 1, d2, d3, by omega, ⟨by omega, by omega⟩, fun h => (w0 h).imp fun j hj => ⟨by omega, hj.2⟩, fun _ => ⟨i, by omega, here 1 e⟩, fun h => (w2 h).imp fun j hj => ⟨by omega, hj.2⟩, fun h => (w3 h).imp fun j hj => ⟨by omega, hj.2⟩⟩
        · rw [if_neg hs]
          exact ⟨b0, 1, b2, b3, d0, 0, d2, d3, by omega, ⟨by omega, by omega⟩, fun h => (w0 h).imp fun j hj => ⟨by omega, hj.2⟩, fun _ => ⟨i, by omega, here 1 e⟩, fun h => (w2 h).imp fun j hj => ⟨by omega, hj.2⟩, fun h => (w3 h).imp fun j hj => ⟨by omega, hj.2⟩⟩
      · have z : b2 = 0 := Classical.byContradiction fun hz => apart 2 e (w2 hz)
        have ep : pw (sn l i).1.2.2 = 4 := by rw [e]; rfl
        rw [ep]
        by_cases hs : (sn l i).2.2 = true
        · rw [if_pos hs]
          exact ⟨b0, b1, 1, b3, d0, d1, 1, d3, by omega, ⟨by omega, by omega⟩, fun h => (w0 h).imp fun j hj => ⟨by omega, hj.2⟩, fun h => (w1 h).imp fun j hj => ⟨by omega, hj.2⟩, fun _ => ⟨i, by omega, here 2 e⟩, fun h => (w3 h).imp fun j hj => ⟨by omega, hj.2⟩⟩
        · rw [if_neg hs]
          exact ⟨b0, b1, 1, b3, d0, d1, 0, d3, by omega, ⟨by omega, by omega⟩, fun h => (w0 h).imp fun j hj => ⟨by omega, hj.2⟩, fun h => (w1 h).imp fun j hj => ⟨by omega, hj.2⟩, fun _ => ⟨i, by omega, here 2 e⟩, fun h => (w3 h).imp fun j hj => ⟨by omega, hj.2⟩⟩
      · have z : b3 = 0 := Classical.byContradiction fun hz => apart 3 e (w3 hz)
        have ep : pw (sn l i).1.2.2 = 8 := by rw [e]; rfl
        rw [ep]
        by_cases hs : (sn l i).2.2 = true
        · rw [if_pos hs]
          exact ⟨b0, b1, b2, 1, d0, d1, d2, 1, by omega, ⟨by omega, by omega⟩, fun h => (w0 h).imp fun j hj => ⟨by omega, hj.2⟩, fun h => (w1 h).imp fun j hj => ⟨by omega, hj.2⟩, fun h => (w2 h).imp fun j hj => ⟨by omega, hj.2⟩, fun _ => ⟨i, by omega, here 3 e⟩⟩
        · rw [if_neg hs]
          exact ⟨b0, b1, b2, 1, d0, d1, d2, 0, by omega, ⟨by omega, by omega⟩, fun h => (w0 h).imp fun j hj => ⟨by omega, hj.2⟩, fun h => (w1 h).imp fun j hj => ⟨by omega, hj.2⟩, fun h => (w2 h).imp fun j hj => ⟨by omega, hj.2⟩, fun _ => ⟨i, by omega, here 3 e⟩⟩
    · rw [if_neg h, if_neg h]
      exact ⟨b0, b1, b2, b3, d0, d1, d2, d3, ⟨r0, r1, r2, r3⟩, ⟨hc, hb⟩, fun h => (w0 h).imp fun j hj => ⟨by omega, hj.2⟩, fun h => (w1 h).imp fun j hj => ⟨by omega, hj.2⟩, fun h => (w2 h).imp fun j hj => ⟨by omega, hj.2⟩, fun h => (w3 h).imp fun j hj => ⟨by omega, hj.2⟩⟩
theorem cv_bds {l : List ((Int × Int × Int) × (Int × Int × Int) × Bool)} (hk : ∀ i, i < l.length → 0 ≤ (sn l i).1.2.2 ∧ (sn l i).1.2.2 ≤ 3) (hd : SnAp l) (x y : Int) (i : Nat) (hi : i ≤ l.length) : 0 ≤ bkF l x y i ∧ bkF l x y i ≤ cvF l x y i ∧ cvF l x y i ≤ 15 := by
  obtain ⟨b0, b1, b2, b3, d0, d1, d2, d3, ⟨r0, r1, r2, r3⟩, ⟨hc, hb⟩, _⟩ := cv_parts hk hd x y i hi
  omega
/-- What is asked of what is seen: places in bounds that lie apart keep it. -/
theorem snOk_of {l : List ((Int × Int × Int) × (Int × Int × Int) × Bool)} (hb : ∀ i, i < l.length → (-1000000 ≤ sx l i ∧ sx l i ≤ 1000000) ∧ (-1000000 ≤ sy l i ∧ sy l i ≤ 1000000) ∧ 0 ≤ (sn l i).1.2.2 ∧ (sn l i).1.2.2 ≤ 3) (hd : SnAp l) : SnOk l := ⟨hb, fun x y i hi => by
  have := cv_bds (fun i hi => (hb i hi).2.2) hd x y i hi
  omega⟩
theorem bk_none {l : List ((Int × Int × Int) × (Int × Int × Int) × Bool)} (hk : ∀ i, i < l.length → 0 ≤ (sn l i).1.2.2 ∧ (sn l i).1.2.2 ≤ 3) (hd : SnAp l) (x y : Int) (h : cvF l x y l.length = 0) : bkF l x y l.length = 0 := by
  have := cv_bds hk hd x y l.length (Nat.le_refl _)
  omega
theorem mnF_up {l : List ((Int × Int × Int) × (Int × Int × Int) × Bool)} (h : SnUp l) : ∀ i, i ≤ l.length → 0 < l.length → mnF (sy l) i = sy l 0
  | 0, _, _ => rfl
  | i + 1, hi, h0 => by
    have e := mnF_up h i (by omega) h0
    have := h 0 i (by omega) (by omega)
    simp only [mnF]
    rw [e]
    omega
theorem mxF_up {l : List ((Int × Int × Int) × (Int × Int × Int) × Bool)} (h : SnUp l) : ∀ i, i < l.length → mxF (sy l) (i + 1) = sy l i
  | 0, _ => by simp only [mxF]; omega
  | i + 1, hi => by
    have e := mxF_up h i (by omega)
    have := h i (i + 1) (by omega) hi
    have : mxF (sy l) (i + 1 + 1) = if mxF (sy l) (i + 1) < sy l (i + 1) then sy l (i + 1) else mxF (sy l) (i + 1) := rfl
    omega
theorem mn_le_mx (f : Nat → Int) : ∀ i, mnF f i ≤ mxF f i
  | 0 => Int.le_refl _
  | i + 1 => by
    have := mn_le_mx f i
    simp only [mnF, mxF]
    omega
/-- drawn, by what cellsOf, width and letters answer: the picture. -/
theorem drawn_pic (a : Option Addr) (cc n : Nat) (l : List ((Int × Int × Int) × (Int × Int × Int) × Bool)) (w : World) (hs : SnP w a l) (hn : n = l.length) (h0 : 0 < n) (hn3 : n ≤ 300)
    (hb : ∀ i, i < l.length → (-1000000 ≤ sx l i ∧ sx l i ≤ 1000000) ∧ (-1000000 ≤ sy l i ∧ sy l i ≤ 1000000) ∧ 0 ≤ (sn l i).1.2.2 ∧ (sn l i).1.2.2 ≤ 3) (hd : SnAp l) (hu : SnUp l)
    (CC : Hid (∀ V : World, Below w.heap.size w V → Calls Tryz.prog 152 #[.slice a n cc] V fun e w' => ∃ r, e = .returned (.map (some r)) ∧ (∀ (wx : World) (x y : Int), Below w'.heap.size w' wx → (Instr.lookup 230 (.map (some r)) (.agg #[.int .i64 x, .int .i64 y]) false).run Tryz.prog wx = .ok (.agg #[.int .i64 (cvF l x y l.length), .int .i64 (bkF l x y l.length)]) wx) ∧ Below V.heap.size V w'))
    (CW : Hid (∀ V : World, Below w.heap.size w V → Calls Tryz.prog 153 #[.slice a n cc] V fun e w' => e = .returned (.tuple #[.int .i64 (mnF (sx l) l.length), .int .i64 (mxF (sx l) l.length)]) ∧ Below V.heap.size V w'))
    (CL : Hid (∀ (cv bk : Int) (V : World), Below w.heap.size w V → 0 ≤ cv → cv ≤ 15 → 0 ≤ bk → bk ≤ 15 → (cv = 0 → bk = 0) → Calls Tryz.prog 154 #[.agg #[.int .i64 cv, .int .i64 bk]] V fun e w' => e = .returned (.string (clS cv bk)) ∧ Below V.heap.size V w')) :
    Calls Tryz.prog 73 #[.slice a n cc] w fun e w' => e = .returned (.string (pic l)) ∧ Below w.heap.size w w' := by
  have e0 : mnF (sy l) l.length = sy l 0 := mnF_up hu _ (Nat.le_refl _) (by omega)
  have e1 : mxF (sy l) l.length = sy l (n - 1) := by
    have := mxF_up hu (n - 1) (by omega)
    rw [show n - 1 + 1 = l.length by omega] at this
    exact this
  have bn := mnF_in (fun i hi => (hb i hi).1) (by omega : 0 < l.length) l.length (Nat.le_refl _)
  have bx := mxF_in (fun i hi => (hb i hi).1) (by omega : 0 < l.length) l.length (Nat.le_refl _)
  exact drawn_any a cc n l w (mnF (sx l) l.length) (mxF (sx l) l.length) (mnF (sy l) l.length) (mxF (sy l) l.length) (pcW l) (pcH l) hs hn h0 hn3 (snOk_of hb hd) (bk_none (fun i hi => (hb i hi).2.2) hd)
    bn.1 bn.2 bx.2 (mn_le_mx _ _) e0 e1 rfl rfl CC CW CL
    (fun g c xs V hc hg hcap hN hlen => join_any g 0 c xs ⟨#[32]⟩ V (fun j x hx => by rw [Nat.zero_add]; exact hc j x hx) hg (by omega) hcap (by
      have e : (jnB xs).size = (Lib.join (xs.map (·.data.toList)) [32]).length := by simp [jnB, ByteArray.size]
      show (Lib.join (xs.map (·.data.toList)) [32]).length ≤ _
      omega))
    (fun B b bl V h hB => string_any B b bl V h hB)

theorem sn_at (l : List ((Int × Int × Int) × (Int × Int × Int) × Bool)) (i : Nat) (h : i < l.length) : sn l i = l[i] := by
  unfold sn
  rw [List.getD_eq_getElem?_getD, List.getElem?_eq_getElem h]
  rfl
theorem mn_is (f g : Nat → Int) (h0 : g 0 = f 0) (hs : ∀ i, g (i + 1) = min (g i) (f i)) : ∀ i, g i = mnF f i
  | 0 => h0
  | i + 1 => by
    have := mn_is f g h0 hs i
    have := hs i
    have : mnF f (i + 1) = if f i < mnF f i then f i else mnF f i := rfl
    omega
theorem mx_is (f g : Nat → Int) (h0 : g 0 = f 0) (hs : ∀ i, g (i + 1) = max (g i) (f i)) : ∀ i, g i = mxF f i
  | 0 => h0
  | i + 1 => by
    have := mx_is f g h0 hs i
    have := hs i
    have : mxF f (i + 1) = if mxF f i < f i then f i else mxF f i := rfl
    omega
theorem cv_is (l : List ((Int × Int × Int) × (Int × Int × Int) × Bool)) (x y : Int) (c : Nat → Int × Int) (h0 : c 0 = (0, 0))
    (hs : ∀ i, c (i + 1) = if ((sn l i).1.1, (sn l i).1.2.1) = (x, y) then ((c i).1 + pw (sn l i).1.2.2, (c i).2 + if (sn l i).2.2 = true then pw (sn l i).1.2.2 else 0) else c i) : ∀ i, c i = (cvF l x y i, bkF l x y i)
  | 0 => h0
  | i + 1 => by
    have e := cv_is l x y c h0 hs i
    rw [hs i, e]
    simp only [cvF, bkF, Prod.mk.injEq]
    by_cases h : (sn l i).1.1 = x ∧ (sn l i).1.2.1 = y
    · rw [if_pos h, if_pos h, if_pos h]
      by_cases hb : (sn l i).2.2 = true
      · rw [if_pos hb, if_pos hb]
      · rw [if_neg hb, if_neg hb, Int.add_zero]
    · rw [if_neg h, if_neg h, if_neg h]
/-- letters, by what letter answers in worlds that hold T. -/
theorem letters_clS (w : World) (T : World → Prop) (hT : T w) (hK : ∀ V V' : World, T V → Below V.heap.size V V' → T V')
    (LN : ∀ V : World, Calls Tryz.prog 154 #[.agg #[.int .i64 0, .int .i64 0]] V fun e w' => e = .returned (.string ⟨#[46, 46]⟩) ∧ Below V.heap.size V w')
    (LS : ∀ (a b : Int) (sa sb : ByteArray) (V : World), sa.size + sb.size ≤ 100 → ¬ (a = 0 ∧ b = 0) → Hid (∀ U : World, Below V.heap.size V U → Calls Tryz.prog 238 #[.int .i64 a] U fun e w' => e = .returned (.string sa) ∧ Below U.heap.size U w') → Hid (∀ U : World, Below V.heap.size V U → Calls Tryz.prog 238 #[.int .i64 b] U fun e w' => e = .returned (.string sb) ∧ Below U.heap.size U w') → Calls Tryz.prog 154 #[.agg #[.int .i64 a, .int .i64 b]] V fun e w' => e = .returned (.string (sa ++ sb)) ∧ Below V.heap.size V w')
    (LT : ∀ (n : Nat) (V : World), n < 16 → T V → Calls Tryz.prog 238 #[.int .i64 (n : Int)] V fun e w' => e = .returned (.string (hexB n)) ∧ Below V.heap.size V w') :
    Hid (∀ (cv bk : Int) (V : World), Below w.heap.size w V → 0 ≤ cv → cv ≤ 15 → 0 ≤ bk → bk ≤ 15 → (cv = 0 → bk = 0) → Calls Tryz.prog 154 #[.agg #[.int .i64 cv, .int .i64 bk]] V fun e w' => e = .returned (.string (clS cv bk)) ∧ Below V.heap.size V w') := fun cv bk V hV c0 c1 b0 b1 hz => by
  by_cases h : cv = 0
  · rw [hz h, h]
    exact LN V
  · obtain ⟨n, rfl⟩ : ∃ n : Nat, cv = n := ⟨cv.toNat, by omega⟩
    obtain ⟨m, rfl⟩ : ∃ m : Nat, bk = m := ⟨bk.toNat, by omega⟩
    have e : clS (n : Int) (m : Int) = hexB n ++ hexB m := by
      unfold clS
      rw [if_neg h]
      rfl
    rw [e]
    exact LS n m (hexB n) (hexB m) V (by rw [hexB_size, hexB_size]; omega) (fun hh => h hh.1)
      (fun U hU => LT n U (by omega) (hK _ _ (hK _ _ hT hV) hU)) (fun U hU => LT m U (by omega) (hK _ _ (hK _ _ hT hV) hU))

theorem up_of {l : List ((Int × Int × Int) × (Int × Int × Int) × Bool)} (h : ∀ i j, i < j → j < l.length → (sn l i).1.2.1 < (sn l j).1.2.1 ∨ ((sn l i).1.2.1 = (sn l j).1.2.1 ∧ ((sn l i).1.1 < (sn l j).1.1 ∨ ((sn l i).1.1 = (sn l j).1.1 ∧ (sn l i).1.2.2 < (sn l j).1.2.2)))) : SnAp l ∧ SnUp l := by
  refine ⟨fun i j hij hj e => ?_, fun i j hij hj => ?_⟩
  · have := h i j hij hj
    rw [e] at this
    omega
  · rcases Nat.lt_or_eq_of_le hij with q | q
    · have := h i j q hj
      unfold sy
      omega
    · rw [q]
      exact Int.le_refl _
end Go.Proofs.YtnpboeodhpenmaaGreatDoor
