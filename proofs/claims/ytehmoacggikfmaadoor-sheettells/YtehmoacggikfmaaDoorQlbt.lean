/- A sheet's text: the program's way. -/
import Derived.Test.YtehmoacggikfmaaDoorQlbi
import Derived.Test.YtehmoacggikfmaaDoorQlbs
namespace Go.Proofs.YtehmoacggikfmaaDoor
open Go.RowKit

def lnB (ns : List Nat) : ByteArray := ⟨(lnJ ns).toArray⟩
def kdS (k : Int) : ByteArray := ⟨#[kdB k]⟩
theorem lnB_list (ns : List Nat) : (lnB ns).data.toList = lnJ ns := by simp [lnB]
theorem lnB_size {ns : List Nat} (h : ns ≠ []) : (lnB ns).size ≤ 3 * ns.length := by
  rw [bsz, lnB_list]
  exact lnJ_len h
theorem isB_kept {B b : Nat} {bs : List Value} {w w' : World} (h : Lib.IsBuilder 62 5 B b bs w) (hb : Below w.heap.size w w') : Lib.IsBuilder 62 5 B b bs w' := by
  have key : ∀ p, Lib.BuilderAt 62 5 B b p bs w → Lib.BuilderAt 62 5 B b p bs w' := fun p hp => by
    obtain ⟨q1, v, q2, q3, q4⟩ := hp
    exact ⟨q1, v, (hb.block b (Array.getElem?_eq_some_iff.1 q2).1).trans q2, own_below q3 hb, q4⟩
  exact h.imp (key _) (key _)
theorem bcat (l : List UInt8) (s : ByteArray) : Lib.byteCells l ++ Lib.strCells s = Lib.byteCells (l ++ s.data.toList) := by simp [Lib.byteCells, Lib.strCells]
theorem bone (l : List UInt8) (u : UInt8) : Lib.byteCells l ++ [.int .u8 (u.toNat : Int)] = Lib.byteCells (l ++ [u]) := by simp [Lib.byteCells]
theorem ob_al {w : World} {q : Nat} {o x : Obj} (h : w.heap[q]? = some o) : (w.alloc x).heap[q]? = some o := (Lib.alloc_old w x q (Array.getElem?_eq_some_iff.1 h).1).trans h
theorem ob_dr {w : World} {q : Nat} {o : Obj} (h : w.heap[q]? = some o) : w.drew.heap[q]? = some o := h
theorem five_of {w : World} {q : Nat} {c0 c1 c2 c3 c4 : Value} (h : w.heap[q]? = some (.cells #[c0, c1, c2, c3, c4] 48 (0, 0))) : w.heap[q]? = some (.cells #[c0, c1, c2, c3, c4] 48 (0, 0)) ∧ w.cell? ⟨q, 0, none⟩ = some c0 ∧ w.cell? ⟨q, 1, none⟩ = some c1 ∧ w.cell? ⟨q, 2, none⟩ = some c2 ∧ w.cell? ⟨q, 3, none⟩ = some c3 ∧ w.cell? ⟨q, 4, none⟩ = some c4 := by
  refine ⟨h, ?_, ?_, ?_, ?_, ?_⟩ <;> simp [World.cell?, h]

theorem hdT_len (W H : Nat) : (hdT W H).length ≤ 20 := by
  have := dgs_len W
  have := dgs_len H
  simp [hdT]
  omega
theorem rsT_len (zs : List Int) (W H : Nat) : ∀ k, W ≤ 8 → (rsT zs W H k).length ≤ 9 * k
  | 0, _ => by simp [rsT]
  | k + 1, h => by
    have := rsT_len zs W H k h
    simp [rsT, rwT]
    omega
theorem csT_len (ks : List Int) : ∀ i, (csT ks i).length ≤ 15 * i
  | 0 => by simp [csT]
  | i + 1 => by
    have := csT_len ks i
    have := dgs_len (ck ks i 0).toNat
    have := dgs_len (ck ks i 1).toNat
    have := dgs_len (ck ks i 2).toNat
    have := dgs_len (ck ks i 3).toNat
    simp [csT, crT]
    omega

set_option maxRecDepth 100000 in
set_option maxHeartbeats 6400000 in
theorem show_any (W H b off cap n ccap : Nat) (cb : Option Addr) (zs ks : List Int) (w : World) (hr : Row w (some ⟨b, off, none⟩) zs) (hW : 1 ≤ W ∧ W ≤ 8) (hH : 1 ≤ H ∧ H ≤ 8) (hl : zs.length = W * H) (hm : maskB zs = true) (hcap : zs.length ≤ cap) (hk : Row w cb ks) (hn : ks.length = n * 5) (hn2 : n ≤ 3518437208883) (hcr : ∀ i, i < n → ∀ j, j < 4 → 0 ≤ ck ks i j ∧ ck ks i j < 100) :
    Calls Tryd.prog 13 #[.agg #[.int .i64 (W : Int), .int .i64 (H : Int), .slice (some ⟨b, off, none⟩) zs.length cap, .slice cb n ccap]] w fun e w' => e = .returned (.string ⟨(shT zs ks W H n).toArray⟩) ∧ Below w.heap.size w w' := by
  have HR : Hid (Row w (some ⟨b, off, none⟩) zs) := hr
  have h64 : zs.length ≤ 64 := by rw [hl]; exact Nat.le_trans (Nat.mul_le_mul hW.2 hH.2) (by decide)
  have HM : Hid (∀ z ∈ zs, 0 ≤ z ∧ z ≤ 15) := by
    show ∀ z ∈ zs, 0 ≤ z ∧ z ≤ 15
    simpa [maskB] using hm
  have HL : Hid (zs.length = W * H) := hl
  have HCR : Hid (CRow w cb ks n) := row_crow hk hn
  have HCB : Hid (∀ i, i < n → ∀ j, j < 4 → 0 ≤ ck ks i j ∧ ck ks i j < 100) := hcr
  obtain ⟨w1, w8⟩ := hW
  obtain ⟨h1, h8⟩ := hH
  have zN := lnB_size (ns := [W, H]) (by simp)
  simp only [List.length_cons, List.length_nil] at zN
  have HN2 : Hid (∀ (g : Nat) (W' : World), W'.cell? ⟨g, 0, none⟩ = some (.int .i64 (W : Int)) → W'.cell? ⟨g, 1, none⟩ = some (.int .i64 (H : Int)) → Calls Tryd.prog 26 #[.slice (some ⟨g, 0, none⟩) 2 2] W' fun e w' => e = .returned (.string (lnB [W, H])) ∧ Below W'.heap.size W' w') := fun g W' q0 q1 => numbers_any g 2 [W, H] W' (by intro m hm; simp at hm; omega) (by simp) (by simp) (fun i hi => by
    match i, hi with
    | 0, _ => exact q0
    | 1, _ => exact q1)
  clear hr hm hl hk hn hcr
  obtain ⟨W1, hW1⟩ : ∃ W1, W1 = w.alloc (.cells #[.int .i64 (W : Int), .int .i64 (H : Int), .slice (some ⟨b, off, none⟩) zs.length cap, .slice cb n ccap] 25) := ⟨_, rfl⟩
  have hz1 : W1.heap.size = w.heap.size + 1 := by rw [hW1]; simp
  have HQ : Hid (W1.cell? ⟨w.heap.size, 0, none⟩ = some (.int .i64 (W : Int)) ∧ W1.cell? ⟨w.heap.size, 1, none⟩ = some (.int .i64 (H : Int)) ∧ W1.cell? ⟨w.heap.size, 2, none⟩ = some (.slice (some ⟨b, off, none⟩) zs.length cap) ∧ W1.cell? ⟨w.heap.size, 3, none⟩ = some (.slice cb n ccap)) := by
    show _ ∧ _
    rw [hW1]
    simp [go_sem]
  have HB1 : Hid (Below w.heap.size w W1) := by rw [hW1]; exact bl_alloc (bl_refl _)
  have HZ1 : Hid (W1.heap.size = w.heap.size + 1) := hz1
  have HFB : Hid (Lib.IsBuilder 62 5 (w.heap.size + 1) (w.heap.size + 1) (Lib.byteCells ([])) ((w.alloc (.cells #[.int .i64 (W : Int), .int .i64 (H : Int), .slice (some ⟨b, off, none⟩) zs.length cap, .slice cb n ccap] 25)).alloc (.cells #[.pointer none, .slice none 0 0] 62))) := by
    have q := Lib.fresh_isBuilder 62 5 W1
    rw [hz1, hW1] at q
    exact q
  have HW1 : Hid (W1 = w.alloc (.cells #[.int .i64 (W : Int), .int .i64 (H : Int), .slice (some ⟨b, off, none⟩) zs.length cap, .slice cb n ccap] 25)) := hW1
  clear hW1 hz1
  go_enter Tryd.func13, Tryd.ntmps13
  have HHD : Hid (Lib.strCells (⟨#[115, 104, 101, 101, 116, 32]⟩ ++ lnB [W, H]) = Lib.byteCells (hdT W H)) := by
    have h9 := lnJ_cons W [H]
    have e : (⟨#[115, 104, 101, 101, 116, 32]⟩ ++ lnB [W, H] : ByteArray).data.toList = hdT W H := by
      rw [app_list, lnB_list]
      show [115, 104, 101, 101, 116] ++ (32 :: lnJ [W, H]) = _
      rw [h9]
      simp [nmL, hdT]
    show Lib.byteCells _ = _
    rw [e]
  have d0 : ∀ w' : World, (Op.stringOp .add ⟨#[115, 104, 101, 101, 116, 32]⟩ (lnB [W, H])).run Tryd.prog w' = .ok (.string (⟨#[115, 104, 101, 101, 116, 32]⟩ ++ lnB [W, H])) w' := fun w' => run_string_add_sum (P := Tryd.prog) (w := w') _ _ (by have e1 : ByteArray.size ⟨#[115, 104, 101, 101, 116, 32]⟩ = 6 := rfl; omega)
  go_wp2_with (first
    | (go_at_call 26; (with_reducible refine (HN2.out _ _ (by simp [go_sem]) (by simp [go_sem])).mono ?_); rintro e w9 ⟨rfl, hb9⟩; have HS9 : Hid (Lib.IsBuilder 62 5 (w.heap.size + 1) (w.heap.size + 1) (Lib.byteCells ([])) w9 ∧ Below W1.heap.size W1 w9 ∧ w.heap.size + 1 ≤ w9.heap.size) := ⟨isB_kept (isB_kept HFB.out (bl_alloc (bl_refl _))) hb9, by
        have q2 : Below W1.heap.size W1 ((w.alloc (.cells #[.int .i64 (W : Int), .int .i64 (H : Int), .slice (some ⟨b, off, none⟩) zs.length cap, .slice cb n ccap] 25)).alloc (.cells #[.pointer none, .slice none 0 0] 62)) := by rw [← HW1.out]; exact bl_alloc (bl_refl _)
        exact bl_via (bl_alloc q2) hb9, by have q3 := hb9.size; simp at q3; omega⟩; clear hb9)
    | (go_at_call 25; (with_reducible refine (writeString_any (w.heap.size + 1) (w.heap.size + 1) (Lib.byteCells ([])) _ _ HS9.out.1 (by simp only [Lib.byteCells, List.map_nil, List.length_nil, ByteArray.size_append]; have e1 : ByteArray.size ⟨#[115, 104, 101, 101, 116, 32]⟩ = 6 := rfl; omega) HS9.out.2.2).mono ?_); rintro e w5 ⟨rfl, hbd, hb5, _⟩; have HS5 : Hid (Lib.IsBuilder 62 5 (w.heap.size + 1) (w.heap.size + 1) (Lib.byteCells (hdT W H)) w5 ∧ Below W1.heap.size W1 w5) := ⟨Or.inr (by
        have q := hbd
        rw [HHD.out] at q
        simpa [Lib.byteCells] using q), HS9.out.2.1.trans (HZ1.out ▸ hb5)⟩; have s0 : w5.cell? ⟨w.heap.size, 0, none⟩ = some (.int .i64 (W : Int)) := cl_kept HS5.out.2 HQ.out.1; have s1 : w5.cell? ⟨w.heap.size, 1, none⟩ = some (.int .i64 (H : Int)) := cl_kept HS5.out.2 HQ.out.2.1; have s2 : w5.cell? ⟨w.heap.size, 2, none⟩ = some (.slice (some ⟨b, off, none⟩) zs.length cap) := cl_kept HS5.out.2 HQ.out.2.2.1; have s3 : w5.cell? ⟨w.heap.size, 3, none⟩ = some (.slice cb n ccap) := cl_kept HS5.out.2 HQ.out.2.2.2; clear hbd hb5)
    | fail)
  clear s0 s1 s2 s3
  go_loopg [4] (H + 1) (fun gk s4 wx => ∃ (r : Nat) (v : Int), r ≤ H ∧ gk = r + 1 ∧ v = (r : Int) - 1 ∧ s4 = .int .i64 v ∧ Lib.IsBuilder 62 5 (w.heap.size + 1) (w.heap.size + 1) (Lib.byteCells (hdT W H ++ rsT zs W H (H - r))) wx ∧ Below W1.heap.size W1 wx)
  case atStart => exact ⟨H, _, by omega, rfl, rfl, rfl, by simpa [rsT] using HS5.out⟩
  case round =>
    clear HS5 HFB HN2 HHD HS9 d0
    obtain ⟨r, v, hr, rfl, hv, rfl, hS, hB⟩ := hrel
    have HS : Hid (Lib.IsBuilder 62 5 (w.heap.size + 1) (w.heap.size + 1) (Lib.byteCells (hdT W H ++ rsT zs W H (H - r))) wr ∧ Below W1.heap.size W1 wr) := ⟨hS, hB⟩
    clear hS hB
    have s0 : wr.cell? ⟨w.heap.size, 0, none⟩ = some (.int .i64 (W : Int)) := cl_kept HS.out.2 HQ.out.1
    have s1 : wr.cell? ⟨w.heap.size, 1, none⟩ = some (.int .i64 (H : Int)) := cl_kept HS.out.2 HQ.out.2.1
    have s2 : wr.cell? ⟨w.heap.size, 2, none⟩ = some (.slice (some ⟨b, off, none⟩) zs.length cap) := cl_kept HS.out.2 HQ.out.2.2.1
    have s3 : wr.cell? ⟨w.heap.size, 3, none⟩ = some (.slice cb n ccap) := cl_kept HS.out.2 HQ.out.2.2.2
    have zs0 : w.heap.size < wr.heap.size := World.block_lt_of_cell? _ _ s0
    by_cases hr0 : 0 < r
    · obtain ⟨y, rfl⟩ : ∃ y, r = y + 1 := ⟨r - 1, by omega⟩
      obtain rfl : v = (y : Int) := by omega
      clear hv
      have iy : (0 : Int) ≤ (y : Int) := by omega
      have hyw : y * W + W ≤ W * H := by
        have := Nat.mul_le_mul_right W (show y + 1 ≤ H by omega)
        rw [Nat.succ_mul, Nat.mul_comm H W] at this
        exact this
      obtain ⟨yw, hyw0⟩ : ∃ m, m = y * W := ⟨_, rfl⟩
      have e1 : (y : Int) * (W : Int) = (yw : Int) := by rw [hyw0]; simp
      have e2 : ((y : Int) + 1) * (W : Int) = ((yw + W : Nat) : Int) := by rw [Int.add_mul, e1]; simp
      have hl2 : yw + W ≤ zs.length := by rw [HL.out, hyw0]; exact hyw
      have HYW : Hid (yw = y * W) := hyw0
      clear hyw hyw0
      have b1 : (0 : Int) ≤ (yw : Int) := by omega
      have b2 : (yw : Int) ≤ ((yw + W : Nat) : Int) := by omega
      have b3 : ((yw + W : Nat) : Int) ≤ (cap : Int) := by omega
      have b4 : ¬ cap = yw := by omega
      have b5 : (yw : Int) + (W : Int) ≤ (cap : Int) := by omega
      go_wp2
      rw [show yw + W - yw = W by omega]
      go_loopg [37] W (fun gk s37 wx => ∃ x : Nat, x ≤ W ∧ gk = W - x ∧ s37 = .int .i64 (x : Int) ∧ Lib.IsBuilder 62 5 (w.heap.size + 1) (w.heap.size + 1) (Lib.byteCells (hdT W H ++ rsT zs W H (H - (y + 1)) ++ rwT zs W y x)) wx ∧ Below W1.heap.size W1 wx)
      case atStart => exact ⟨0, by omega, rfl, rfl, by simpa [rwT] using HS.out⟩
      case round =>
        clear HS s0 s1 s2 s3 zs0
        obtain ⟨x, hx, rfl, rfl, hS, hB⟩ := hrel
        have HS : Hid (Lib.IsBuilder 62 5 (w.heap.size + 1) (w.heap.size + 1) (Lib.byteCells (hdT W H ++ rsT zs W H (H - (y + 1)) ++ rwT zs W y x)) wr ∧ Below W1.heap.size W1 wr) := ⟨hS, hB⟩
        clear hS hB
        have hlen : (hdT W H ++ rsT zs W H (H - (y + 1)) ++ rwT zs W y x).length ≤ 200 := by
          simp only [List.length_append]
          have q1 := hdT_len W H
          have q2 := rsT_len zs W H (H - (y + 1)) w8
          have q3 : (rwT zs W y x).length = x := by simp [rwT]
          omega
        have hwz : w.heap.size + 1 ≤ wr.heap.size := by rw [← HZ1.out]; exact HS.out.2.size
        by_cases hx1 : x < W
        · have ix : (x : Int) < (W : Int) := by omega
          have ix0 : (0 : Int) ≤ (x : Int) := by omega
          have hm : yw + x < zs.length := by omega
          obtain ⟨b', off', e', hc⟩ := (HR.out.kept (bl_via HB1.out HS.out.2)) (yw + x) hm
          simp at e'
          obtain ⟨rfl, rfl⟩ := e'
          rw [← Nat.add_assoc] at hc
          have hzb := HM.out _ (List.getElem_mem hm)
          have HZ : Hid (zs.getD (y * W + x) 0 = zs[yw + x]) := by show _ = _; rw [← HYW.out]; simp [hm]
          obtain ⟨z, hz⟩ : ∃ z, z = zs[yw + x] := ⟨_, rfl⟩
          rw [← hz] at hc hzb HZ
          have zbb := World.block_lt_of_cell? _ _ hc
          obtain ⟨z0, z15⟩ := hzb
          have hix := idx_letter z z0 z15 wr
          clear hz hm
          go_wp2_with (go_at_call 27; refine (writeByte_any (w.heap.size + 1) (w.heap.size + 1) _ _ _ HS.out.1 (by rw [Lib.byteCells_length]; omega) hwz).mono ?_; rintro e w5 ⟨rfl, hbd, hb5⟩; have HS5 : Hid (Lib.IsBuilder 62 5 (w.heap.size + 1) (w.heap.size + 1) (Lib.byteCells (hdT W H ++ rsT zs W H (H - (y + 1)) ++ rwT zs W y (x + 1))) w5 ∧ Below W1.heap.size W1 w5) := ⟨Or.inr (by
              rw [rwT_succ, HZ.out, ← List.append_assoc, ← bone]
              exact hbd), HS.out.2.trans (HZ1.out ▸ hb5)⟩; clear hbd hb5)
          go_roundg (W - (x + 1))
          case measure => omega
          case rel => exact ⟨x + 1, by omega, rfl, by go_num, HS5.out⟩
        · have ix : ¬ (x : Int) < (W : Int) := by omega
          obtain rfl : W = x := by omega
          go_wp2_with (go_at_call 25; refine (writeString_any (w.heap.size + 1) (w.heap.size + 1) _ _ _ HS.out.1 (by rw [Lib.byteCells_length, show ByteArray.size ⟨#[10]⟩ = 1 from rfl]; omega) hwz).mono ?_; rintro e w5 ⟨rfl, hbd, hb5, _⟩; have HS5 : Hid (Lib.IsBuilder 62 5 (w.heap.size + 1) (w.heap.size + 1) (Lib.byteCells (hdT W H ++ rsT zs W H (H - y))) w5 ∧ Below W1.heap.size W1 w5) := ⟨Or.inr (by
              have e : H - y = (H - (y + 1)) + 1 := by omega
              rw [e, rsT, show H - 1 - (H - (y + 1)) = y by omega]
              rw [bcat] at hbd
              simpa [List.append_assoc] using hbd), HS.out.2.trans (HZ1.out ▸ hb5)⟩; clear hbd hb5)
          go_roundg (y + 1)
          case measure => omega
          case rel => exact ⟨y, (y : Int) - 1, by omega, rfl, rfl, rfl, HS5.out⟩
    · obtain rfl : r = 0 := by omega
      obtain rfl : v = -1 := by omega
      clear hv
      have hs0 : Lib.IsBuilder 62 5 (w.heap.size + 1) (w.heap.size + 1) (Lib.byteCells (hdT W H ++ rsT zs W H H ++ csT ks 0)) wr ∧ Below W1.heap.size W1 wr := by simpa [csT] using HS.out
      have HS0 : Hid (Lib.IsBuilder 62 5 (w.heap.size + 1) (w.heap.size + 1) (Lib.byteCells (hdT W H ++ rsT zs W H H ++ csT ks 0)) wr ∧ Below W1.heap.size W1 wr) := hs0
      clear hs0
      clear HS
      go_wp2
      go_loopg [49] n (fun gk s49 wx => ∃ i : Nat, i ≤ n ∧ gk = n - i ∧ s49 = .int .i64 (i : Int) ∧ Lib.IsBuilder 62 5 (w.heap.size + 1) (w.heap.size + 1) (Lib.byteCells (hdT W H ++ rsT zs W H H ++ csT ks i)) wx ∧ Below W1.heap.size W1 wx)
      case atStart => exact ⟨0, by omega, rfl, rfl, HS0.out⟩
      case round =>
        clear HS0 s0 s1 s2 s3 zs0
        obtain ⟨i, hi, rfl, rfl, hS, hB⟩ := hrel
        have HS : Hid (Lib.IsBuilder 62 5 (w.heap.size + 1) (w.heap.size + 1) (Lib.byteCells (hdT W H ++ rsT zs W H H ++ csT ks i)) wr ∧ Below W1.heap.size W1 wr) := ⟨hS, hB⟩
        clear hS hB
        have hlen : (hdT W H ++ rsT zs W H H ++ csT ks i).length ≤ 200 + 15 * i := by
          simp only [List.length_append]
          have q1 := hdT_len W H
          have q2 := rsT_len zs W H H w8
          have q3 := csT_len ks i
          omega
        have hwz : w.heap.size + 1 ≤ wr.heap.size := by rw [← HZ1.out]; exact HS.out.2.size
        by_cases h1' : i < n
        · have i1 : (i : Int) < (n : Int) := by omega
          have i0 : (0 : Int) ≤ (i : Int) := by omega
          obtain ⟨bb, bo, rfl, c0, c1, c2, c3, c4⟩ := (HCR.out.kept (bl_via HB1.out HS.out.2)) i h1'
          have zb : bb < wr.heap.size := World.block_lt_of_cell? _ _ c0
          obtain ⟨p0, p0'⟩ := HCB.out i h1' 0 (by omega)
          obtain ⟨p1, p1'⟩ := HCB.out i h1' 1 (by omega)
          obtain ⟨p2, p2'⟩ := HCB.out i h1' 2 (by omega)
          obtain ⟨p3, p3'⟩ := HCB.out i h1' 3 (by omega)
          go_wp2
          refine wp_named (fun W0 hW0 => ?_)
          have hB0 : Below wr.heap.size wr W0 := by rw [hW0]; exact bl_alloc (bl_refl _)
          have hblk : W0.heap[wr.heap.size]? = some (.cells #[.int .i64 (ck ks i 0), .int .i64 (ck ks i 1), .int .i64 (ck ks i 2), .int .i64 (ck ks i 3), .int .i64 (ck ks i 4)] 48 (0, 0)) := by rw [hW0]; exact heap_alloc_new wr _
          have hz0 : W0.heap.size = wr.heap.size + 1 := by rw [hW0]; simp
          have HBK : Hid (W0.heap[wr.heap.size]? = some (.cells #[.int .i64 (ck ks i 0), .int .i64 (ck ks i 1), .int .i64 (ck ks i 2), .int .i64 (ck ks i 3), .int .i64 (ck ks i 4)] 48 (0, 0))) := hblk
          have HZ0 : Hid (W0.heap.size = wr.heap.size + 1) := hz0
          have HB0 : Hid (Below wr.heap.size wr W0) := hB0
          have HF : Hid (Lib.IsBuilder 62 5 (w.heap.size + 1) (w.heap.size + 1) (Lib.byteCells (hdT W H ++ rsT zs W H H ++ csT ks i)) W0 ∧ Below W1.heap.size W1 W0) := ⟨isB_kept HS.out.1 hB0, bl_via HS.out.2 hB0⟩
          have q5 := five_of hblk
          obtain ⟨_, t0, t1, t2, t3, t4⟩ := q5
          clear hW0 hB0 hblk hz0 c0 c1 c2 c3 c4 zb
          obtain ⟨ns, hns⟩ : ∃ ns, ns = [(ck ks i 0).toNat, (ck ks i 1).toNat, (ck ks i 2).toNat, (ck ks i 3).toNat] := ⟨_, rfl⟩
          have zn : (lnB ns).size ≤ 12 := by
            have := lnB_size (ns := ns) (by rw [hns]; simp)
            rw [hns] at this ⊢
            exact this
          have zk : (kdS (ck ks i 4)).size = 1 := rfl
          have CN : Hid (∀ (g : Nat) (W' : World), W'.cell? ⟨g, 0, none⟩ = some (.int .i64 (ck ks i 0)) → W'.cell? ⟨g, 1, none⟩ = some (.int .i64 (ck ks i 1)) → W'.cell? ⟨g, 2, none⟩ = some (.int .i64 (ck ks i 2)) → W'.cell? ⟨g, 3, none⟩ = some (.int .i64 (ck ks i 3)) → Calls Tryd.prog 26 #[.slice (some ⟨g, 0, none⟩) 4 4] W' fun e w' => e = .returned (.string (lnB ns)) ∧ Below W'.heap.size W' w') := fun g W' q0 q1 q2 q3 => by
            rw [hns]
            exact numbers_any g 4 [(ck ks i 0).toNat, (ck ks i 1).toNat, (ck ks i 2).toNat, (ck ks i 3).toNat] W' (by intro m hm; simp at hm; omega) (by simp) (by simp) (fun j hj => by
              match j, hj with
              | 0, _ => exact q0.trans (by simp; omega)
              | 1, _ => exact q1.trans (by simp; omega)
              | 2, _ => exact q2.trans (by simp; omega)
              | 3, _ => exact q3.trans (by simp; omega))
          have CL : Hid (∀ W' : World, Calls Tryd.prog 28 #[.int .i64 (ck ks i 4)] W' fun e w' => e = .returned (.string (kdS (ck ks i 4))) ∧ w' = W') := fun W' => letter_any (ck ks i 4) W'
          have HLINE : Hid ((kdS (ck ks i 4) ++ ⟨#[32]⟩ ++ lnB ns).data.toList = crT ks i) := by
            show _ = _
            rw [app_list, app_list, lnB_list, hns]
            have h9 := lnJ_cons (ck ks i 0).toNat [(ck ks i 1).toNat, (ck ks i 2).toNat, (ck ks i 3).toNat]
            rw [List.append_assoc]
            show _ ++ (32 :: lnJ _) = _
            rw [h9]
            simp [kdS, kdB, nmL, crT]
          have HNE : Hid (wr.heap.size ≠ w.heap.size + 1) := fun e => by
            obtain ⟨p, q⟩ : ∃ p, Lib.BuilderAt 62 5 (w.heap.size + 1) (w.heap.size + 1) p (Lib.byteCells (hdT W H ++ rsT zs W H H ++ csT ks i)) wr := by
              rcases HS.out.1 with h | h
              · exact ⟨_, h⟩
              · exact ⟨_, h⟩
            have := q.lt
            omega
          have d1 : ∀ w' : World, (Op.stringOp .add (kdS (ck ks i 4)) ⟨#[32]⟩).run Tryd.prog w' = .ok (.string (kdS (ck ks i 4) ++ ⟨#[32]⟩)) w' := fun w' => run_string_add_sum (P := Tryd.prog) (w := w') _ _ (by rw [zk]; decide)
          have d2 : ∀ w' : World, (Op.stringOp .add (kdS (ck ks i 4) ++ ⟨#[32]⟩) (lnB ns)).run Tryd.prog w' = .ok (.string (kdS (ck ks i 4) ++ ⟨#[32]⟩ ++ lnB ns)) w' := fun w' => run_string_add_sum (P := Tryd.prog) (w := w') _ _ (by rw [ByteArray.size_append, zk, show ByteArray.size ⟨#[32]⟩ = 1 from rfl]; omega)
          clear hns
          go_region_held3 (fun w' => w'.heap[wr.heap.size]? = some (.cells #[.int .i64 (ck ks i 0), .int .i64 (ck ks i 1), .int .i64 (ck ks i 2), .int .i64 (ck ks i 3), .int .i64 (ck ks i 4)] 48 (0, 0)) ∧ w'.cell? ⟨wr.heap.size, 0, none⟩ = some (.int .i64 (ck ks i 0)) ∧ w'.cell? ⟨wr.heap.size, 1, none⟩ = some (.int .i64 (ck ks i 1)) ∧ w'.cell? ⟨wr.heap.size, 2, none⟩ = some (.int .i64 (ck ks i 2)) ∧ w'.cell? ⟨wr.heap.size, 3, none⟩ = some (.int .i64 (ck ks i 3)) ∧ w'.cell? ⟨wr.heap.size, 4, none⟩ = some (.int .i64 (ck ks i 4)))
            ((exact five_of (by with_reducible (first | exact HBK.out | exact HBK5.out | exact HBK9.out | exact ob_dr HBK.out | exact ob_dr (ob_al HBK.out) | exact ob_al (ob_dr HBK.out)))))
            (first
              | (go_at_call 28; (with_reducible refine (CL.out _).mono ?_); rintro e w9 ⟨rfl, hw9⟩; have hw9b := hw9.symm; clear hw9; subst hw9b)
              | (go_at_call 26; (with_reducible refine (CN.out _ _ (by simp [go_sem]) (by simp [go_sem]) (by simp [go_sem]) (by simp [go_sem])).mono ?_); rintro e w8 ⟨rfl, hb8⟩; have hx8 := bl_via (bl_alloc (o := .cells #[.int .i64 (ck ks i 0), .int .i64 (ck ks i 1), .int .i64 (ck ks i 2), .int .i64 (ck ks i 3)] 3) (bl_drew (bl_refl W0))) hb8; have HBK9 : Hid (w8.heap[wr.heap.size]? = some (.cells #[.int .i64 (ck ks i 0), .int .i64 (ck ks i 1), .int .i64 (ck ks i 2), .int .i64 (ck ks i 3), .int .i64 (ck ks i 4)] 48 (0, 0))) := (hx8.block _ (Array.getElem?_eq_some_iff.1 HBK.out).1).trans HBK.out; have HF9 : Hid (Lib.IsBuilder 62 5 (w.heap.size + 1) (w.heap.size + 1) (Lib.byteCells (hdT W H ++ rsT zs W H H ++ csT ks i)) w8 ∧ Below W1.heap.size W1 w8 ∧ w.heap.size + 1 ≤ w8.heap.size) := ⟨isB_kept HF.out.1 hx8, bl_via HF.out.2 hx8, by have q3 := hx8.size; have q4 := HZ0.out; omega⟩; clear hb8 hx8)
              | (go_at_call 25; (with_reducible refine (writeString_any (w.heap.size + 1) (w.heap.size + 1) _ _ _ HF9.out.1 (by rw [Lib.byteCells_length]; simp only [ByteArray.size_append, zk, show ByteArray.size ⟨#[32]⟩ = 1 from rfl]; omega) HF9.out.2.2).mono ?_); rintro e w5 ⟨rfl, hbd, hb5, hkp⟩; have HBK5 : Hid (w5.heap[wr.heap.size]? = some (.cells #[.int .i64 (ck ks i 0), .int .i64 (ck ks i 1), .int .i64 (ck ks i 2), .int .i64 (ck ks i 3), .int .i64 (ck ks i 4)] 48 (0, 0))) := hkp _ _ _ _ HBK9.out HNE.out (by decide); have HS5 : Hid (Lib.IsBuilder 62 5 (w.heap.size + 1) (w.heap.size + 1) (Lib.byteCells (hdT W H ++ rsT zs W H H ++ csT ks (i + 1))) w5 ∧ Below W1.heap.size W1 w5) := ⟨Or.inr (by rw [csT, ← List.append_assoc, ← HLINE.out, ← bcat]; exact hbd), HF9.out.2.1.trans (HZ1.out ▸ hb5)⟩; clear hbd hb5 hkp)
              | fail)
          all_goals
            go_wp2
            go_roundg (n - (i + 1))
            case measure => omega
            case rel => exact ⟨i + 1, by omega, rfl, by go_num, HS5.out⟩
        · have i1 : ¬ (i : Int) < (n : Int) := by omega
          obtain rfl : i = n := by omega
          obtain ⟨lt, hlt⟩ : ∃ lt, lt = shT zs ks W H i := ⟨_, rfl⟩
          have HLT : Hid (lt = shT zs ks W H i) := hlt
          have HSL : Hid (Lib.IsBuilder 62 5 (w.heap.size + 1) (w.heap.size + 1) (Lib.byteCells lt) wr) := by rw [hlt]; exact HS.out.1
          clear hlt
          go_wp2_with (go_at_call 29; refine (Tryd.Builder_String_any (w.heap.size + 1) (w.heap.size + 1) lt _ HSL.out hwz).mono ?_; rintro e w5 ⟨rfl, hb5⟩; have HB5 : Hid (Below w.heap.size w w5) := bl_via HB1.out (HS.out.2.trans (HZ1.out ▸ hb5)); clear hb5)
          go_ret
          exact ⟨by rw [← HLT.out]; rfl, HB5.out⟩
end Go.Proofs.YtehmoacggikfmaaDoor
