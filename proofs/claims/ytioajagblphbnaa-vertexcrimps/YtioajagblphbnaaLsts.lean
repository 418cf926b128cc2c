/- All lists of kinds, one after the other: an iterator. -/
import Derived.RangeFuncNested
import Derived.RangeFuncBound
import Derived.RangeFuncCalls
import Derived.RangeFuncLeaves
import Derived.Shelf.Abstract
import Derived.Shelf.RegionOpen
import Derived.WalkKit
import Derived.OwnWalkIn
import Derived.TacticsInMore
import Derived.LoopNIn
import Derived.LoopIn
import Derived.Test.YtioajagblphbnaaGoes
import Derived.Test.YtioajagblphbnaaOrds
import Derived.Test.YtioajagblphbnaaOrds
import Derived.Test.YtioajagblphbnaaOrds
import Derived.Test.YtioajagblphbnaaOrds
import Derived.Test.YtioajagblphbnaaOrds
import Derived.Test.YtioajagblphbnaaOrds
import Derived.Test.YtioajagblphbnaaOrds
import Derived.Test.YtioajagblphbnaaOrds
import Derived.Test.YtioajagblphbnaaOrds
namespace Go.Proofs.Ytioajagblphbnaa
open Go.RowKit Go.Shelf
attribute [local go_sem] Oper.semAt_some

/-- The kind of crease j in list k. -/
def lstK (n k j : Nat) : Int := if (k / 2 ^ (n - 1 - j)) % 2 = 1 then 2 else 1
def lst (n k : Nat) : List Int := (List.range n).map (lstK n k)
theorem lst_len (n k : Nat) : (lst n k).length = n := by simp [lst]

theorem wpListIn_full {F : Fence} {q : Nat} {P : Program} (w : World) {ops : Array Oper} {rest : List Oper} {o : Oper} {a : Act} {Q : Exit → Act → World → Prop}
    (hg : o.guard = none) (l c : Operand) (t : TypeId) (hop : o.op = Op.makeSlice t l c)
    (base : Nat) (e : TypeId) (i : TypeInfo) (z : Value) (size : Nat) (h1 : P.underlying t = some (.slice e)) (h2 : P.info? e = some i) (h3 : i.zero = some z) (h4 : i.size = size)
    (kl kc : IntKind) (L C : Int) (n : Nat) (hl : a.eval l = .int kl L) (hc : a.eval c = .int kc C) (hL : L = (n : Int)) (hC : C = (n : Int)) (b2 : i.bytes * n ≤ 281474976710656) (b3 : n ≤ maxLen) (b4 : base ≤ w.heap.size)
    (hK : ∀ w', w'.ownsRow base e size (.slice (some ⟨w.heap.size, 0, none⟩) n n) n (madeCells z.cells (n * size)).toList → w.grownBy w' none → wpListIn F q P ops Q rest (a.put o.dst (.slice (some ⟨w.heap.size, 0, none⟩) n n)) w') :
    wpListIn F q P ops Q (o :: rest) a w := by
  refine wpListIn_plain hg fun K hK' => ?_
  obtain ⟨w', hrun, r1, r2⟩ := run_make_full (P := P) w base t e i z size h1 h2 h3 h4 kl kc n b2 b3 b4
  subst hL
  subst hC
  unfold Oper.wpIn
  refine ⟨?_, ?_⟩
  · simp [Oper.about, hop]
  · rw [Oper.semAt_plain F _ _ (by rw [hop]; intro c hc'; cases hc')]
    simp [execOp, hop, hl, hc, hrun, Result.andThen]
    exact hK' _ _ (hK w' r1 r2)
theorem RoundIn_any {m m' : Nat} {P : Program} {l : Nat} {f : FuncId} {tmps : Array Value} {assign body : Code} {w : World} {R : Ending → World → Prop} (h : RoundIn .wide m P l f tmps assign body w R) : RoundIn .wide m' P l f tmps assign body w R := ⟨h.1, fun c cs _ => h.2 c cs (room_wide _)⟩
theorem bits_all : ∀ a : Fin 256, bits .and .i64 ((a.val : Nat) : Int) 1 = ((a.val % 2 : Nat) : Int) := by decide +kernel
theorem bit_lem (k s : Nat) (hk : k < 256) : (bits .and .i64 ((k : Int) / 2 ^ s) 1 != 0) = decide ((k / 2 ^ s) % 2 = 1) := by
  have e : ((k : Int) / 2 ^ s) = ((k / 2 ^ s : Nat) : Int) := by simp
  rw [e]
  have ha : k / 2 ^ s < 256 := Nat.lt_of_le_of_lt (Nat.div_le_self ..) hk
  generalize k / 2 ^ s = a at ha ⊢
  have h1 := bits_all ⟨a, ha⟩
  dsimp only at h1
  rw [h1, Bool.eq_iff_iff, bne_iff_ne, decide_eq_true_eq]
  omega
/-- A list in the making: its first j kinds. -/
def Rz (w : World) (g n k j : Nat) : Prop := ∀ i, i < n → w.cell? ⟨g, i, none⟩ = some (.int .i64 (if i < j then lstK n k i else 0)) ∧ w.frozen? ⟨g, i, none⟩ = false
theorem Rz.put {w : World} {g n k j : Nat} {x : Int} (h : Rz w g n k j) (hj : j < n) (hx : lstK n k j = x) : Rz (w.setCell ⟨g, j, none⟩ (.int .i64 x)) g n k (j + 1) := fun i hi => by
  refine ⟨?_, by rw [World.frozen?_setCell]; exact (h i hi).2⟩
  by_cases e : i = j
  · subst e
    rw [World.cell?_setCell_same _ _ _ (h i hi).1, if_pos (by omega), hx]
  · have hne : (⟨g, i, none⟩ : Addr) ≠ ⟨g, j, none⟩ := by first | (simp; done) | (simp; exact e)
    rw [World.cell?_setCell_other _ _ _ _ (by first | exact hne | exact fun q => hne q.symm), (h i hi).1]
    by_cases q : i < j
    · rw [if_pos q, if_pos (by omega)]
    · rw [if_neg q, if_neg (by omega)]
theorem Rz.put2 {w : World} {g n k j : Nat} {x : Int} {u : Value} (h : Rz w g n k j) (hj : j < n) (hx : lstK n k j = x) : Rz ((w.setCell ⟨g, j, none⟩ u).setCell ⟨g, j, none⟩ (.int .i64 x)) g n k (j + 1) := fun i hi => by
  refine ⟨?_, by rw [World.frozen?_setCell, World.frozen?_setCell]; exact (h i hi).2⟩
  by_cases e : i = j
  · subst e
    rw [World.cell?_setCell_same _ _ _ (World.cell?_setCell_same _ _ _ (h i hi).1), if_pos (by omega), hx]
  · have hne : (⟨g, i, none⟩ : Addr) ≠ ⟨g, j, none⟩ := by first | (simp; done) | (simp; exact e)
    rw [World.cell?_setCell_other _ _ _ _ (by first | exact hne | exact fun q => hne q.symm), World.cell?_setCell_other _ _ _ _ (by first | exact hne | exact fun q => hne q.symm), (h i hi).1]
    by_cases q : i < j
    · rw [if_pos q, if_pos (by omega)]
    · rw [if_neg q, if_neg (by omega)]
theorem Rz.rw {w : World} {g n k : Nat} (h : Rz w g n k n) : Rw w g (lst n k) := fun i hi => by
  rw [lst_len] at hi
  rw [(h i hi).1, if_pos hi]
  simp [gt, lst, hi]

set_option maxRecDepth 100000 in
set_option maxHeartbeats 2000000 in
theorem lists1_in (n : Nat) (h8 : n ≤ 8) (h2 : 0 < n) (l Bn m m' : Nat) (J : Nat → World → Prop)
    (hJb : ∀ k W W', J k W → Below W.heap.size W W' → J k W')
    (hJn : ∀ k W, J k W → W.cell? ⟨Bn, 0, none⟩ = some (.int .i64 (n : Int)))
    (hY : ∀ k W0 W, J k W0 → Below W0.heap.size W0 W → k < 2 ^ n → Rw W W0.heap.size (lst n k) → YieldAt .wide m Try.prog l #[.slice (some ⟨W0.heap.size, 0, none⟩) n n] W fun e W' => e = .returned (.bool true) ∧ J (k + 1) W')
    (W : World) (h0 : J 0 W) :
    CallsIn .wide m' Try.prog 23 #[.func (.yield l) #[] #[], .pointer (some ⟨Bn, 0, none⟩)] W fun e W' => (∃ v, e = .returned v) ∧ J (2 ^ n) W' := by
  refine callsIn_of_wp Try.func23 rfl trivial ?_ rfl
  simp only [Try.ntmps23, List.size_toArray, List.length_cons, List.length_nil, Nat.reduceAdd, Nat.reduceSub, Array.replicate_succ, Array.replicate_zero, List.push_toArray, List.append_toArray, List.nil_append, List.cons_append]
  have hn := hJn 0 W h0
  have hp := (shl_nat h8).1
  have hN9 := (shl_nat h8).2
  obtain ⟨N, hN⟩ : ∃ N : Nat, N = 2 ^ n := ⟨_, rfl⟩
  rw [← hN] at hY hp hN9 ⊢
  have HN : Hid (N = 2 ^ n) := hN
  clear hN
  obtain ⟨i3, hI⟩ := info_parts inf3
  have HI : Hid (Try.prog.info? 3 = some i3 ∧ i3.zero = some (.int .i64 0) ∧ i3.size = 1 ∧ i3.bytes = 8) := hI
  have HJB : Hid (∀ k W W', J k W → Below W.heap.size W W' → J k W') := hJb
  have HJN : Hid (∀ k W, J k W → W.cell? ⟨Bn, 0, none⟩ = some (.int .i64 (n : Int))) := hJn
  have HY : Hid (∀ k W0 W, J k W0 → Below W0.heap.size W0 W → k < N → Rw W W0.heap.size (lst n k) → YieldAt .wide m Try.prog l #[.slice (some ⟨W0.heap.size, 0, none⟩) n n] W fun e W' => e = .returned (.bool true) ∧ J (k + 1) W') := hY
  clear hJb hJn hY hI
  gi_wp2
  rw [hp]
  clear hp
  gi_loopw [8] (fun p wr => ∃ k : Nat, p = .int .i64 (k : Int) ∧ k ≤ N ∧ J k wr) (fun p _ => N - (intOf p).toNat)
  case atStart => exact ⟨0, rfl, by omega, h0⟩
  case round =>
    obtain ⟨k, rfl, hk, hJk⟩ := hrel
    obtain ⟨W1, hW1⟩ : ∃ W', W' = wr := ⟨_, rfl⟩
    subst hW1
    have hn := HJN.out k W1 hJk
    have zn : Bn < W1.heap.size := World.block_lt_of_cell? _ _ hn
    by_cases h1 : k < N
    · have i1 : (k : Int) < (N : Int) := by omega
      have i0 : (0 : Int) ≤ (k : Int) := by omega
      have in0 : (0 : Int) ≤ (n : Int) := by omega
      have HJK : Hid (J k W1) := hJk
      clear hJk
      gi_wp2_with (gi_at_make; refine wpListIn_full _ rfl _ _ 22 rfl W1.heap.size 3 i3 (.int .i64 0) 1 Try.underlying22 HI.out.1 HI.out.2.1 HI.out.2.2.1 _ _ _ _ n rfl rfl rfl rfl (by rw [HI.out.2.2.2]; omega) (by unfold maxLen; omega) (Nat.le_refl _) ?mk)
      case mk =>
        intro w1 hown hg1
        obtain ⟨g, hg⟩ : ∃ g, g = W1.heap.size := ⟨_, rfl⟩
        have HR : Hid (Rz w1 g n k 0 ∧ Below W1.heap.size W1 w1) := ⟨fun i hi => by rw [hg]; exact made_cells hown i hi, (bl_refl W1).grown hg1 (Nat.le_refl _) (fun k hk => by cases hk)⟩
        have hnW := hn
        have hn := cl_kept HR.out.2 hn
        have zn1 := zn
        have zn : Bn < w1.heap.size := World.block_lt_of_cell? _ _ hn
        have HNE : Hid (Bn ≠ g) := by
          have : Bn ≠ g := by rw [hg]; exact Nat.ne_of_lt zn1
          exact this
        have HG : Hid (g = W1.heap.size) := hg
        rw [← hg]
        clear hown hg1 hg
        gi_wp2
        have HN1 : Hid (W1.cell? ⟨Bn, 0, none⟩ = some (.int .i64 (n : Int))) := hnW
        clear hn zn
        gi_loopw [14] (fun p wx => ∃ j : Nat, p = .int .i64 (j : Int) ∧ j ≤ n ∧ Rz wx g n k j ∧ Below W1.heap.size W1 wx) (fun p _ => n - (intOf p).toNat)
        case atStart => exact ⟨0, rfl, by omega, HR.out.1, HR.out.2⟩
        case round =>
          obtain ⟨j, rfl, hj, hRj, hBj⟩ := hrel
          have HRJ : Hid (Rz wr g n k j ∧ Below W1.heap.size W1 wr) := ⟨hRj, hBj⟩
          have hn := cl_kept hBj HN1.out
          have zn : Bn < wr.heap.size := World.block_lt_of_cell? _ _ hn
          clear hBj
          by_cases hj1 : j < n
          · have j1 : (j : Int) < (n : Int) := by omega
            have j0 : (0 : Int) ≤ (j : Int) := by omega
            obtain ⟨c0, f0⟩ := hRj j hj1
            have zg : g < wr.heap.size := World.block_lt_of_cell? _ _ c0
            have hne : Bn ≠ g := HNE.out
            have hne' : g ≠ Bn := fun e => hne e.symm
            clear hRj
            have hbit := bit_lem k (n - 1 - j) (by omega)
            gi_wp2
            all_goals rename_i hb
            · have hx : lstK n k j = 2 := by rw [lstK, if_pos hb]
              refine ⟨⟨j + 1, by go_num, by omega, HRJ.out.1.put2 hj1 hx, bl_set (bl_set HRJ.out.2 (Nat.le_of_eq HG.out.symm)) (Nat.le_of_eq HG.out.symm)⟩, ?_⟩
              simp [intOf]
              omega
            · have hx : lstK n k j = 1 := by rw [lstK, if_neg hb]
              refine ⟨⟨j + 1, by go_num, by omega, HRJ.out.1.put hj1 hx, bl_set HRJ.out.2 (Nat.le_of_eq HG.out.symm)⟩, ?_⟩
              simp [intOf]
              omega
          · have j1 : ¬ (j : Int) < (n : Int) := by omega
            obtain rfl : j = n := by omega
            have hyy := HY.out k W1 wr HJK.out HRJ.out.2 h1 (by rw [← HG.out]; exact HRJ.out.1.rw)
            rw [← HG.out] at hyy
            obtain ⟨fn, tmps, assign, body, hy, hR⟩ := hyy
            clear hRj
            gi_wp2
            refine ⟨fun h => (by cases h), (RoundIn_any hR).mono ?_⟩
            rintro e W3 ⟨rfl, hJ3⟩
            gi_wp2
            go_roundw
            case rel => exact ⟨k + 1, by go_num, by omega, hJ3⟩
            case measure =>
              simp [intOf]
              omega
    · have i1 : ¬ (k : Int) < (N : Int) := by omega
      obtain rfl : k = N := by omega
      gi_wp2
      go_end0
      exact ⟨⟨_, rfl⟩, hJk⟩
end Go.Proofs.Ytioajagblphbnaa
