import Derived.Test.YthkhiedpkmpifaaDoorPkaj
import Derived.Lib.Builder
import Derived.Lib.AppendStr
import Derived.Lib.UnsafeStr
import Derived.Laws.Externs
import Derived.Test.YthkhiedpkmpifaaDoorPkac
import Derived.Test.YthkhiedpkmpifaaDoorPkaa
import Derived.WideKeyEntry
import Derived.WideKeyRuns
import Derived.Laws.AppendOwn
import Derived.ChangeMaps5
import Derived.Test.YthkhiedpkmpifaaDoorPkah
import Derived.Maps.AppendAt
/- A builder of text: what its writing methods do, and what they leave alone. -/
namespace Go.Proofs.YthkhiedpkmpifaaDoor
open Go.RowKit

/-- All blocks but b's, and but rows of bytes, are as they were. -/
def Kp (w w' : World) (b : Nat) : Prop := ∀ k cs T fr, w.heap[k]? = some (.cells cs T fr) → k ≠ b → T ≠ 5 → w'.heap[k]? = some (.cells cs T fr)
theorem Kp.cell {w w' : World} {b : Nat} (h : Kp w w' b) {k j T : Nat} {cs : Array Value} {fr : Nat × Nat} (hk : w.heap[k]? = some (.cells cs T fr)) (hb : k ≠ b) (hT : T ≠ 5) : w'.cell? ⟨k, j, none⟩ = w.cell? ⟨k, j, none⟩ := by
  rw [Lib.cell_of_heap hk, Lib.cell_of_heap (h k cs T fr hk hb hT)]
theorem inf5 : (Tryd.prog.info? 5).map (fun i => (i.zero, i.size, i.bytes)) = some (some (.int .u8 0), 1, 1) := by kernel_rfl
theorem inf128 : (Tryd.prog.info? 128).map (fun i => i.size) = some 2 := by kernel_rfl
theorem lies128 : liesAt Tryd.prog Tryd.prog.depth 128 (2 / Tryd.prog.cellsOf 128) 0 128 1 = true := by kernel_rfl

set_option maxHeartbeats 1600000 in
set_option maxRecDepth 100000 in
theorem copyCheck_used (b : Nat) (w : World) (h0 : w.cell? ⟨b, 0, none⟩ = some (.pointer (some ⟨b, 0, none⟩))) :
    Calls Tryd.prog 109 #[.pointer (some ⟨b, 0, none⟩)] w fun e w' => e = .returned (.tuple #[]) ∧ w' = w := by
  obtain ⟨j, hj, _⟩ := Option.map_eq_some_iff.1 inf128
  go_enter Tryd.func109, Tryd.ntmps109
  go_wp2
  rw [Lib.run_neq_ptr_same w _ Tryd.underlying126 hj]
  go_wp2
  go_end0
  exact ⟨rfl, rfl⟩
set_option maxHeartbeats 1600000 in
set_option maxRecDepth 100000 in
theorem copyCheck_fresh (b : Nat) (w : World) (h0 : w.cell? ⟨b, 0, none⟩ = some (.pointer none)) (hsh : w.shape? b = some (128, 2)) (hfz : w.frozen? ⟨b, 0, none⟩ = false) :
    Calls Tryd.prog 109 #[.pointer (some ⟨b, 0, none⟩)] w fun e w' => e = .returned (.tuple #[]) ∧ w' = w.setCell ⟨b, 0, none⟩ (.pointer (some ⟨b, 0, none⟩)) := by
  obtain ⟨j, hj, hjs⟩ := Option.map_eq_some_iff.1 inf128
  go_enter Tryd.func109, Tryd.ntmps109
  go_wp2
  rw [Lib.run_to_unsafe w ⟨b, 0, none⟩ Tryd.underlying126 Tryd.underlying150 hj (by rw [hjs]; decide) hsh (Nat.zero_lt_succ 1)]
  simp only [Result.andThen]
  rw [Oper.upon_value]
  go_wp2
  rw [run_callFunc_extern Tryd.func118 (by kernel_rfl) (by kernel_rfl) (by kernel_rfl) (e := Extern.AbiNoEscape.same) (by kernel_rfl)]
  rw [Lib.run_noEscape]
  simp only [Result.andThen]
  rw [Oper.upon_value]
  go_wp2
  rw [Lib.run_from_unsafe w ⟨b, 0, none⟩ Tryd.underlying150 Tryd.underlying126 hj hsh lies128]
  simp only [Result.andThen]
  rw [Oper.upon_value]
  go_wp2
  go_end0
  exact ⟨rfl, rfl⟩
theorem copyCheck_any (B b : Nat) (bs : List Value) (w : World) (h : Lib.IsBuilder 128 5 B b bs w) :
    Calls Tryd.prog 109 #[.pointer (some ⟨b, 0, none⟩)] w fun e w' => e = .returned (.tuple #[]) ∧ Lib.BuilderAt 128 5 B b (.pointer (some ⟨b, 0, none⟩)) bs w' ∧ Below B w w' ∧ Kp w w' b := by
  rcases h with h | h
  · refine (copyCheck_fresh b w h.cell0 h.shape h.frozen0).mono ?_
    rintro e w' ⟨rfl, rfl⟩
    exact ⟨rfl, h.used _, (Below.refl B w).setCell (p := ⟨b, 0, none⟩) h.1 _, fun k cs T fr hk hb _ => (Below.heap_setCell _ _ _ k hb).trans hk⟩
  · refine (copyCheck_used b w h.cell0).mono ?_
    rintro e w' ⟨rfl, rfl⟩
    exact ⟨rfl, h, Below.refl B _, fun k cs T fr hk _ _ => hk⟩

theorem row_ne {w : World} {B k n T : Nat} {v : Value} {xs : List Value} {cs : Array Value} {fr : Nat × Nat} (ho : w.ownsRow B 5 1 v n xs) (hk : w.heap[k]? = some (.cells cs T fr)) (hT : T ≠ 5) : some k ≠ v.ownBlock := fun e => Lib.ownBlock_ne ho hk hT e.symm

set_option maxHeartbeats 1600000 in
set_option maxRecDepth 100000 in
theorem writeString_any (B b : Nat) (bs : List Value) (s : ByteArray) (w : World) (h : Lib.IsBuilder 128 5 B b bs w) (hlen : bs.length + s.size ≤ 140737488355328) (hBw : B ≤ w.heap.size) :
    Calls Tryd.prog 97 #[.pointer (some ⟨b, 0, none⟩), .string s] w fun e w' => e = .returned (.tuple #[.int .i64 s.size, .nilIface]) ∧ Lib.BuilderAt 128 5 B b (.pointer (some ⟨b, 0, none⟩)) (bs ++ Lib.strCells s) w' ∧ Below B w w' ∧ Kp w w' b := by
  obtain ⟨i0, hi, hz0, hz1, hz2⟩ := info_parts inf5
  go_enter Tryd.func97, Tryd.ntmps97
  go_wp2_with (go_at_call 109; refine (copyCheck_any B b bs _ h).mono ?_)
  rintro e w1 ⟨rfl, ⟨hB, v, hbk, hown, hne⟩, hb1, hk1⟩
  have c0 : w1.cell? ⟨b, 0, none⟩ = some (.pointer (some ⟨b, 0, none⟩)) := by rw [Lib.cell_of_heap hbk]; rfl
  have c1 : w1.cell? ⟨b, 1, none⟩ = some v := by rw [Lib.cell_of_heap hbk]; rfl
  go_wp2_with (at_builtin; refine Lib.wpList_append_own_string _ rfl _ _ 115 9 rfl B 5 i0 Tryd.underlying115 Tryd.underlying9 hi hz0 hz1 hz2 _ _ _ rfl hown s rfl ?c3 ?c4 ?c5 ?_)
  case c3 => unfold maxLen; omega
  case c4 => omega
  case c5 => have := hb1.size; omega
  intro v' w2 hown' hgrow _
  have hlt : b < w1.heap.size := (Array.getElem?_eq_some_iff.1 hbk).1
  have hb2 : w2.heap[b]? = some (.cells #[.pointer (some ⟨b, 0, none⟩), v] 128 (0, 0)) := (hgrow.block b hlt (fun e => hne e.symm)).trans hbk
  have d0 : w2.cell? ⟨b, 0, none⟩ = some (.pointer (some ⟨b, 0, none⟩)) := by rw [Lib.cell_of_heap hb2]; rfl
  have d1 : w2.cell? ⟨b, 1, none⟩ = some v := by rw [Lib.cell_of_heap hb2]; rfl
  have f1 : w2.frozen? ⟨b, 1, none⟩ = false := Lib.frozen_of_heap hb2 1
  obtain ⟨ao, n', cap, rfl⟩ : ∃ ao n' cap, v' = .slice ao n' cap := by
    rcases hown'.2 with ⟨hv, _⟩ | ⟨g, cap, cur, hv, _⟩
    · exact ⟨_, _, _, hv⟩
    · exact ⟨_, _, _, hv⟩
  go_wp2
  go_ret2
  refine ⟨rfl, ?_, ?_, fun k cs T fr hk hkb hT => ?_⟩
  · exact Lib.BuilderAt.put (T := 128) (e := 5) hB hb2 (bs' := bs ++ Lib.strCells s) (by simpa [Lib.strCells_length] using hown') (by decide)
  · exact (hb1.grown hgrow (by have := hb1.size; omega) (fun k hk => (hown.lt k hk).1)).setCell (p := ⟨b, 1, none⟩) hB _
  · have q1 := hk1 k cs T fr hk hkb hT
    exact (Below.heap_setCell _ _ _ k hkb).trans ((hgrow.block k (Array.getElem?_eq_some_iff.1 q1).1 (row_ne hown q1 hT)).trans q1)

set_option maxHeartbeats 1600000 in
set_option maxRecDepth 100000 in
theorem writeByte_any (B b : Nat) (bs : List Value) (c : Int) (w : World) (h : Lib.IsBuilder 128 5 B b bs w) (hlen : bs.length + 1 ≤ 140737488355328) (hBw : B ≤ w.heap.size) :
    Calls Tryd.prog 99 #[.pointer (some ⟨b, 0, none⟩), .int .u8 c] w fun e w' => e = .returned .nilIface ∧ Lib.BuilderAt 128 5 B b (.pointer (some ⟨b, 0, none⟩)) (bs ++ [.int .u8 c]) w' ∧ Below B w w' := by
  obtain ⟨i0, hi, hz0, hz1, hz2⟩ := info_parts inf5
  go_enter Tryd.func99, Tryd.ntmps99
  go_wp2_with (go_at_call 109; refine (copyCheck_any B b bs _ h).mono ?_)
  rintro e w1 ⟨rfl, ⟨hB, v, hbk, hown, hne⟩, hb1, hk1⟩
  have c0 : w1.cell? ⟨b, 0, none⟩ = some (.pointer (some ⟨b, 0, none⟩)) := by rw [Lib.cell_of_heap hbk]; rfl
  have c1 : w1.cell? ⟨b, 1, none⟩ = some v := by rw [Lib.cell_of_heap hbk]; rfl
  have hlt : b < w1.heap.size := (Array.getElem?_eq_some_iff.1 hbk).1
  go_wp2_with (at_builtin; refine wpList_append_own _ rfl _ _ 115 rfl B 5 i0 (.int .u8 0) 1 1 Tryd.underlying115 hi hz0 hz1 hz2 rfl (by decide) _ _ _ rfl (hown.alloc _) ⟨w1.heap.size, 0, none⟩ 1 1 [.int .u8 c] rfl rfl ?c1 ?c2 ?c3 ?c4 ?c5 ?_)
  case c1 =>
    intro j u hj
    match j, hj with
    | 0, hj => simp at hj; subst hj; simp [Addr.add]
  case c2 => intro u hu; simp at hu; subst hu; rfl
  case c3 => unfold maxLen; omega
  case c4 => omega
  case c5 => have := hb1.size; simp; omega
  intro v' w2 hown' hgrow _
  have hb2 : w2.heap[b]? = some (.cells #[.pointer (some ⟨b, 0, none⟩), v] 128 (0, 0)) := by
    rw [hgrow.block b (by simp; omega) (fun e => hne e.symm), Lib.alloc_old w1 _ b hlt]
    exact hbk
  have d0 : w2.cell? ⟨b, 0, none⟩ = some (.pointer (some ⟨b, 0, none⟩)) := by rw [Lib.cell_of_heap hb2]; rfl
  have d1 : w2.cell? ⟨b, 1, none⟩ = some v := by rw [Lib.cell_of_heap hb2]; rfl
  have f1 : w2.frozen? ⟨b, 1, none⟩ = false := Lib.frozen_of_heap hb2 1
  obtain ⟨g, cap, rfl⟩ : ∃ g cap, v' = .slice (some ⟨g, 0, none⟩) (bs.length + 1) cap := by
    rcases hown'.2 with ⟨_, h0⟩ | ⟨g, cap, cur, hv, _⟩
    · omega
    · exact ⟨g, cap, hv⟩
  go_wp2
  go_ret
  refine ⟨rfl, ?_, ?_⟩
  · exact Lib.BuilderAt.put (T := 128) (e := 5) hB hb2 (bs' := bs ++ [.int .u8 c]) (by simpa using hown') (by decide)
  · exact ((hb1.alloc (by have := hb1.size; omega) _).grown hgrow (by have := hb1.size; simp; omega) (fun k hk => (hown.lt k hk).1)).setCell (p := ⟨b, 1, none⟩) hB _
end Go.Proofs.YthkhiedpkmpifaaDoor

/- Numbers and letters of a sheet's text. -/
namespace Go.Proofs.YthkhiedpkmpifaaDoor
open Go.RowKit

/-- Numbers, each behind a blank. -/
def nmL (ns : List Nat) : List UInt8 := ns.flatMap fun n => 32 :: dgs n
theorem bytes_eq {t : ByteArray} {l : List UInt8} (h : t.data.toList = l) : t = ⟨l.toArray⟩ := by
  cases t
  subst h
  simp
theorem nmL_take (ns : List Nat) (i : Nat) (h : i < ns.length) : nmL (ns.take (i + 1)) = nmL (ns.take i) ++ (32 :: dgs ns[i]) := by
  unfold nmL
  rw [List.take_succ_eq_append_getElem h, List.flatMap_append]
  simp only [List.flatMap_cons, List.flatMap_nil, List.append_nil]
theorem dgs_len (n : Nat) : (dgs n).length ≤ 2 := by
  unfold dgs
  split <;> simp
theorem nmL_len (ns : List Nat) : (nmL ns).length ≤ 3 * ns.length := by
  induction ns with
  | nil => simp [nmL]
  | cons a r ih =>
    have : nmL (a :: r) = (32 :: dgs a) ++ nmL r := by simp [nmL]
    rw [this, List.length_append, List.length_cons, List.length_cons]
    have := dgs_len a
    omega

set_option maxRecDepth 100000 in
set_option maxHeartbeats 1600000 in
theorem numbers_any (g cap : Nat) (ns : List Nat) (w : World) (hn : ∀ n ∈ ns, n < 100) (hl : ns.length ≤ 10) (hc : ∀ i (h : i < ns.length), w.cell? ⟨g, i, none⟩ = some (.int .i64 ((ns[i] : Nat) : Int))) :
    Calls Tryd.prog 98 #[.slice (some ⟨g, 0, none⟩) ns.length cap] w fun e w' => e = .returned (.string ⟨(nmL ns).toArray⟩) ∧ w' = w := by
  have HC : Hid (∀ i (h : i < ns.length), w.cell? ⟨g, i, none⟩ = some (.int .i64 ((ns[i] : Nat) : Int))) := hc
  have HN : Hid (∀ n ∈ ns, n < 100) := hn
  clear hc hn
  go_enter Tryd.func98, Tryd.ntmps98
  go_wp2
  go_loopg [3, 8] ns.length (fun gk s3 s8 wx => ∃ (i : Nat) (t : ByteArray), i ≤ ns.length ∧ gk = ns.length - i ∧ s8 = .int .i64 (i : Int) ∧ s3 = .string t ∧ t.data.toList = nmL (ns.take i) ∧ t.size ≤ 3 * i ∧ wx = w)
  case atStart => exact ⟨0, _, by omega, rfl, rfl, rfl, by simp [nmL], by simp [ByteArray.size], rfl⟩
  case round =>
    obtain ⟨i, t, hi, rfl, rfl, rfl, ht, hz, rfl⟩ := hrel
    have HT : Hid (t.data.toList = nmL (ns.take i)) := ht
    clear ht
    by_cases h1 : i < ns.length
    · have i1 : (i : Int) < (ns.length : Int) := by omega
      have i0 : (0 : Int) ≤ (i : Int) := by omega
      have c0 := HC.out i h1
      have hlt := HN.out _ (List.getElem_mem h1)
      obtain ⟨m, hm⟩ : ∃ m, m = ns[i] := ⟨_, rfl⟩
      rw [← hm] at c0 hlt
      have HM : Hid (m = ns[i]) := hm
      clear hm
      have zd := dgB_size m
      have CI : Hid (∀ W' : World, Calls Tryd.prog 110 #[.int .i64 (m : Int)] W' fun e w' => e = .returned (.string (dgB m)) ∧ w' = W') := fun W' => by
        have := Tryd.strconv_Itoa_small m hlt W'
        rw [dgs_lib m hlt] at this
        exact this
      go_wp2_with (go_at_call 110; refine (CI.out _).mono ?_; rintro e w9 ⟨rfl, hw9⟩; have hw9b := hw9.symm; clear hw9; subst hw9b)
      go_roundg (ns.length - (i + 1))
      case measure => omega
      case rel =>
        refine ⟨i + 1, _, by omega, rfl, by go_num, rfl, ?_, ?_, rfl⟩
        · rw [app_list, app_list, HT.out, dgB_list, nmL_take ns i h1, ← HM.out]
          simp
        · rw [ByteArray.size_append, ByteArray.size_append, show ByteArray.size ⟨#[32]⟩ = 1 from rfl]
          omega
    · have i1 : ¬ (i : Int) < (ns.length : Int) := by omega
      obtain rfl : i = ns.length := by omega
      go_wp2
      go_ret
      refine ⟨?_, rfl⟩
      have := bytes_eq HT.out
      rw [List.take_length] at this
      rw [← this]
      rfl

def kdB (k : Int) : UInt8 := if k = 1 then 109 else 118
theorem letter_any (k : Int) (w : World) : Calls Tryd.prog 100 #[.int .i64 k] w fun e w' => e = .returned (.string ⟨#[kdB k]⟩) ∧ w' = w := by
  by_cases h : k = 1
  · subst h
    go_enter Tryd.func100, Tryd.ntmps100
    go_wp2
    go_ret
    exact ⟨rfl, rfl⟩
  · have hb : (k == 1) = false := by simpa using h
    have hd : kdB k = 118 := by simp [kdB, h]
    go_enter Tryd.func100, Tryd.ntmps100
    go_wp2
    go_ret
    exact ⟨by rw [hd]; rfl, rfl⟩
theorem idx_letter (z : Int) (h0 : 0 ≤ z) (h1 : z ≤ 15) (w : World) : (Instr.index 9 (.string ⟨#[48, 49, 50, 51, 52, 53, 54, 55, 56, 57, 97, 98, 99, 100, 101, 102]⟩) (.int .i64 z)).run Tryd.prog w = .ok (.int .u8 ((ltB z).toNat : Int)) w := by
  have key : ∀ m : Nat, m < 16 → (Instr.index 9 (.string ⟨#[48, 49, 50, 51, 52, 53, 54, 55, 56, 57, 97, 98, 99, 100, 101, 102]⟩) (.int .i64 (m : Int))).run Tryd.prog w = .ok (.int .u8 ((ltB (m : Int)).toNat : Int)) w := by
    intro m hm
    match m, hm with
    | 0, _ => exact (show _ = _ from by kernel_rfl)
    | 1, _ => exact (show _ = _ from by kernel_rfl)
    | 2, _ => exact (show _ = _ from by kernel_rfl)
    | 3, _ => exact (show _ = _ from by kernel_rfl)
    | 4, _ => exact (show _ = _ from by kernel_rfl)
    | 5, _ => exact (show _ = _ from by kernel_rfl)
    | 6, _ => exact (show _ = _ from by kernel_rfl)
    | 7, _ => exact (show _ = _ from by kernel_rfl)
    | 8, _ => exact (show _ = _ from by kernel_rfl)
    | 9, _ => exact (show _ = _ from by kernel_rfl)
    | 10, _ => exact (show _ = _ from by kernel_rfl)
    | 11, _ => exact (show _ = _ from by kernel_rfl)
    | 12, _ => exact (show _ = _ from by kernel_rfl)
    | 13, _ => exact (show _ = _ from by kernel_rfl)
    | 14, _ => exact (show _ = _ from by kernel_rfl)
    | 15, _ => exact (show _ = _ from by kernel_rfl)
    | m + 16, hm => omega
  have := key z.toNat (by omega)
  rwa [show ((z.toNat : Nat) : Int) = z by omega] at this
end Go.Proofs.YthkhiedpkmpifaaDoor

/- Maps whose keys are edges: what a look-up, an entry, a store do. -/
namespace Go.Proofs.YthkhiedpkmpifaaDoor
open Go.RowKit Go.ChangeMaps

/-- An edge as a key. -/
def ek (e : Int × Int × Int × Int) : Value := .agg #[.int .i64 e.1, .int .i64 e.2.1, .int .i64 e.2.2.1, .int .i64 e.2.2.2]
/-- An entry: its key, its value, its stamp. -/
def toE (x : (Int × Int × Int × Int) × Value × Nat) : MapEntry := ⟨ek x.1, x.2.1, x.2.2⟩

theorem equal27 (a b : Int × Int × Int × Int) (w : World) : (Op.equal 27 (ek a) (ek b)).run Tryd.prog w = .ok (decide (a = b)) w := by
  obtain ⟨a0, a1, a2, a3⟩ := a
  obtain ⟨b0, b1, b2, b3⟩ := b
  have h := eql27 a0 a1 a2 a3 b0 b1 b2 b3 w
  have e : sameB a0 a1 a2 a3 b0 b1 b2 b3 = decide ((a0, a1, a2, a3) = (b0, b1, b2, b3)) := by simp [sameB]
  rw [e] at h
  unfold ek
  simp only [binOp, Sem.run_bind, Sem.run_pure] at h
  cases hr : (Op.equal 27 (.agg #[.int .i64 a0, .int .i64 a1, .int .i64 a2, .int .i64 a3]) (.agg #[.int .i64 b0, .int .i64 b1, .int .i64 b2, .int .i64 b3])).run Tryd.prog w with
  | ok r w1 =>
    rw [hr] at h
    simpa [Result.andThen] using h
  | halt x w1 =>
    rw [hr] at h
    simp [Result.andThen] at h
theorem checkInt (em : Bool) (n : Nat) (a : Int) (w : World) : (Instr.checkKey em (n + 1) 3 (.int .i64 a)).run Tryd.prog w = .ok () w := by
  simp [Instr.checkKey, run_underlying Tryd.underlying3, Result.andThen]
theorem check25 (em : Bool) (n : Nat) (a b : Int) (w : World) : (Instr.checkKey em (n + 2) 25 (.agg #[.int .i64 a, .int .i64 b])).run Tryd.prog w = .ok () w := by
  rw [show n + 2 = (n + 1) + 1 by omega]
  unfold Instr.checkKey
  simp [run_underlying Tryd.underlying25, go_sem, checkInt]
theorem check27a (em : Bool) (n : Nat) (a b c d : Int) (w : World) : (Instr.checkKey em (n + 3) 27 (.agg #[.int .i64 a, .int .i64 b, .int .i64 c, .int .i64 d])).run Tryd.prog w = .ok () w := by
  rw [show n + 3 = (n + 2) + 1 by omega]
  unfold Instr.checkKey
  simp [run_underlying Tryd.underlying27, go_sem, check25]
theorem check27 (em : Bool) (a : Int × Int × Int × Int) (w : World) : (Instr.checkKey em 10000 27 (ek a)).run Tryd.prog w = .ok () w := check27a em 9997 _ _ _ _ w
theorem stays27 (a : Int × Int × Int × Int) (w : World) : (Instr.keyThatStays (ek a) (ek a)).run Tryd.prog w = .ok (ek a) w := by
  have : Instr.sameBits 10000 (ek a) (ek a) = true := by
    unfold ek
    show Instr.sameBits (9999 + 1) _ _ = true
    simp [Instr.sameBits]
  simp [Instr.keyThatStays, this]
theorem find27 (k : Int × Int × Int × Int) (w : World) : ∀ (ls : List ((Int × Int × Int × Int) × Value × Nat)) (i : Nat),
    ((Instr.findAsking 27 (ek k) (ls.map toE) i).run Tryd.prog w = .ok none w ∧ ∀ x ∈ ls, x.1 ≠ k) ∨
    ∃ j x, (Instr.findAsking 27 (ek k) (ls.map toE) i).run Tryd.prog w = .ok (some (i + j, x.2.1)) w ∧ ls[j]? = some x ∧ x.1 = k
  | [], i => Or.inl ⟨by simp [Instr.findAsking], by simp⟩
  | x :: r, i => by
    by_cases h : k = x.1
    · refine Or.inr ⟨0, x, ?_, rfl, h.symm⟩
      have hq := equal27 k x.1 w
      rw [decide_eq_true h] at hq
      rw [List.map_cons]
      simp only [Instr.findAsking, toE, Sem.run_bind, hq, Result.andThen]
      rfl
    · have hq := equal27 k x.1 w
      rw [decide_eq_false h] at hq
      rcases find27 k w r (i + 1) with ⟨h1, h2⟩ | ⟨j, y, h1, h2, h3⟩
      · refine Or.inl ⟨?_, ?_⟩
        · rw [List.map_cons]
          simp only [Instr.findAsking, toE, Sem.run_bind, hq, Result.andThen]
          exact h1
        · intro y hy
          rcases List.mem_cons.1 hy with rfl | hy
          · exact fun e => h e.symm
          · exact h2 y hy
      · refine Or.inr ⟨j + 1, y, ?_, by simpa using h2, h3⟩
        rw [List.map_cons]
        simp only [Instr.findAsking, toE, Sem.run_bind, hq, Result.andThen]
        rw [show i + (j + 1) = i + 1 + j by omega]
        exact h1
end Go.Proofs.YthkhiedpkmpifaaDoor

/- A map whose keys are edges, as it lies in memory. -/
namespace Go.Proofs.YthkhiedpkmpifaaDoor
open Go.RowKit Go.ChangeMaps

/-- The map's object. -/
def EM (w : World) (r : Nat) (ls : List ((Int × Int × Int × Int) × Value × Nat)) (clock : Nat) : Prop := w.heap[r]? = some (.map (ls.map toE).toArray clock)
/-- Each key once, each stamp once, all of them old. -/
def Good (ls : List ((Int × Int × Int × Int) × Value × Nat)) (clock : Nat) : Prop := (ls.map (fun x => x.1)).Nodup ∧ (ls.map (fun x => x.2.2)).Nodup ∧ ∀ x ∈ ls, x.2.2 < clock
/-- What is at a key. -/
def lk : List ((Int × Int × Int × Int) × Value × Nat) → Int × Int × Int × Int → Option Value
  | [], _ => none
  | x :: r, k => if x.1 = k then some x.2.1 else lk r k
theorem lk_not {k : Int × Int × Int × Int} : ∀ {ls : List ((Int × Int × Int × Int) × Value × Nat)}, (∀ x ∈ ls, x.1 ≠ k) → lk ls k = none
  | [], _ => rfl
  | x :: r, h => by simp [lk, h x (by simp), lk_not (ls := r) (fun y hy => h y (by simp [hy]))]
theorem lk_none {k : Int × Int × Int × Int} : ∀ {ls : List ((Int × Int × Int × Int) × Value × Nat)}, lk ls k = none → ∀ x ∈ ls, x.1 ≠ k
  | [], _ => by simp
  | x :: r, h => by
    unfold lk at h
    split at h
    · cases h
    · rename_i hx
      intro y hy
      rcases List.mem_cons.1 hy with rfl | hy
      · exact hx
      · exact lk_none h y hy
theorem lk_at {k : Int × Int × Int × Int} : ∀ {ls : List ((Int × Int × Int × Int) × Value × Nat)} {j : Nat} {x : (Int × Int × Int × Int) × Value × Nat}, (ls.map (fun x => x.1)).Nodup → ls[j]? = some x → x.1 = k → lk ls k = some x.2.1
  | [], _, _, _, h, _ => by simp at h
  | y :: r, 0, x, _, h, hk => by
    simp at h
    subst h
    simp [lk, hk]
  | y :: r, j + 1, x, hn, h, hk => by
    simp only [List.getElem?_cons_succ] at h
    simp only [List.map_cons, List.nodup_cons] at hn
    have hne : y.1 ≠ k := fun e => hn.1 (List.mem_map.2 ⟨x, List.mem_of_getElem? h, hk.trans e.symm⟩)
    simp [lk, hne, lk_at hn.2 h hk]
theorem lk_mem {k : Int × Int × Int × Int} {v : Value} : ∀ {ls : List ((Int × Int × Int × Int) × Value × Nat)}, lk ls k = some v → ∃ b, (k, v, b) ∈ ls
  | [], h => by simp [lk] at h
  | y :: r, h => by
    unfold lk at h
    split at h
    · rename_i e
      simp at h
      subst h
      subst e
      exact ⟨y.2.2, by simp⟩
    · obtain ⟨b, hb⟩ := lk_mem h
      exact ⟨b, by simp [hb]⟩
theorem lk_push {ls : List ((Int × Int × Int × Int) × Value × Nat)} {k j : Int × Int × Int × Int} {v : Value} {c : Nat} (h : ∀ x ∈ ls, x.1 ≠ k) : lk (ls ++ [(k, v, c)]) j = if j = k then some v else lk ls j := by
  induction ls with
  | nil => by_cases e : j = k
           · simp [lk, e]
           · have e' : ¬ k = j := fun h => e h.symm
             simp [lk, e, e']
  | cons y r ih =>
    have ih := ih (fun x hx => h x (by simp [hx]))
    simp only [List.cons_append, lk, ih]
    by_cases e : j = k
    · subst e
      simp [h y (by simp)]
    · simp [e]
theorem lk_set : ∀ {ls : List ((Int × Int × Int × Int) × Value × Nat)} {i : Nat} {x : (Int × Int × Int × Int) × Value × Nat} {k j : Int × Int × Int × Int} {v : Value}, (ls.map (fun x => x.1)).Nodup → ls[i]? = some x → x.1 = k → lk (ls.set i (k, v, x.2.2)) j = if j = k then some v else lk ls j
  | [], _, _, _, _, _, _, h, _ => by simp at h
  | y :: r, 0, x, k, j, v, _, h, hk => by
    simp at h
    subst h
    by_cases e : j = k
    · simp [lk, e]
    · have e' : ¬ k = j := fun h => e h.symm
      simp [lk, e, hk, e']
  | y :: r, i + 1, x, k, j, v, hn, h, hk => by
    simp only [List.getElem?_cons_succ] at h
    simp only [List.map_cons, List.nodup_cons] at hn
    have hne : y.1 ≠ k := fun e => hn.1 (List.mem_map.2 ⟨x, List.mem_of_getElem? h, hk.trans e.symm⟩)
    have ih := lk_set (j := j) (v := v) hn.2 h hk
    simp only [List.set_cons_succ, lk, ih]
    by_cases e : j = k
    · subst e
      simp [hne]
    · simp [e]
theorem set_keys {ls : List ((Int × Int × Int × Int) × Value × Nat)} {i : Nat} {x : (Int × Int × Int × Int) × Value × Nat} (h : ls[i]? = some x) (v : Value) : (ls.set i (x.1, v, x.2.2)).map (fun x => x.1) = ls.map (fun x => x.1) ∧ (ls.set i (x.1, v, x.2.2)).map (fun x => x.2.2) = ls.map (fun x => x.2.2) := by
  constructor
  · rw [List.map_set]
    exact WideElems.set_self _ _ _ (by simp [h])
  · rw [List.map_set]
    exact WideElems.set_self _ _ _ (by simp [h])
theorem good_push {ls : List ((Int × Int × Int × Int) × Value × Nat)} {clock : Nat} {k : Int × Int × Int × Int} {v : Value} (hg : Good ls clock) (h : ∀ x ∈ ls, x.1 ≠ k) : Good (ls ++ [(k, v, clock)]) (clock + 1) := by
  obtain ⟨g1, g2, g3⟩ := hg
  refine ⟨?_, ?_, ?_⟩
  · rw [List.map_append, List.nodup_append]
    refine ⟨g1, by simp, fun a ha b hb => ?_⟩
    obtain ⟨x, hx, rfl⟩ := List.mem_map.1 ha
    simp at hb
    subst hb
    exact h x hx
  · rw [List.map_append, List.nodup_append]
    refine ⟨g2, by simp, fun a ha b hb => ?_⟩
    obtain ⟨x, hx, rfl⟩ := List.mem_map.1 ha
    simp at hb
    subst hb
    have := g3 x hx
    omega
  · intro x hx
    rcases List.mem_append.1 hx with hx | hx
    · have := g3 x hx
      omega
    · simp at hx
      subst hx
      simp
theorem good_set {ls : List ((Int × Int × Int × Int) × Value × Nat)} {clock i : Nat} {x : (Int × Int × Int × Int) × Value × Nat} (hg : Good ls clock) (h : ls[i]? = some x) (v : Value) : Good (ls.set i (x.1, v, x.2.2)) clock := by
  obtain ⟨g1, g2, g3⟩ := hg
  have hk := set_keys h v
  refine ⟨hk.1 ▸ g1, hk.2 ▸ g2, fun y hy => ?_⟩
  have : y.2.2 ∈ (ls.set i (x.1, v, x.2.2)).map (fun x => x.2.2) := List.mem_map.2 ⟨y, hy, rfl⟩
  rw [hk.2] at this
  obtain ⟨z, hz, e⟩ := List.mem_map.1 this
  have := g3 z hz
  omega

theorem findKey27 (x : Value) (es : List MapEntry) (w : World) : (Instr.findKey 27 x es).run Tryd.prog w = (Instr.findAsking 27 x es).run Tryd.prog w := by
  cases es with
  | nil => simp [Instr.findKey, run_underlying Tryd.underlying27, Instr.findNow, Instr.findAsking]
  | cons e es => simp [Instr.findKey, run_underlying Tryd.underlying27, Instr.findNow, Instr.sameNow]

theorem lookup27 {T E : TypeId} {z : Value} (ht : Tryd.prog.underlying T = some (.map 27 E)) (hz : ∀ u : World, (zeroValue E).run Tryd.prog u = .ok z u) {w : World} {r : Nat} {ls : List ((Int × Int × Int × Int) × Value × Nat)} {clock : Nat} (h : EM w r ls clock) (hg : Good ls clock) (k : Int × Int × Int × Int) :
    (Instr.lookup T (.map (some r)) (ek k) false).run Tryd.prog w = .ok ((lk ls k).getD z) w := by
  unfold EM at h
  have hf := fun em => check27 em k w
  rcases find27 k w ls 0 with ⟨h1, h2⟩ | ⟨j, x, h1, h2, h3⟩
  · rw [lk_not h2]
    have h1' : (Instr.findKey 27 (ek k) (ls.map toE)).run Tryd.prog w = .ok none w := (findKey27 _ _ _).trans h1
    simp [Instr.lookup, run_underlying ht, MapKept.run_getObj_map h, hf, h1', hz, Result.andThen]
  · rw [lk_at hg.1 h2 h3]
    have h1' : (Instr.findKey 27 (ek k) (ls.map toE)).run Tryd.prog w = .ok (some (j, x.2.1)) w := (findKey27 _ _ _).trans (by simpa using h1)
    simp [Instr.lookup, run_underlying ht, MapKept.run_getObj_map h, hf, h1', Result.andThen]

theorem grown_set {w : World} {r : Nat} {es : Array MapEntry} {c : Nat} (h : w.heap[r]? = some (.map es c)) (o : Obj) : w.grownBy (setBlock w r o) (some r) :=
  ⟨rfl, rfl, rfl, by simp [setBlock], fun _ _ hi => heap_setBlock_other h _ (fun e1 => hi (by rw [e1]))⟩

/-- m[k] = f(m[k]): the entry, and the store into it. -/
theorem entry27 {T E : TypeId} {z : Value} (ht : Tryd.prog.underlying T = some (.map 27 E)) (hz : ∀ u : World, (zeroValue E).run Tryd.prog u = .ok z u) {w : World} {r : Nat} {ls : List ((Int × Int × Int × Int) × Value × Nat)} {clock : Nat} (h : EM w r ls clock) (hg : Good ls clock) (k : Int × Int × Int × Int) :
    ∃ st ls1 clock1, (Instr.mapEntry T (.map (some r)) (ek k)).run Tryd.prog w = .ok (.tuple #[(lk ls k).getD z, goInt st]) (setBlock w r (.map (ls1.map toE).toArray clock1)) ∧
      ∀ val, ∃ ls' clock', Good ls' clock' ∧ (∀ j, lk ls' j = if j = k then some val else lk ls j) ∧ (ls'.length = ls.length + if lk ls k = none then 1 else 0) ∧
        ∀ w2, EM w2 r ls1 clock1 → (Instr.entryStore T (.map (some r)) (goInt st) val).run Tryd.prog w2 = .ok () (setBlock w2 r (.map (ls'.map toE).toArray clock')) := by
  have hb := h
  unfold EM at hb
  have hf := fun em => check27 em k w
  rcases find27 k w ls 0 with ⟨h1, h2⟩ | ⟨j, x, h1, h2, h3⟩
  · have h1' : (Instr.findKey 27 (ek k) (ls.map toE)).run Tryd.prog w = .ok none w := (findKey27 _ _ _).trans h1
    refine ⟨clock, ls ++ [(k, z, clock)], clock + 1, ?_, fun val => ⟨ls ++ [(k, val, clock)], clock + 1, good_push hg h2, fun j => lk_push h2, by simp [lk_not h2], fun w2 hw2 => ?_⟩⟩
    · rw [lk_not h2]
      simp [Instr.mapEntry, run_underlying ht, MapKept.run_getObj_map hb, hf, h1', hz, MapKept.run_setObj_map _ hb, Result.andThen, setBlock, toE]
    · unfold EM at hw2
      have hidx : ((ls ++ [(k, z, clock)]).map toE).toArray.findIdx? (fun e => ((e.born : Nat) : Int) == ((clock : Nat) : Int)) = some ls.length := by
        rw [WideElems.findIdx_arr]
        have hn : (((ls ++ [(k, z, clock)]).map toE).map (fun e => e.born)).Nodup := by
          have := (good_push (v := z) hg h2).2.1
          rw [List.map_map]
          exact this
        exact WideElems.findIdx_born hn (j := ls.length) (e0 := toE (k, z, clock)) (by simp)
      have hmod : ((ls ++ [(k, z, clock)]).map toE).toArray.modify ls.length (fun e => { e with val := val }) = ((ls ++ [(k, val, clock)]).map toE).toArray := by
        apply Array.ext'
        rw [Array.toList_modify]
        have := WideElems.modify_last (fun e : MapEntry => { e with val := val }) (toE (k, z, clock)) (ls.map toE)
        rw [List.length_map] at this
        simpa [toE] using this
      simp only [Instr.entryStore, Sem.run_bind, MapKept.run_getObj_map hw2, Result.andThen, asInt, asIntOf, goInt, Sem.run_pure, hidx, hmod, MapKept.run_setObj_map _ hw2, setBlock]
  · have h1' : (Instr.findKey 27 (ek k) (ls.map toE)).run Tryd.prog w = .ok (some (j, x.2.1)) w := (findKey27 _ _ _).trans (by simpa using h1)
    have hj : ((ls.map toE).toArray)[j]? = some (toE x) := by simp [h2]
    have hjl : (ls.map toE)[j]? = some (toE x) := by simp [h2]
    have hkx : (toE x).key = ek k := by simp [toE, h3]
    have hsame : (ls.map toE).toArray.modify j (fun e => { e with key := ek k }) = (ls.map toE).toArray := by
      apply Array.ext'
      rw [Array.toList_modify]
      show (ls.map toE).modify j _ = ls.map toE
      rw [modify_eq_set _ _ _ _ hjl]
      have : ({ toE x with key := ek k } : MapEntry) = toE x := by rw [← hkx]
      rw [this]
      exact WideElems.set_self _ _ _ hjl
    have hst := stays27 k w
    have e1 : lk ls k = some x.2.1 := lk_at hg.1 h2 h3
    refine ⟨x.2.2, ls, clock, ?_, fun val => ⟨ls.set j (x.1, val, x.2.2), clock, good_set hg h2 val, fun i => by have := lk_set (j := i) (v := val) hg.1 h2 h3; rwa [← h3] at this ⊢, by simp [e1], fun w2 hw2 => ?_⟩⟩
    · rw [e1]
      have hb0 : (toE x).born = x.2.2 := rfl
      simp only [Instr.mapEntry, Sem.run_bind, run_underlying ht, MapKept.run_getObj_map hb, hf, h1', Result.andThen, hj, Option.map_some, Option.getD_some, hkx, hst, hsame, MapKept.run_setObj_map _ hb, Sem.run_pure, hb0, setBlock]
    · unfold EM at hw2
      have hidx : (ls.map toE).toArray.findIdx? (fun e => ((e.born : Nat) : Int) == ((x.2.2 : Nat) : Int)) = some j := by
        rw [WideElems.findIdx_arr]
        have hn : ((ls.map toE).map (fun e => e.born)).Nodup := by
          rw [List.map_map]
          exact hg.2.1
        exact WideElems.findIdx_born hn (j := j) (e0 := toE x) hjl
      have hmod : (ls.map toE).toArray.modify j (fun e => { e with val := val }) = ((ls.set j (x.1, val, x.2.2)).map toE).toArray := by
        apply Array.ext'
        rw [Array.toList_modify]
        show (ls.map toE).modify j _ = (ls.set j (x.1, val, x.2.2)).map toE
        rw [modify_eq_set _ _ _ _ hjl, List.map_set]
        rfl
      simp only [Instr.entryStore, Sem.run_bind, MapKept.run_getObj_map hw2, Result.andThen, asInt, asIntOf, goInt, Sem.run_pure, hidx, hmod, MapKept.run_setObj_map _ hw2, setBlock]

/-- m[k] = v. -/
theorem update27 {T E : TypeId} (ht : Tryd.prog.underlying T = some (.map 27 E)) {w : World} {r : Nat} {ls : List ((Int × Int × Int × Int) × Value × Nat)} {clock : Nat} (h : EM w r ls clock) (hg : Good ls clock) (k : Int × Int × Int × Int) (val : Value) :
    ∃ ls' clock', (Instr.mapUpdate T (.map (some r)) (ek k) val).run Tryd.prog w = .ok () (setBlock w r (.map (ls'.map toE).toArray clock')) ∧ Good ls' clock' ∧ (∀ j, lk ls' j = if j = k then some val else lk ls j) ∧ (ls'.length = ls.length + if lk ls k = none then 1 else 0) := by
  have hb := h
  unfold EM at hb
  have hf := fun em => check27 em k w
  rcases find27 k w ls 0 with ⟨h1, h2⟩ | ⟨j, x, h1, h2, h3⟩
  · have h1' : (Instr.findKey 27 (ek k) (ls.map toE)).run Tryd.prog w = .ok none w := (findKey27 _ _ _).trans h1
    refine ⟨ls ++ [(k, val, clock)], clock + 1, ?_, good_push hg h2, fun j => lk_push h2, by simp [lk_not h2]⟩
    simp [Instr.mapUpdate, run_underlying ht, MapKept.run_getObj_map hb, hf, h1', MapKept.run_setObj_map _ hb, Result.andThen, setBlock, toE]
  · have h1' : (Instr.findKey 27 (ek k) (ls.map toE)).run Tryd.prog w = .ok (some (j, x.2.1)) w := (findKey27 _ _ _).trans (by simpa using h1)
    have hj : ((ls.map toE).toArray)[j]? = some (toE x) := by simp [h2]
    have hjl : (ls.map toE)[j]? = some (toE x) := by simp [h2]
    have hkx : (toE x).key = ek k := by simp [toE, h3]
    have e1 : lk ls k = some x.2.1 := lk_at hg.1 h2 h3
    have hmod : (ls.map toE).toArray.modify j (fun e => { e with key := ek k, val := val }) = ((ls.set j (x.1, val, x.2.2)).map toE).toArray := by
      apply Array.ext'
      rw [Array.toList_modify]
      show (ls.map toE).modify j _ = (ls.set j (x.1, val, x.2.2)).map toE
      rw [modify_eq_set _ _ _ _ hjl, List.map_set, ← hkx]
      rfl
    have hst := stays27 k w
    refine ⟨ls.set j (x.1, val, x.2.2), clock, ?_, good_set hg h2 val, fun i => by have := lk_set (j := i) (v := val) hg.1 h2 h3; rwa [← h3] at this ⊢, by simp [e1]⟩
    simp only [Instr.mapUpdate, Sem.run_bind, run_underlying ht, MapKept.run_getObj_map hb, hf, h1', Result.andThen, hj, Option.map_some, Option.getD_some, hkx, hst, hmod, MapKept.run_setObj_map _ hb, setBlock]
theorem em_made (w : World) : EM (w.alloc (.map #[] 0)) w.heap.size [] 0 := (MapKept.heap_alloc w _).1
theorem good_nil : Good [] 0 := ⟨by simp, by simp, by simp⟩
end Go.Proofs.YthkhiedpkmpifaaDoor

/- A paper at work, as it lies in memory: its triangles, and of each edge which of them have it. -/
namespace Go.Proofs.YthkhiedpkmpifaaDoor
open Go.RowKit Go.ChangeMaps

/-- Which triangles of a list have an edge. -/
def gix (l : List (Int × Int × Int)) (e : Int × Int × Int × Int) : List Int := ((List.range l.length).filter fun i => hasT (l.getD i (0, 0, 0)) e).map fun (i : Nat) => (i : Int)
theorem gix_nil (e : Int × Int × Int × Int) : gix [] e = [] := rfl
theorem gix_snoc (l : List (Int × Int × Int)) (t : Int × Int × Int) (e : Int × Int × Int × Int) : gix (l ++ [t]) e = gix l e ++ if hasT t e = true then [(l.length : Int)] else [] := by
  unfold gix
  rw [List.length_append, List.length_singleton, List.range_succ, List.filter_append, List.map_append]
  congr 1
  · congr 1
    apply List.filter_congr
    intro i hi
    have hi' : i < l.length := by simpa using hi
    simp [hi', List.getElem_append_left, Nat.lt_succ_of_lt hi']
  · have e1 : (l ++ [t]).getD l.length (0, 0, 0) = t := by simp
    cases h : hasT t e
    · simp [h]
    · simp [h]
theorem gix_len (l : List (Int × Int × Int)) (e : Int × Int × Int × Int) : (gix l e).length ≤ l.length := by
  unfold gix
  rw [List.length_map]
  exact Nat.le_trans (List.length_filter_le _ _) (by simp)
theorem gix_mem {l : List (Int × Int × Int)} {e : Int × Int × Int × Int} {j : Int} : j ∈ gix l e ↔ ∃ i : Nat, ∃ h : i < l.length, j = (i : Int) ∧ hasT l[i] e = true := by
  unfold gix
  simp only [List.mem_map, List.mem_filter, List.mem_range]
  constructor
  · rintro ⟨i, ⟨hi, ht⟩, rfl⟩
    exact ⟨i, hi, rfl, by simpa [hi] using ht⟩
  · rintro ⟨i, hi, rfl, ht⟩
    exact ⟨i, ⟨hi, by simpa [hi] using ht⟩, rfl⟩

/-- Of each edge its triangles, in memory: rows apart from one another and from the row of the triangles. -/
def GP (w : World) (base ra : Nat) (vt : Value) (G : Int × Int × Int × Int → List Int) : Prop :=
  ∃ ls clock, EM w ra ls clock ∧ Good ls clock ∧ (∀ e, lk ls e = none → G e = []) ∧
    (∀ e v, lk ls e = some v → w.ownsRow base 3 1 v (G e).length ((G e).map (Value.int .i64)) ∧ G e ≠ [] ∧ (vt.ownBlock = none ∨ v.ownBlock ≠ vt.ownBlock)) ∧
    (∀ e e' v v', e ≠ e' → lk ls e = some v → lk ls e' = some v' → v.ownBlock ≠ v'.ownBlock)

theorem own_some {w : World} {base : Nat} {e : TypeId} {size : Nat} {v : Value} {n : Nat} {xs : List Value} (h : w.ownsRow base e size v n xs) (hn : 0 < n) : ∃ g, v.ownBlock = some g ∧ base ≤ g ∧ g < w.heap.size := by
  rcases h.2 with ⟨rfl, h0⟩ | ⟨g, cap, cur, rfl, h2, h3, h4⟩
  · omega
  · refine ⟨g, by simp [Value.ownBlock], h2, ?_⟩
    exact (Array.getElem?_eq_some_iff.1 h3).1
theorem own_lt {w : World} {base : Nat} {e : TypeId} {size : Nat} {v : Value} {n : Nat} {xs : List Value} (h : w.ownsRow base e size v n xs) : ∀ g, v.ownBlock = some g → base ≤ g ∧ g < w.heap.size := fun g hg => h.lt g hg

theorem EM.lt {w : World} {r : Nat} {ls : List ((Int × Int × Int × Int) × Value × Nat)} {c : Nat} (h : EM w r ls c) : r < w.heap.size := (Array.getElem?_eq_some_iff.1 h).1
theorem EM.grown {w w' : World} {r : Nat} {ls : List ((Int × Int × Int × Int) × Value × Nat)} {c : Nat} {row : Option Nat} (h : EM w r ls c) (hg : w.grownBy w' row) (hne : some r ≠ row) : EM w' r ls c := (hg.block r h.lt hne).trans h
theorem bl_grown {w v : World} (h : Below w.heap.size w v) : w.grownBy v none := ⟨h.os, h.tape, h.output, h.size, fun k hk _ => h.block k hk⟩

theorem GP.kept {w w' : World} {base ra : Nat} {vt : Value} {G : Int × Int × Int × Int → List Int} (h : GP w base ra vt G) (hb : Below w.heap.size w w') : GP w' base ra vt G := by
  obtain ⟨ls, c, h1, h2, h3, h4, h5⟩ := h
  refine ⟨ls, c, h1.grown (bl_grown hb) (by simp), h2, h3, fun e v he => ?_, h5⟩
  obtain ⟨a1, a2, a3⟩ := h4 e v he
  exact ⟨own_below a1 hb, a2, a3⟩
/-- The row of the triangles is written, or made anew. -/
theorem GP.other {w w' : World} {base ra : Nat} {vt vt' : Value} {G : Int × Int × Int × Int → List Int} (h : GP w base ra vt G) (hra : ra < base) (hg : w.grownBy w' vt.ownBlock) (hvt : ∀ g, vt.ownBlock = some g → base ≤ g) (hl : vt'.ownBlock = vt.ownBlock ∨ vt'.ownBlock = some w.heap.size) : GP w' base ra vt' G := by
  obtain ⟨ls, c, h1, h2, h3, h4, h5⟩ := h
  refine ⟨ls, c, h1.grown hg (fun e => by have := hvt _ e.symm; omega), h2, h3, fun e v he => ?_, h5⟩
  obtain ⟨a1, a2, a3⟩ := h4 e v he
  obtain ⟨g, hg1, hg2, hg3⟩ := own_some a1 (List.length_pos_iff.2 a2)
  refine ⟨a1.kept hg ?_, a2, ?_⟩
  · rcases a3 with a3 | a3
    · rw [hg1, a3]
      exact Or.inr (by simp)
    · exact Or.inr a3
  · rcases hl with hl | hl
    · rw [hl]
      exact a3
    · rw [hl, hg1]
      refine Or.inr (fun e => ?_)
      simp at e
      omega

theorem zero70 (w : World) : (zeroValue 70).run Tryd.prog w = .ok (.slice none 0 0) w := by kernel_rfl

/-- An edge gets one triangle more: the entry, what is appended to it, the store. -/
theorem GP.entry {w : World} {base ra : Nat} {vt : Value} {G : Int × Int × Int × Int → List Int} (h : GP w base ra vt G) (hra : ra < base) (hvt : ∀ g, vt.ownBlock = some g → g < w.heap.size) (e : Int × Int × Int × Int) (n : Int) :
    ∃ v0 st W2, (Instr.mapEntry 103 (.map (some ra)) (ek e)).run Tryd.prog w = .ok (.tuple #[v0, .int .i64 st]) W2 ∧ w.grownBy W2 (some ra) ∧ W2.heap.size = w.heap.size ∧ W2.ownsRow base 3 1 v0 (G e).length ((G e).map (Value.int .i64)) ∧
      ∀ v' W3, W2.grownBy W3 v0.ownBlock → W3.ownsRow base 3 1 v' ((G e).length + 1) ((G e).map (Value.int .i64) ++ [.int .i64 n]) → (v'.ownBlock = v0.ownBlock ∨ v'.ownBlock = some W2.heap.size) →
        ∃ W4, (Instr.entryStore 103 (.map (some ra)) (.int .i64 st) v').run Tryd.prog W3 = .ok () W4 ∧ W3.grownBy W4 (some ra) ∧ GP W4 base ra vt (fun j => if j = e then G e ++ [n] else G j) := by
  obtain ⟨ls, c, h1, h2, h3, h4, h5⟩ := h
  obtain ⟨st, ls1, c1, hrun, hst⟩ := entry27 Tryd.underlying103 zero70 h1 h2 e
  have hb := h1
  unfold EM at hb
  have hg1 := grown_set hb (.map (ls1.map toE).toArray c1)
  have hne : ∀ {W : World} {v : Value} {n : Nat} {xs : List Value}, W.ownsRow base 3 1 v n xs → v.ownBlock = none ∨ v.ownBlock ≠ some ra := fun {W v n xs} ho => by
    cases hu : v.ownBlock with
    | none => exact Or.inl rfl
    | some g =>
      refine Or.inr (fun e1 => ?_)
      have := (ho.lt g hu).1
      simp at e1
      omega
  have hv0 : (setBlock w ra (.map (ls1.map toE).toArray c1)).ownsRow base 3 1 ((lk ls e).getD (.slice none 0 0)) (G e).length ((G e).map (Value.int .i64)) := by
    cases hl : lk ls e with
    | none =>
      rw [h3 e hl]
      exact World.ownsRow_nil _ _ _ _
    | some v =>
      have a := (h4 e v hl).1
      exact a.kept hg1 (hne a)
  have hsz : (setBlock w ra (.map (ls1.map toE).toArray c1)).heap.size = w.heap.size := by simp [setBlock]
  refine ⟨_, (st : Int), _, hrun, hg1, hsz, hv0, fun v' W3 hg2 hown hloc => ?_⟩
  obtain ⟨ls', c', g1, g2, _, g3⟩ := hst v'
  have hem : EM W3 ra ls1 c1 := by
    have e0 : EM (setBlock w ra (.map (ls1.map toE).toArray c1)) ra ls1 c1 := heap_setBlock_same hb _
    refine e0.grown hg2 ?_
    rcases hne hv0 with e1 | e1
    · rw [e1]
      simp
    · exact fun e2 => e1 e2.symm
  have hg3 := grown_set hem (.map (ls'.map toE).toArray c')
  refine ⟨_, g3 W3 hem, hg3, ls', c', heap_setBlock_same hem _, g1, fun j hj => ?_, fun j v hj => ?_, fun j j' v v2 hjj hj hj' => ?_⟩
  · rw [g2 j] at hj
    by_cases e1 : j = e
    · rw [if_pos e1] at hj
      cases hj
    · rw [if_neg e1] at hj
      dsimp only
      rw [if_neg e1]
      exact h3 j hj
  · rw [g2 j] at hj
    by_cases e1 : j = e
    · dsimp only
      rw [if_pos e1] at hj ⊢
      simp at hj
      subst hj
      refine ⟨?_, by simp, ?_⟩
      · have := hown.kept hg3 (hne hown)
        simpa using this
      · rcases hloc with hl | hl
        · cases hlk : lk ls e with
          | none =>
            rw [hlk] at hl
            have : v'.ownBlock = none := by rw [hl]; rfl
            obtain ⟨g, hg, _⟩ := own_some hown (by omega)
            rw [hg] at this
            cases this
          | some v =>
            rw [hlk] at hl
            rw [hl]
            exact (h4 e v hlk).2.2
        · rw [hl]
          cases hvb : vt.ownBlock with
          | none => exact Or.inl rfl
          | some g =>
            have := hvt g hvb
            refine Or.inr (fun e2 => ?_)
            simp at e2
            omega
    · dsimp only
      rw [if_neg e1] at hj ⊢
      obtain ⟨a1, a2, a3⟩ := h4 j v hj
      refine ⟨?_, a2, a3⟩
      have b1 := a1.kept hg1 (hne a1)
      have b2 : W3.ownsRow base 3 1 v (G j).length ((G j).map (Value.int .i64)) := by
        refine b1.kept hg2 ?_
        cases hlk : lk ls e with
        | none =>
          obtain ⟨g, hg, _⟩ := own_some a1 (List.length_pos_iff.2 a2)
          rw [hg]
          exact Or.inr (by simp [Value.ownBlock])
        | some v0 => exact Or.inr (h5 j e v v0 e1 hj hlk)
      exact b2.kept hg3 (hne b2)
  · rw [g2 j] at hj
    rw [g2 j'] at hj'
    have fresh : ∀ i u, i ≠ e → lk ls i = some u → u.ownBlock ≠ v'.ownBlock := fun i u hi hu => by
      obtain ⟨a1, a2, _⟩ := h4 i u hu
      obtain ⟨g, hg, _, hg3⟩ := own_some a1 (List.length_pos_iff.2 a2)
      rcases hloc with hl | hl
      · cases hlk : lk ls e with
        | none =>
          rw [hlk] at hl
          rw [hl, hg]
          simp [Value.ownBlock]
        | some v0 =>
          rw [hlk] at hl
          rw [hl]
          exact h5 i e u v0 hi hu hlk
      · rw [hl, hg, hsz]
        intro e2
        simp at e2
        omega
    by_cases e1 : j = e
    · rw [if_pos e1] at hj
      rw [if_neg (fun e2 => hjj (e1.trans e2.symm))] at hj'
      simp at hj
      subst hj
      exact fun e2 => fresh j' v2 (fun e3 => hjj (e1.trans e3.symm)) hj' e2.symm
    · rw [if_neg e1] at hj
      by_cases e3 : j' = e
      · rw [if_pos e3] at hj'
        simp at hj'
        subst hj'
        exact fresh j v e1 hj
      · rw [if_neg e3] at hj'
        exact h5 j j' v v2 hjj hj hj'
end Go.Proofs.YthkhiedpkmpifaaDoor

/- A paper that is being laid out: what lies where. -/
namespace Go.Proofs.YthkhiedpkmpifaaDoor
open Go.RowKit Go.ChangeMaps

/-- The paper's own three cells. -/
def Pc (w : World) (pb ra rk : Nat) (vt : Value) : Prop :=
  w.cell? ⟨pb, 0, none⟩ = some vt ∧ w.cell? ⟨pb, 1, none⟩ = some (.map (some ra)) ∧ w.cell? ⟨pb, 2, none⟩ = some (.map (some rk)) ∧ w.frozen? ⟨pb, 0, none⟩ = false
theorem Pc.lt {w : World} {pb ra rk : Nat} {vt : Value} (h : Pc w pb ra rk vt) : pb < w.heap.size := World.block_lt_of_cell? _ _ h.1
theorem Pc.grown {w w' : World} {pb ra rk : Nat} {vt : Value} {row : Option Nat} (h : Pc w pb ra rk vt) (hg : w.grownBy w' row) (hne : some pb ≠ row) : Pc w' pb ra rk vt :=
  ⟨hg.cell h.1 hne, hg.cell h.2.1 hne, hg.cell h.2.2.1 hne, (World.frozen?_of_block (a := ⟨pb, 0, none⟩) (hg.block pb h.lt hne)).trans h.2.2.2⟩
theorem Pc.apart {w : World} {pb ra rk r : Nat} {vt : Value} {ls : List ((Int × Int × Int × Int) × Value × Nat)} {c : Nat} (h : Pc w pb ra rk vt) (he : EM w r ls c) : pb ≠ r := by
  rintro rfl
  have := h.1
  unfold EM at he
  simp [World.cell?, he] at this

/-- The paper: its cells, its triangles, of each edge which have it; no crease yet; all of it newer than w0. -/
def PP (w0 w : World) (base pb ra rk : Nat) (vt : Value) (L : List (Int × Int × Int)) (G : Int × Int × Int × Int → List Int) : Prop :=
  Pc w pb ra rk vt ∧ w.ownsRow base 23 3 vt L.length (flatV L) ∧ GP w base ra vt G ∧ (∃ c, EM w rk [] c ∧ Good [] c) ∧ (w0.heap.size ≤ pb ∧ pb < base ∧ w0.heap.size ≤ ra ∧ ra < base ∧ w0.heap.size ≤ rk ∧ rk < base ∧ ra ≠ rk ∧ base ≤ w.heap.size) ∧ Below w0.heap.size w0 w
theorem PP.kept {w0 w w' : World} {base pb ra rk : Nat} {vt : Value} {L : List (Int × Int × Int)} {G : Int × Int × Int × Int → List Int} (h : PP w0 w base pb ra rk vt L G) (hb : Below w.heap.size w w') : PP w0 w' base pb ra rk vt L G := by
  obtain ⟨h1, h2, h3, ⟨c, h4, h4g⟩, ⟨a1, a2, a3, a4, a5, a6, a7, a8⟩, h6⟩ := h
  exact ⟨h1.grown (bl_grown hb) (by simp), own_below h2 hb, h3.kept hb, ⟨c, h4.grown (bl_grown hb) (by simp), h4g⟩, ⟨a1, a2, a3, a4, a5, a6, a7, Nat.le_trans a8 hb.size⟩, bl_via h6 hb⟩

theorem PP.entry {w0 wr w : World} {base pb ra rk : Nat} {vt : Value} {L : List (Int × Int × Int)} {G : Int × Int × Int × Int → List Int} (h : PP w0 wr base pb ra rk vt L G) (hb : Below wr.heap.size wr w) (e : Int × Int × Int × Int) (n : Int) :
    ∃ v0 st W2, (Instr.mapEntry 103 (.map (some ra)) (ek e)).run Tryd.prog w = .ok (.tuple #[v0, .int .i64 st]) W2 ∧ w.grownBy W2 (some ra) ∧ W2.heap.size = w.heap.size ∧ W2.ownsRow base 3 1 v0 (G e).length ((G e).map (Value.int .i64)) ∧ (∀ g, v0.ownBlock = some g → base ≤ g ∧ g < wr.heap.size) ∧
      ∀ v' W3, W2.grownBy W3 v0.ownBlock → W3.ownsRow base 3 1 v' ((G e).length + 1) ((G e).map (Value.int .i64) ++ [.int .i64 n]) → (v'.ownBlock = v0.ownBlock ∨ v'.ownBlock = some W2.heap.size) →
        ∃ W4, (Instr.entryStore 103 (.map (some ra)) (.int .i64 st) v').run Tryd.prog W3 = .ok () W4 ∧ W3.grownBy W4 (some ra) ∧ PP w0 W4 base pb ra rk vt L (fun j => if j = e then G e ++ [n] else G j) := by
  have hk := h.kept hb
  obtain ⟨h1, h2, h3, ⟨c, h4, h4g⟩, ⟨a1, a2, a3, a4, a5, a6, a7, a8⟩, h6⟩ := hk
  have hemr : ∃ ls c, EM w ra ls c := by
    obtain ⟨ls, c, q, _⟩ := h3
    exact ⟨ls, c, q⟩
  obtain ⟨lsr, cr, hemr⟩ := hemr
  obtain ⟨v0, st, W2, r1, r2, r3, r4, r5⟩ := h3.entry a4 (fun g hg => (own_lt h2 g hg).2) e n
  have htop : ∀ g, v0.ownBlock = some g → base ≤ g ∧ g < wr.heap.size := by
    obtain ⟨q1, q2, ⟨ls, cl, b1, b2, b3, b4, b5⟩, q3⟩ := h
    have b1' : EM w ra ls cl := b1.grown (bl_grown hb) (by simp)
    obtain ⟨st', ls1, c1, hrun, _⟩ := entry27 Tryd.underlying103 zero70 b1' b2 e
    rw [hrun] at r1
    simp only [Result.ok.injEq, Value.tuple.injEq, Array.mk.injEq, List.cons.injEq] at r1
    obtain ⟨⟨rfl, _⟩, _⟩ := r1
    intro g hg
    cases hl : lk ls e with
    | none =>
      rw [hl] at hg
      simp [Value.ownBlock] at hg
    | some v =>
      rw [hl] at hg
      exact own_lt (b4 e v hl).1 g hg
  refine ⟨v0, st, W2, r1, r2, r3, r4, htop, fun v' W3 g1 g2 g3 => ?_⟩
  obtain ⟨W4, s1, s2, s3⟩ := r5 v' W3 g1 g2 g3
  have hrow : ∀ k : Nat, k < base → some k ≠ v0.ownBlock := fun k hk e1 => by
    have := (htop k e1.symm).1
    omega
  have hrowt : vt.ownBlock = none ∨ vt.ownBlock ≠ some ra := by
    cases hu : vt.ownBlock with
    | none => exact Or.inl rfl
    | some g =>
      refine Or.inr (fun e1 => ?_)
      have := (own_lt h2 g hu).1
      simp at e1
      omega
  have hvv : vt.ownBlock = none ∨ vt.ownBlock ≠ v0.ownBlock := by
    obtain ⟨ls, cl, b1, b2, b3, b4, b5⟩ := h3
    obtain ⟨st', ls1, c1, hrun, _⟩ := entry27 Tryd.underlying103 zero70 b1 b2 e
    rw [hrun] at r1
    simp only [Result.ok.injEq, Value.tuple.injEq, Array.mk.injEq, List.cons.injEq] at r1
    obtain ⟨⟨rfl, _⟩, _⟩ := r1
    cases hl : lk ls e with
    | none =>
      cases hu : vt.ownBlock with
      | none => exact Or.inl rfl
      | some g => exact Or.inr (by simp [Value.ownBlock])
    | some v =>
      rcases (b4 e v hl).2.2 with q | q
      · exact Or.inl q
      · exact Or.inr (fun e1 => q e1.symm)
  have hpa : some pb ≠ some ra := fun e1 => h1.apart hemr (by simpa using e1)
  refine ⟨W4, s1, s2, ((h1.grown r2 hpa).grown g1 (hrow pb a2)).grown s2 hpa, ((h2.kept r2 hrowt).kept g1 hvv).kept s2 hrowt, s3, ⟨c, ((h4.grown r2 (fun e1 => a7 (by simp at e1; exact e1.symm))).grown g1 (hrow rk a6)).grown s2 (fun e1 => a7 (by simp at e1; exact e1.symm)), h4g⟩, ⟨a1, a2, a3, a4, a5, a6, a7, Nat.le_trans a8 (Nat.le_trans r2.size (Nat.le_trans g1.size s2.size))⟩, ?_⟩
  have hlt : w0.heap.size ≤ w.heap.size := h6.size
  have k1 := h6.grown r2 hlt (fun k hk => by simp at hk; omega)
  have k2 := k1.grown g1 (Nat.le_trans hlt r2.size) (fun k hk => by have := (htop k hk).1; omega)
  exact k2.grown s2 (Nat.le_trans hlt (Nat.le_trans r2.size g1.size)) (fun k hk => by simp at hk; omega)

/-- The triangles get one more, and the paper's cell is written anew. -/
theorem PP.pushed {w0 wr w w3 : World} {base pb ra rk g cap : Nat} {vt : Value} {L : List (Int × Int × Int)} {t : Int × Int × Int} {G : Int × Int × Int × Int → List Int} (h : PP w0 wr base pb ra rk vt L G) (hb : Below wr.heap.size wr w) (hg : w.grownBy w3 vt.ownBlock)
    (hown : w3.ownsRow base 23 3 (.slice (some ⟨g, 0, none⟩) (L.length + 1) cap) (L.length + 1) (flatV L ++ [.int .i64 t.1, .int .i64 t.2.1, .int .i64 t.2.2])) (hl : vt.ownBlock = some g ∨ g = w.heap.size) :
    PP w0 (w3.setCell ⟨pb, 0, none⟩ (.slice (some ⟨g, 0, none⟩) (L.length + 1) cap)) base pb ra rk (.slice (some ⟨g, 0, none⟩) (L.length + 1) cap) (L ++ [t]) G := by
  obtain ⟨h1, h2, h3, ⟨c, h4, h4g⟩, ⟨a1, a2, a3, a4, a5, a6, a7, a8⟩, h6⟩ := h.kept hb
  have hrow : ∀ k : Nat, k < base → some k ≠ vt.ownBlock := fun k hk e1 => by
    have := (own_lt h2 k e1.symm).1
    omega
  have hvb : (Value.slice (some ⟨g, 0, none⟩) (L.length + 1) cap).ownBlock = some g := rfl
  have p1 := h1.grown hg (hrow pb a2)
  have hemr : ∃ ls c, EM w ra ls c := by
    obtain ⟨ls, c, q, _⟩ := h3
    exact ⟨ls, c, q⟩
  obtain ⟨lsr, cr, hemr⟩ := hemr
  have hpa : pb ≠ ra := h1.apart hemr
  have hpk : pb ≠ rk := h1.apart h4
  have gp := h3.other (vt' := .slice (some ⟨g, 0, none⟩) (L.length + 1) cap) a4 hg (fun g hg => (own_lt h2 g hg).1) (by
    rw [hvb]
    rcases hl with q | q
    · exact Or.inl q.symm
    · exact Or.inr (by rw [q]))
  have hs : w3.grownBy (w3.setCell ⟨pb, 0, none⟩ (.slice (some ⟨g, 0, none⟩) (L.length + 1) cap)) (some pb) := by
    have hb := Below.setCell (w := w3) (p := ⟨pb, 0, none⟩) (Below.refl pb w3) (Nat.le_refl _) (.slice (some ⟨g, 0, none⟩) (L.length + 1) cap)
    exact ⟨hb.os, hb.tape, hb.output, hb.size, fun k _ hk => by
      have : k ≠ pb := fun e1 => hk (by rw [e1])
      exact Below.heap_setCell _ _ _ k this⟩
  have hgb : base ≤ g := (own_lt hown g hvb).1
  have hgs : some g ≠ some pb := fun e1 => by
    simp at e1
    omega
  refine ⟨⟨?_, ?_, ?_, ?_⟩, ?_, ?_, ⟨c, (h4.grown hg (hrow rk a6)).grown hs (fun e1 => hpk (by simpa using e1.symm)), h4g⟩, ⟨a1, a2, a3, a4, a5, a6, a7, Nat.le_trans a8 (Nat.le_trans hg.size hs.size)⟩, ?_⟩
  · exact World.cell?_setCell_same _ _ _ p1.1
  · exact (World.cell?_setCell_other _ _ _ _ (by simp)).trans p1.2.1
  · exact (World.cell?_setCell_other _ _ _ _ (by simp)).trans p1.2.2.1
  · exact (World.frozen?_setCell _ _ _ _).trans p1.2.2.2
  · rw [List.length_append, List.length_singleton, flatV_add]
    exact hown.kept hs (Or.inr (by rw [hvb]; exact hgs))
  · obtain ⟨ls, cl, b1, b2, b3, b4, b5⟩ := gp
    refine ⟨ls, cl, b1.grown hs (fun e1 => hpa (by simpa using e1.symm)), b2, b3, fun e v he => ?_, b5⟩
    obtain ⟨q1, q2, q3⟩ := b4 e v he
    refine ⟨q1.kept hs ?_, q2, q3⟩
    obtain ⟨g', e1, e2, _⟩ := own_some q1 (List.length_pos_iff.2 q2)
    rw [e1]
    exact Or.inr (fun e3 => by simp at e3; omega)
  · have k1 := h6.grown hg h6.size (fun k hk => by have := (own_lt h2 k hk).1; omega)
    exact k1.grown hs (Nat.le_trans h6.size hg.size) (fun k hk => by simp at hk; omega)
end Go.Proofs.YthkhiedpkmpifaaDoor

