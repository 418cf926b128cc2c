/- A part of the proof of viewTells_holds. -/
import Derived.Test.YtnpboeodhpenmaaGreatDoorQlaf
import Derived.Deep.LoopGhost
import Derived.Deep.DeepCutAuto
import Derived.Laws.Strings
import Derived.Laws.Concat
import Derived.Lib.Join
import Derived.Lib.Builder
import Derived.Lib.AppendStr
import Derived.Lib.UnsafeStr
import Derived.Laws.Externs
import Derived.Laws.AppendOwn
import Derived.Laws.OwnMore
import Derived.ArgAppend
namespace Go.Proofs.YtnpboeodhpenmaaGreatDoor
open Go.RowKit

/-- What is seen: where, which triangle, is it a back side. -/
def snZ : (Int × Int × Int) × (Int × Int × Int) × Bool := ((0, 0, 0), (0, 0, 0), false)
def sn (l : List ((Int × Int × Int) × (Int × Int × Int) × Bool)) (i : Nat) : (Int × Int × Int) × (Int × Int × Int) × Bool := l.getD i snZ
/-- In a row of memory: what PictureOf reads of it. -/
def SnP (w : World) (a : Option Addr) (l : List ((Int × Int × Int) × (Int × Int × Int) × Bool)) : Prop := ∀ i, i < l.length → ∃ g, a = some ⟨g, 0, none⟩ ∧ w.cell? ⟨g, i * 7, none⟩ = some (.int .i64 (sn l i).1.1) ∧ w.cell? ⟨g, i * 7 + 1, none⟩ = some (.int .i64 (sn l i).1.2.1) ∧ w.cell? ⟨g, i * 7 + 2, none⟩ = some (.int .i64 (sn l i).1.2.2) ∧ w.cell? ⟨g, i * 7 + 6, none⟩ = some (.bool (sn l i).2.2)
theorem SnP.kept {w wx : World} {a : Option Addr} {l : List ((Int × Int × Int) × (Int × Int × Int) × Bool)} (h : SnP w a l) (hb : Below w.heap.size w wx) : SnP wx a l := fun i hi => by
  obtain ⟨g, e, h0, h1, h2, h3⟩ := h i hi
  exact ⟨g, e, cl_kept hb h0, cl_kept hb h1, cl_kept hb h2, cl_kept hb h3⟩
/-- The least, the greatest of the first i. -/
def mnF (f : Nat → Int) : Nat → Int
  | 0 => f 0
  | i + 1 => if f i < mnF f i then f i else mnF f i
def mxF (f : Nat → Int) : Nat → Int
  | 0 => f 0
  | i + 1 => if mxF f i < f i then f i else mxF f i
def pw (k : Int) : Int := if k = 0 then 1 else if k = 1 then 2 else if k = 2 then 4 else 8
/-- Of the cell x, y: the sum of what is covered, of the back sides, by the first i. -/
def cvF (l : List ((Int × Int × Int) × (Int × Int × Int) × Bool)) (x y : Int) : Nat → Int
  | 0 => 0
  | i + 1 => if (sn l i).1.1 = x ∧ (sn l i).1.2.1 = y then cvF l x y i + pw (sn l i).1.2.2 else cvF l x y i
def bkF (l : List ((Int × Int × Int) × (Int × Int × Int) × Bool)) (x y : Int) : Nat → Int
  | 0 => 0
  | i + 1 => if (sn l i).1.1 = x ∧ (sn l i).1.2.1 = y then (if (sn l i).2.2 = true then bkF l x y i + pw (sn l i).1.2.2 else bkF l x y i) else bkF l x y i
def hexI (z : Int) : ByteArray := hexB z.toNat
def blk : ByteArray := ⟨#[32]⟩
def dots : ByteArray := ⟨#[46, 46]⟩
def lfd : ByteArray := ⟨#[10]⟩
/-- A cell's letters behind what stands there. -/
def clB (s : ByteArray) (cv bk : Int) : ByteArray := if cv = 0 then s ++ dots else s ++ hexI cv ++ hexI bk
def rwB (l : List ((Int × Int × Int) × (Int × Int × Int) × Bool)) (x0 y : Int) (s : ByteArray) : Nat → ByteArray
  | 0 => s
  | j + 1 => clB (if 0 < j then rwB l x0 y s j ++ blk else rwB l x0 y s j) (cvF l (x0 + j) y l.length) (bkF l (x0 + j) y l.length)
/-- The first rows, from the north. -/
def pcB (l : List ((Int × Int × Int) × (Int × Int × Int) × Bool)) (x0 y1 : Int) (wd : Nat) : Nat → ByteArray
  | 0 => ⟨#[]⟩
  | t + 1 => rwB l x0 (y1 - t) (pcB l x0 y1 wd t) wd ++ lfd
def sx (l : List ((Int × Int × Int) × (Int × Int × Int) × Bool)) (i : Nat) : Int := (sn l i).1.1
def sy (l : List ((Int × Int × Int) × (Int × Int × Int) × Bool)) (i : Nat) : Int := (sn l i).1.2.1
def pcW (l : List ((Int × Int × Int) × (Int × Int × Int) × Bool)) : Nat := (mxF (sx l) l.length - mnF (sx l) l.length + 1).toNat
def pcH (l : List ((Int × Int × Int) × (Int × Int × Int) × Bool)) : Nat := (mxF (sy l) l.length - mnF (sy l) l.length + 1).toNat
/-- The picture. -/
def pic (l : List ((Int × Int × Int) × (Int × Int × Int) × Bool)) : ByteArray := pcB l (mnF (sx l) l.length) (mxF (sy l) l.length) (pcW l) (pcH l)
/-- What is asked of what is seen. -/
def SnOk (l : List ((Int × Int × Int) × (Int × Int × Int) × Bool)) : Prop := (∀ i, i < l.length → (-1000000 ≤ sx l i ∧ sx l i ≤ 1000000) ∧ (-1000000 ≤ sy l i ∧ sy l i ≤ 1000000) ∧ 0 ≤ (sn l i).1.2.2 ∧ (sn l i).1.2.2 ≤ 3) ∧ ∀ x y i, i ≤ l.length → (0 ≤ cvF l x y i ∧ cvF l x y i ≤ 15) ∧ 0 ≤ bkF l x y i ∧ bkF l x y i ≤ 15
theorem mnF_in {f : Nat → Int} {n : Nat} (h : ∀ i, i < n → -1000000 ≤ f i ∧ f i ≤ 1000000) (h0 : 0 < n) : ∀ i, i ≤ n → -1000000 ≤ mnF f i ∧ mnF f i ≤ 1000000
  | 0, _ => h 0 h0
  | i + 1, hi => by
    have := mnF_in h h0 i (by omega)
    have := h i (by omega)
    unfold mnF
    split <;> omega
theorem mxF_in {f : Nat → Int} {n : Nat} (h : ∀ i, i < n → -1000000 ≤ f i ∧ f i ≤ 1000000) (h0 : 0 < n) : ∀ i, i ≤ n → -1000000 ≤ mxF f i ∧ mxF f i ≤ 1000000
  | 0, _ => h 0 h0
  | i + 1, hi => by
    have := mxF_in h h0 i (by omega)
    have := h i (by omega)
    unfold mxF
    split <;> omega
theorem hexI_size (z : Int) : (hexI z).size = 1 := rfl
theorem clB_size (s : ByteArray) (cv bk : Int) : (clB s cv bk).size = s.size + 2 := by
  unfold clB
  split
  · rw [ByteArray.size_append]
    rfl
  · rw [ByteArray.size_append, ByteArray.size_append, hexI_size, hexI_size]
theorem rwB_size (l : List ((Int × Int × Int) × (Int × Int × Int) × Bool)) (x0 y : Int) (s : ByteArray) : ∀ j, (rwB l x0 y s j).size ≤ s.size + 3 * j
  | 0 => by simp [rwB]
  | j + 1 => by
    have ih := rwB_size l x0 y s j
    unfold rwB
    rw [clB_size]
    split
    · rw [ByteArray.size_append, show blk.size = 1 from rfl]
      omega
    · omega
theorem pcB_size (l : List ((Int × Int × Int) × (Int × Int × Int) × Bool)) (x0 y1 : Int) (wd : Nat) : ∀ t, (pcB l x0 y1 wd t).size ≤ t * (3 * wd + 1)
  | 0 => by rw [Nat.zero_mul]; exact Nat.le_of_eq rfl
  | t + 1 => by
    have ih := pcB_size l x0 y1 wd t
    have h := rwB_size l x0 (y1 - t) (pcB l x0 y1 wd t) wd
    unfold pcB
    rw [ByteArray.size_append, show lfd.size = 1 from rfl, Nat.succ_mul]
    omega
theorem pc_small (l : List ((Int × Int × Int) × (Int × Int × Int) × Bool)) (x0 y1 y : Int) {wd t j ht : Nat} (h1 : wd ≤ 2000001) (h2 : ht ≤ 2000001) (h3 : t ≤ ht) (h4 : j ≤ wd) : (rwB l x0 y (pcB l x0 y1 wd t) j).size ≤ 100000000000000 := by
  have a1 := rwB_size l x0 y (pcB l x0 y1 wd t) j
  have a2 := pcB_size l x0 y1 wd t
  have a3 : t * (3 * wd + 1) ≤ 2000001 * (3 * 2000001 + 1) := Nat.mul_le_mul (by omega) (by omega)
  omega
theorem add_ok {a b : ByteArray} (h : a.size ≤ 200000000000000) (k : b.size ≤ 10) : ∀ w' : World, (Op.stringOp .add a b).run Tryz.prog w' = .ok (.string (a ++ b)) w' := fun w' => run_string_add_sum (P := Tryz.prog) (w := w') a b (by omega)

/-- A cell's letters. -/
def clS (cv bk : Int) : ByteArray := if cv = 0 then dots else hexI cv ++ hexI bk
theorem clB_is (s : ByteArray) (cv bk : Int) : clB s cv bk = s ++ clS cv bk := by
  unfold clB clS
  split
  · rfl
  · rw [ByteArray.append_assoc]
/-- The cells of a row, from the west. -/
def rwC (l : List ((Int × Int × Int) × (Int × Int × Int) × Bool)) (x0 y : Int) (j : Nat) : List ByteArray := (List.range j).map fun (k : Nat) => clS (cvF l (x0 + (k : Int)) y l.length) (bkF l (x0 + (k : Int)) y l.length)
theorem rwC_succ (l : List ((Int × Int × Int) × (Int × Int × Int) × Bool)) (x0 y : Int) (j : Nat) : rwC l x0 y (j + 1) = rwC l x0 y j ++ [clS (cvF l (x0 + j) y l.length) (bkF l (x0 + j) y l.length)] := by
  unfold rwC
  rw [List.range_succ, List.map_append]
  rfl
theorem rwC_len (l : List ((Int × Int × Int) × (Int × Int × Int) × Bool)) (x0 y : Int) (j : Nat) : (rwC l x0 y j).length = j := by simp [rwC]
theorem join_snoc (xs : List (List UInt8)) (x sep : List UInt8) : Lib.join (xs ++ [x]) sep = if xs.length = 0 then x else Lib.join xs sep ++ sep ++ x := by
  cases xs with
  | nil => simp [Lib.join_one]
  | cons a r =>
    rw [List.cons_append, Lib.join_cons, Lib.join_cons]
    simp [Lib.joinTail]
/-- Texts joined by a blank. -/
def jnB (xs : List ByteArray) : ByteArray := ⟨(Lib.join (xs.map fun x => x.data.toList) [32]).toArray⟩
theorem jnB_snoc (xs : List ByteArray) (x : ByteArray) : jnB (xs ++ [x]) = if xs.length = 0 then x else jnB xs ++ blk ++ x := by
  unfold jnB
  rw [List.map_append, List.map_cons, List.map_nil, join_snoc, List.length_map]
  split
  · simp
  · apply ByteArray.ext
    simp [blk]
theorem rwB_join (l : List ((Int × Int × Int) × (Int × Int × Int) × Bool)) (x0 y : Int) (s : ByteArray) : ∀ j, rwB l x0 y s j = s ++ jnB (rwC l x0 y j)
  | 0 => by
    show s = s ++ jnB []
    have : jnB [] = ByteArray.empty := rfl
    rw [this, ByteArray.append_empty]
  | j + 1 => by
    have ih := rwB_join l x0 y s j
    rw [rwC_succ, jnB_snoc, rwC_len]
    unfold rwB
    rw [clB_is, ih]
    by_cases h : j = 0
    · subst h
      rw [if_neg (by omega), if_pos rfl]
      have : jnB (rwC l x0 y 0) = ByteArray.empty := rfl
      rw [this, ByteArray.append_empty]
    · rw [if_pos (by omega), if_neg h, ByteArray.append_assoc, ByteArray.append_assoc, ByteArray.append_assoc]
/-- A row of the picture, written. -/
theorem pcB_join (l : List ((Int × Int × Int) × (Int × Int × Int) × Bool)) (x0 y1 : Int) (wd t : Nat) : pcB l x0 y1 wd (t + 1) = pcB l x0 y1 wd t ++ (jnB (rwC l x0 (y1 - t) wd) ++ lfd) := by
  show rwB l x0 (y1 - t) (pcB l x0 y1 wd t) wd ++ lfd = _
  rw [rwB_join, ByteArray.append_assoc]

/-- All blocks but b's, and but rows of bytes, are as they were. -/
def Kp (w w' : World) (b : Nat) : Prop := ∀ k cs T fr, w.heap[k]? = some (.cells cs T fr) → k ≠ b → T ≠ 5 → w'.heap[k]? = some (.cells cs T fr)
theorem inf5 : (Tryz.prog.info? 5).map (fun i => (i.zero, i.size, i.bytes)) = some (some (.int .u8 0), 1, 1) := by kernel_rfl
theorem inf128 : (Tryz.prog.info? 237).map (fun i => i.size) = some 2 := by kernel_rfl
theorem lies128 : liesAt Tryz.prog Tryz.prog.depth 237 (2 / Tryz.prog.cellsOf 237) 0 237 1 = true := by kernel_rfl

set_option maxHeartbeats 1600000 in
set_option maxRecDepth 100000 in
theorem copyCheck_used (b : Nat) (w : World) (h0 : w.cell? ⟨b, 0, none⟩ = some (.pointer (some ⟨b, 0, none⟩))) :
    Calls Tryz.prog 239 #[.pointer (some ⟨b, 0, none⟩)] w fun e w' => e = .returned (.tuple #[]) ∧ w' = w := by
  obtain ⟨j, hj, _⟩ := Option.map_eq_some_iff.1 inf128
  go_enter Tryz.func239, Tryz.ntmps239
  go_wp2
  rw [Lib.run_neq_ptr_same w _ Tryz.underlying234 hj]
  go_wp2
  go_end0
  exact ⟨rfl, rfl⟩
set_option maxHeartbeats 1600000 in
set_option maxRecDepth 100000 in
theorem copyCheck_fresh (b : Nat) (w : World) (h0 : w.cell? ⟨b, 0, none⟩ = some (.pointer none)) (hsh : w.shape? b = some (237, 2)) (hfz : w.frozen? ⟨b, 0, none⟩ = false) :
    Calls Tryz.prog 239 #[.pointer (some ⟨b, 0, none⟩)] w fun e w' => e = .returned (.tuple #[]) ∧ w' = w.setCell ⟨b, 0, none⟩ (.pointer (some ⟨b, 0, none⟩)) := by
  obtain ⟨j, hj, hjs⟩ := Option.map_eq_some_iff.1 inf128
  go_enter Tryz.func239, Tryz.ntmps239
  go_wp2
  rw [Lib.run_to_unsafe w ⟨b, 0, none⟩ Tryz.underlying234 Tryz.underlying346 hj (by rw [hjs]; decide) hsh (Nat.zero_lt_succ 1)]
  simp only [Result.andThen]
  rw [Oper.upon_value]
  go_wp2
  rw [run_callFunc_extern Tryz.func270 (by kernel_rfl) (by kernel_rfl) (by kernel_rfl) (e := Extern.AbiNoEscape.same) (by kernel_rfl)]
  rw [Lib.run_noEscape]
  simp only [Result.andThen]
  rw [Oper.upon_value]
  go_wp2
  rw [Lib.run_from_unsafe w ⟨b, 0, none⟩ Tryz.underlying346 Tryz.underlying234 hj hsh lies128]
  simp only [Result.andThen]
  rw [Oper.upon_value]
  go_wp2
  go_end0
  exact ⟨rfl, rfl⟩
theorem copyCheck_any (B b : Nat) (bs : List Value) (w : World) (h : Lib.IsBuilder 237 5 B b bs w) :
    Calls Tryz.prog 239 #[.pointer (some ⟨b, 0, none⟩)] w fun e w' => e = .returned (.tuple #[]) ∧ Lib.BuilderAt 237 5 B b (.pointer (some ⟨b, 0, none⟩)) bs w' ∧ Below B w w' ∧ Kp w w' b := by
  rcases h with h | h
  · refine (copyCheck_fresh b w h.cell0 h.shape h.frozen0).mono ?_
    rintro e w' ⟨rfl, rfl⟩
    exact ⟨rfl, h.used _, (Below.refl B w).setCell (p := ⟨b, 0, none⟩) h.1 _, fun k cs T fr hk hb _ => (Below.heap_setCell _ _ _ k hb).trans hk⟩
  · refine (copyCheck_used b w h.cell0).mono ?_
    rintro e w' ⟨rfl, rfl⟩
    exact ⟨rfl, h, Below.refl B _, fun k cs T fr hk _ _ => hk⟩

theorem row_ne {w : World} {B k n T : Nat} {v : Value} {xs : List Value} {cs : Array Value} {fr : Nat × Nat} (ho : w.ownsRow B 5 1 v n xs) (hk : w.heap[k]? = some (.cells cs T fr)) (hT : T ≠ 5) : some k ≠ v.ownBlock := fun e => Lib.ownBlock_ne ho hk hT e.symm

set_option maxHeartbeats 1600000 in
set_option maxRecDepth 100000 in
theorem writeString_any (B b : Nat) (bs : List Value) (s : ByteArray) (w : World) (h : Lib.IsBuilder 237 5 B b bs w) (hlen : bs.length + s.size ≤ 140737488355328) (hBw : B ≤ w.heap.size) :
    Calls Tryz.prog 155 #[.pointer (some ⟨b, 0, none⟩), .string s] w fun e w' => e = .returned (.tuple #[.int .i64 s.size, .nilIface]) ∧ Lib.BuilderAt 237 5 B b (.pointer (some ⟨b, 0, none⟩)) (bs ++ Lib.strCells s) w' ∧ Below B w w' ∧ Kp w w' b := by
  obtain ⟨i0, hi, hz0, hz1, hz2⟩ := info_parts inf5
  go_enter Tryz.func155, Tryz.ntmps155
  go_wp2_with (go_at_call 239; refine (copyCheck_any B b bs _ h).mono ?_)
  rintro e w1 ⟨rfl, ⟨hB, v, hbk, hown, hne⟩, hb1, hk1⟩
  have c0 : w1.cell? ⟨b, 0, none⟩ = some (.pointer (some ⟨b, 0, none⟩)) := by rw [Lib.cell_of_heap hbk]; rfl
  have c1 : w1.cell? ⟨b, 1, none⟩ = some v := by rw [Lib.cell_of_heap hbk]; rfl
  go_wp2_with (at_builtin; refine Lib.wpList_append_own_string _ rfl _ _ 235 9 rfl B 5 i0 Tryz.underlying235 Tryz.underlying9 hi hz0 hz1 hz2 _ _ _ rfl hown s rfl ?c3 ?c4 ?c5 ?_)
  case c3 => unfold maxLen; omega
  case c4 => omega
  case c5 => have := hb1.size; omega
  intro v' w2 hown' hgrow _
  have hlt : b < w1.heap.size := (Array.getElem?_eq_some_iff.1 hbk).1
  have hb2 : w2.heap[b]? = some (.cells #[.pointer (some ⟨b, 0, none⟩), v] 237 (0, 0)) := (hgrow.block b hlt (fun e => hne e.symm)).trans hbk
  have d0 : w2.cell? ⟨b, 0, none⟩ = some (.pointer (some ⟨b, 0, none⟩)) := by rw [Lib.cell_of_heap hb2]; rfl
  have d1 : w2.cell? ⟨b, 1, none⟩ = some v := by rw [Lib.cell_of_heap hb2]; rfl
  have f1 : w2.frozen? ⟨b, 1, none⟩ = false := Lib.frozen_of_heap hb2 1
  obtain ⟨ao, n', cap, rfl⟩ : ∃ ao n' cap, v' = .slice ao n' cap := by
    rcases hown'.2 with ⟨hv, _⟩ | ⟨g, cap, cur, hv, _⟩
    · exact ⟨_, _, _, hv⟩
    · exact ⟨_, _, _, hv⟩
  go_wp2
  go_ret2
  refine ⟨rfl, ?_, ?_, fun k cs T fr hk hkb hT => ?_⟩
  · exact Lib.BuilderAt.put (T := 237) (e := 5) hB hb2 (bs' := bs ++ Lib.strCells s) (by simpa [Lib.strCells_length] using hown') (by decide)
  · exact (hb1.grown hgrow (by have := hb1.size; omega) (fun k hk => (hown.lt k hk).1)).setCell (p := ⟨b, 1, none⟩) hB _
  · have q1 := hk1 k cs T fr hk hkb hT
    exact (Below.heap_setCell _ _ _ k hkb).trans ((hgrow.block k (Array.getElem?_eq_some_iff.1 q1).1 (row_ne hown q1 hT)).trans q1)


theorem dr_below {w w' : World} {base : Nat} {e : TypeId} {size : Nat} {v : Value} {n : Nat} {xs : List Value} (h : w.ownsRow base e size v n xs) (hb : Below w.heap.size w w') : w'.ownsRow base e size v n xs := by
  refine ⟨h.1, ?_⟩
  rcases h.2 with ⟨h1, h2⟩ | ⟨g, cap, cur, h1, h2, h3, h4⟩
  · exact .inl ⟨h1, h2⟩
  · refine .inr ⟨g, cap, cur, h1, h2, ?_, h4⟩
    have hg : g < w.heap.size := by
      rcases Nat.lt_or_ge g w.heap.size with h | h
      · exact h
      · rw [Array.getElem?_eq_none h] at h3; cases h3
    rw [hb.block g hg]
    exact h3
theorem dr_base {w : World} {base : Nat} {e : TypeId} {size : Nat} {v : Value} {n : Nat} {xs : List Value} (h : w.ownsRow base e size v n xs) : ∀ k, v.ownBlock = some k → base ≤ k := by
  intro k hk
  rcases h.2 with ⟨rfl, _⟩ | ⟨g, cap, cur, rfl, h2, _⟩
  · simp [Value.ownBlock] at hk
  · simp [Value.ownBlock] at hk
    omega
theorem dr_isB {B b : Nat} {bs : List Value} {w w' : World} (h : Lib.IsBuilder 237 5 B b bs w) (hb : Below w.heap.size w w') : Lib.IsBuilder 237 5 B b bs w' := by
  have key : ∀ p, Lib.BuilderAt 237 5 B b p bs w → Lib.BuilderAt 237 5 B b p bs w' := fun p hp => by
    obtain ⟨q1, v, q2, q3, q4⟩ := hp
    exact ⟨q1, v, (hb.block b (Array.getElem?_eq_some_iff.1 q2).1).trans q2, dr_below q3 hb, q4⟩
  exact h.imp (key _) (key _)
theorem dr_cat (l : List UInt8) (s : ByteArray) : Lib.byteCells l ++ Lib.strCells s = Lib.byteCells (l ++ s.data.toList) := by simp [Lib.byteCells, Lib.strCells]
/-- Texts in a row. -/
def stV (xs : List ByteArray) : List Value := xs.map fun x => Value.string x
theorem stV_snoc (xs : List ByteArray) (x : ByteArray) : stV (xs ++ [x]) = stV xs ++ [.string x] := by simp [stV]
theorem inf9 : (Tryz.prog.info? 9).map (fun i => (i.zero, i.size, i.bytes)) = some (some (.string ⟨#[]⟩), 1, 16) := by kernel_rfl
theorem st_cell {w : World} {g : Nat} (x : ByteArray) (h : w.cell? ⟨g, 0, none⟩ = some (.string x)) : ∀ j u, [Value.string x][j]? = some u → w.cell? ((⟨g, 0, none⟩ : Addr).add j) = some u := by
  intro j u hu
  match j, hu with
  | 0, hu => simp at hu; subst hu; simpa [Addr.add] using h
theorem st_one (x : ByteArray) : ∀ u ∈ [Value.string x], u.oneCell' = true := by
  intro u hu
  simp at hu
  subst hu
  rfl
theorem dr_row {w : World} {base : Nat} {v : Value} {xs : List ByteArray} {n : Nat} (hn : n = xs.length) (h0 : 0 < n) (h : w.ownsRow base 9 1 v n (stV xs)) : ∃ g cap, v = .slice (some ⟨g, 0, none⟩) n cap ∧ (∀ (j : Nat) x, xs[j]? = some x → w.cell? ⟨g, j, none⟩ = some (.string x)) ∧ g < w.heap.size ∧ n ≤ cap := by
  rcases h.2 with ⟨_, h1⟩ | ⟨g, cap, cur, rfl, h2, h3, h4, _⟩
  · omega
  · refine ⟨g, cap, rfl, fun j x hx => ?_, (Array.getElem?_eq_some_iff.1 h3).1, h4⟩
    have := h.cells (g := g) rfl j (.string x) (by simp [stV, hx])
    rw [show (⟨g, 0, none⟩ : Addr).add j = ⟨g, j, none⟩ from by unfold Addr.add; split <;> simp_all] at this
    exact this
theorem jnB_size (l : List ((Int × Int × Int) × (Int × Int × Int) × Bool)) (x0 y : Int) (j : Nat) : (jnB (rwC l x0 y j)).size ≤ 3 * j := by
  have h := rwB_size l x0 y ByteArray.empty j
  rw [rwB_join, ByteArray.size_append] at h
  have : ByteArray.empty.size = 0 := rfl
  omega
set_option maxRecDepth 100000 in
set_option maxHeartbeats 6400000 in
theorem drawn_any (a : Option Addr) (cc n : Nat) (l : List ((Int × Int × Int) × (Int × Int × Int) × Bool)) (w : World) (x0 x1 y0 y1 : Int) (wd ht : Nat) (hs : SnP w a l) (hn : n = l.length) (h0 : 0 < n) (hn3 : n ≤ 300) (hok : SnOk l) (hbk : ∀ x y, cvF l x y l.length = 0 → bkF l x y l.length = 0)
    (hx0 : -1000000 ≤ x0) (hx0' : x0 ≤ 1000000) (hx1 : x1 ≤ 1000000) (hxx : x0 ≤ x1) (hy0 : y0 = sy l 0) (hy1 : y1 = sy l (n - 1)) (hwd : wd = (x1 - x0 + 1).toNat) (hht : ht = (y1 - y0 + 1).toNat)
    (CC : Hid (∀ V : World, Below w.heap.size w V → Calls Tryz.prog 152 #[.slice a n cc] V fun e w' => ∃ r, e = .returned (.map (some r)) ∧ (∀ (wx : World) (x y : Int), Below w'.heap.size w' wx → (Instr.lookup 230 (.map (some r)) (.agg #[.int .i64 x, .int .i64 y]) false).run Tryz.prog wx = .ok (.agg #[.int .i64 (cvF l x y l.length), .int .i64 (bkF l x y l.length)]) wx) ∧ Below V.heap.size V w'))
    (CW : Hid (∀ V : World, Below w.heap.size w V → Calls Tryz.prog 153 #[.slice a n cc] V fun e w' => e = .returned (.tuple #[.int .i64 x0, .int .i64 x1]) ∧ Below V.heap.size V w'))
    (CL : Hid (∀ (cv bk : Int) (V : World), Below w.heap.size w V → 0 ≤ cv → cv ≤ 15 → 0 ≤ bk → bk ≤ 15 → (cv = 0 → bk = 0) → Calls Tryz.prog 154 #[.agg #[.int .i64 cv, .int .i64 bk]] V fun e w' => e = .returned (.string (clS cv bk)) ∧ Below V.heap.size V w'))
    (CJ : Hid (∀ (g c : Nat) (xs : List ByteArray) (V : World), (∀ (j : Nat) x, xs[j]? = some x → V.cell? ⟨g, j, none⟩ = some (.string x)) → g < V.heap.size → xs.length ≤ c → xs.length ≤ 2000001 → (jnB xs).size ≤ 10000000 → Calls Tryz.prog 156 #[.slice (some ⟨g, 0, none⟩) xs.length c, .string ⟨#[32]⟩] V fun e w' => e = .returned (.string (jnB xs)) ∧ Below V.heap.size V w'))
    (CS : Hid (∀ (B b : Nat) (bl : List UInt8) (V : World), Lib.IsBuilder 237 5 B b (Lib.byteCells bl) V → B ≤ V.heap.size → Calls Tryz.prog 157 #[.pointer (some ⟨b, 0, none⟩)] V fun e w' => e = .returned (.string ⟨bl.toArray⟩) ∧ Below B V w')) :
    Calls Tryz.prog 73 #[.slice a n cc] w fun e w' => e = .returned (.string (pcB l x0 y1 wd ht)) ∧ Below w.heap.size w w' := by
  obtain ⟨i9, hI⟩ := info_parts inf9
  have HI : Hid (Tryz.prog.info? 9 = some i9 ∧ i9.zero = some (.string ⟨#[]⟩) ∧ i9.size = 1 ∧ i9.bytes = 16) := hI
  obtain ⟨g, e0, c0, c1, _, _⟩ := hs 0 (by omega)
  obtain ⟨g', e1, _, c2, _, _⟩ := hs (n - 1) (by omega)
  subst e0
  cases e1
  have b1 := (hok.1 0 (by omega)).2.1
  have b2 := (hok.1 (n - 1) (by omega)).2.1
  rw [show (sn l 0).1.2.1 = y0 from hy0.symm, Nat.zero_mul] at c1
  rw [show (sn l (n - 1)).1.2.1 = y1 from hy1.symm] at c2
  rw [← hy0] at b1
  rw [← hy1] at b2
  obtain ⟨m, rfl⟩ : ∃ m, n = m + 1 := ⟨n - 1, by omega⟩
  rw [Nat.add_sub_cancel] at c2
  have HN : Hid (m + 1 = l.length ∧ SnOk l ∧ ∀ x y, cvF l x y l.length = 0 → bkF l x y l.length = 0) := ⟨hn, hok, hbk⟩
  have HW : Hid (∀ j : Nat, (j < wd ↔ x0 + (j : Int) ≤ x1)) := fun j => by rw [hwd]; omega
  have HH : Hid (∀ t : Nat, (t < ht ↔ y0 ≤ y1 - (t : Int))) := fun t => by rw [hht]; omega
  have HBD : Hid (wd ≤ 2000001 ∧ ht ≤ 2000001 ∧ 0 < wd) := ⟨by omega, by omega, by omega⟩
  obtain ⟨by0, by0'⟩ := b1
  obtain ⟨by1, by1'⟩ := b2
  have m0 : (0 : Int) < (m : Int) + 1 := by omega
  clear hI hs hn h0 hok hbk hy0 hy1 hwd hht c0
  go_enter Tryz.func73, Tryz.ntmps73
  go_wp2_with (first | (go_at_call 152; refine (CC.out _ (bl_refl _)).mono ?_; rintro e w1 ⟨r, rfl, hlk, hb1⟩; have LK : Hid (∀ (wx : World) (x y : Int), Below w1.heap.size w1 wx → (Instr.lookup 230 (.map (some r)) (.agg #[.int .i64 x, .int .i64 y]) false).run Tryz.prog wx = .ok (.agg #[.int .i64 (cvF l x y l.length), .int .i64 (bkF l x y l.length)]) wx) := hlk; have HB1 : Hid (Below w.heap.size w w1) := hb1; clear hlk hb1; replace c1 := cl_kept HB1.out c1; replace c2 := cl_kept HB1.out c2) | (go_at_call 153; refine (CW.out _ HB1.out).mono ?_; rintro e w2 ⟨rfl, hb2⟩; have HB2 : Hid (Below w1.heap.size w1 w2) := hb2; clear hb2; replace c1 := cl_kept HB2.out c1; replace c2 := cl_kept HB2.out c2) | fail)
  have zg := World.block_lt_of_cell? _ _ c1
  have kc := Kin.cells w2
  have kn : Nonempty (Kin w2) := ⟨⟨w2, bl_refl _⟩⟩
  have wm : IntKind.i64.wrap ((m : Int) + 1 - 1) = (m : Int) := by rw [IntKind.wrap_i64]; omega
  have wm2 : wrap64 ((m : Int) + 1 - 1) = (m : Int) := by unfold wrap64; omega
  have m1 : (m : Int) < (m : Int) + 1 := by omega
  have m2 : (0 : Int) ≤ (m : Int) := by omega
  refine wp_region_kin (by kernel_rfl) (by kernel_rfl) ?_
  repeat (go_big_quiet_step (fail))
  refine wpQuiet_nil ?_
  intro wq hw'
  obtain ⟨nq, hw''⟩ := hw'
  have hq : Below w2.heap.size w2 wq := hw'' ▸ nq.h
  have HBq : Hid (Below w1.heap.size w1 wq) := bl_via HB2.out hq
  clear hw'' nq kc kn hq c1 c2 zg wm wm2 m0 m1 m2
  have HF0 : Hid (Lib.IsBuilder 237 5 wq.heap.size wq.heap.size (Lib.byteCells []) (wq.alloc (.cells #[.pointer none, .slice none 0 0] 237))) := Lib.fresh_isBuilder 237 5 wq
  go_wp2
  go_loopg [9] ht (fun gk s9 wx => ∃ (t : Nat) (y : Int), t ≤ ht ∧ gk = ht - t ∧ y = y1 - (t : Int) ∧ s9 = .int .i64 y ∧ Hid (Lib.IsBuilder 237 5 wq.heap.size wq.heap.size (Lib.byteCells (pcB l x0 y1 wd t).data.toList) wx ∧ Below wq.heap.size wq wx))
  case atStart => exact ⟨0, y1, by omega, rfl, by simp, rfl, ⟨HF0.out, bl_alloc (bl_refl _)⟩⟩
  case round =>
    obtain ⟨t, y, hti, rfl, hyt, rfl, HS⟩ := hrel
    have HT : Hid (y = y1 - (t : Int) ∧ t ≤ ht) := ⟨hyt, hti⟩
    by_cases hth : t < ht
    · have q1 : y0 ≤ y := by rw [hyt]; exact (HH.out t).1 hth
      have yb1 : -1000000 ≤ y := by omega
      have yb2 : y ≤ 1000000 := by omega
      have HTH : Hid (t < ht) := hth
      clear hyt hti hth
      rename World => wy
      go_wp2
      go_loopg [10, 11] wd (fun gk s10 s11 wx => ∃ (j : Nat) (x : Int) (u : Value), j ≤ wd ∧ gk = wd - j ∧ x = x0 + (j : Int) ∧ u = s10 ∧ s11 = .int .i64 x ∧ Hid (wx.ownsRow wy.heap.size 9 1 u j (stV (rwC l x0 y j)) ∧ Below wy.heap.size wy wx))
      case atStart => exact ⟨0, x0, _, by omega, rfl, by simp, rfl, rfl, ⟨⟨rfl, Or.inl ⟨rfl, rfl⟩⟩, bl_refl _⟩⟩
      case round =>
        obtain ⟨j, x, u, hji, rfl, hxj, rfl, rfl, HR⟩ := hrel
        have HX : Hid (x = x0 + (j : Int) ∧ j ≤ wd) := ⟨hxj, hji⟩
        have HBR : Hid (Below wq.heap.size wq wr ∧ Below w1.heap.size w1 wr) := ⟨bl_via HS.out.2 HR.out.2, bl_via HBq.out (bl_via HS.out.2 HR.out.2)⟩
        by_cases hjw : j < wd
        · have q2 : x ≤ x1 := by rw [hxj]; exact (HW.out j).1 hjw
          have xb1 : -1000000 ≤ x := by omega
          have HJW : Hid (j < wd) := hjw
          have lk := LK.out wr x y HBR.out.2
          obtain ⟨⟨cb1, cb2⟩, cb3, cb4⟩ := HN.out.2.1.2 x y l.length (Nat.le_refl _)
          have C79 : Hid (∀ V : World, Below wr.heap.size wr V → Calls Tryz.prog 154 #[.agg #[.int .i64 (cvF l x y l.length), .int .i64 (bkF l x y l.length)]] V fun e w' => e = .returned (.string (clS (cvF l x y l.length) (bkF l x y l.length))) ∧ Below V.heap.size V w') := fun V hV => CL.out _ _ V (bl_via HB1.out (bl_via HBR.out.2 hV)) cb1 cb2 cb3 cb4 (HN.out.2.2 x y)
          have E1 : Hid (rwC l x0 y (j + 1) = rwC l x0 y j ++ [clS (cvF l x y l.length) (bkF l x y l.length)]) := (by rw [hxj]; exact rwC_succ l x0 y j : rwC l x0 y (j + 1) = rwC l x0 y j ++ [clS (cvF l x y l.length) (bkF l x y l.length)])
          clear cb1 cb2 cb3 cb4 hxj hji hjw
          generalize clS (cvF l x y l.length) (bkF l x y l.length) = sB at *
          generalize cvF l x y l.length = cv at *
          generalize bkF l x y l.length = bk at *
          go_wp2_with (first | (go_at_call 154; (with_reducible refine (C79.out _ (bl_refl _)).mono ?_); rintro e w5 ⟨rfl, hb5⟩; have HB5 : Hid (Below wr.heap.size wr w5) := hb5; clear hb5) | (at_builtin; refine wpList_append_own _ rfl (.tmp 44) (.tmp 51) 238 rfl wy.heap.size 9 i9 (.string ⟨#[]⟩) 1 16 Tryz.underlying238 HI.out.1 HI.out.2.1 HI.out.2.2.1 HI.out.2.2.2 rfl (by decide) u j (stV (rwC l x0 y j)) rfl (dr_below HR.out.1 (bl_alloc HB5.out)) ⟨w5.heap.size, 0, none⟩ 1 1 [.string sB] rfl rfl (st_cell _ (by simp [go_sem])) (st_one _) (by have := HBD.out.1; have := HJW.out; unfold maxLen; omega) (by have := HBD.out.1; have := HJW.out; omega) (by have := HR.out.2.size; have := HB5.out.size; simp; omega) ?gA) | fail)
          case gA =>
            intro v' w7 ho hg _
            have HNW : Hid (w7.ownsRow wy.heap.size 9 1 v' (j + 1) (stV (rwC l x0 y (j + 1))) ∧ Below wy.heap.size wy w7) := ⟨by rw [E1.out, stV_snoc]; exact ho, (bl_via HR.out.2 (bl_alloc HB5.out)).grown hg (bl_via HR.out.2 (bl_alloc HB5.out)).size (fun k hk => dr_base HR.out.1 k hk)⟩
            clear ho hg
            go_wp2
            go_roundg (wd - (j + 1))
            case measure => have := HJW.out; omega
            case rel => exact ⟨j + 1, x + 1, v', by have := HJW.out; omega, rfl, by have := HX.out.1; omega, rfl, by go_num, HNW.out⟩
        · have q2 : ¬ x ≤ x1 := by rw [hxj]; exact fun h => hjw ((HW.out j).2 h)
          obtain rfl : j = wd := by omega
          obtain ⟨g2, cap, rfl, hcl, hg2, hcap⟩ := dr_row (rwC_len l x0 y j).symm HBD.out.2.2 HR.out.1
          have hjs := jnB_size l x0 y j
          have CJ2 : Hid (Calls Tryz.prog 156 #[.slice (some ⟨g2, 0, none⟩) j cap, .string ⟨#[32]⟩] wr fun e w' => e = .returned (.string (jnB (rwC l x0 y j))) ∧ Below wr.heap.size wr w') := by
            have := CJ.out g2 cap (rwC l x0 y j) wr hcl hg2 (by rw [rwC_len]; exact hcap) (by rw [rwC_len]; exact HBD.out.1) (by have := HBD.out.1; omega)
            rwa [rwC_len] at this
          have a1 := add_ok (a := jnB (rwC l x0 y j)) (b := ⟨#[10]⟩) (by have := HBD.out.1; omega) (by decide)
          have E1 : Hid (pcB l x0 y1 j (t + 1) = pcB l x0 y1 j t ++ (jnB (rwC l x0 y j) ++ ⟨#[10]⟩)) := (by rw [HT.out.1]; exact pcB_join l x0 y1 j t : pcB l x0 y1 j (t + 1) = pcB l x0 y1 j t ++ (jnB (rwC l x0 y j) ++ ⟨#[10]⟩))
          have HSZ : Hid ((Lib.byteCells (pcB l x0 y1 j t).data.toList).length + (jnB (rwC l x0 y j) ++ ⟨#[10]⟩).size ≤ 140737488355328) := by
            have h1 := pcB_size l x0 y1 j t
            have h2 : t * (3 * j + 1) ≤ 2000001 * (3 * 2000001 + 1) := Nat.mul_le_mul (by have := HT.out.2; have := HBD.out; omega) (by have := HBD.out; omega)
            have h3 : (Lib.byteCells (pcB l x0 y1 j t).data.toList).length = (pcB l x0 y1 j t).size := by rw [Lib.byteCells_length]; rfl
            show (Lib.byteCells (pcB l x0 y1 j t).data.toList).length + (jnB (rwC l x0 y j) ++ ⟨#[10]⟩).size ≤ 140737488355328
            rw [h3, ByteArray.size_append, show (⟨#[10]⟩ : ByteArray).size = 1 from rfl]
            have := HBD.out.1
            omega
          clear hxj hji hjw hcl hg2 hcap hjs
          go_wp2_with (first | (go_at_call 156; (with_reducible refine CJ2.out.mono ?_); rintro e w6 ⟨rfl, hb6⟩; have HB6 : Hid (Lib.IsBuilder 237 5 wq.heap.size wq.heap.size (Lib.byteCells (pcB l x0 y1 j t).data.toList) w6 ∧ Below wq.heap.size wq w6) := ⟨dr_isB HS.out.1 (bl_via HR.out.2 hb6), bl_via HBR.out.1 hb6⟩; clear hb6) | (go_at_call 155; refine (writeString_any wq.heap.size wq.heap.size _ _ _ HB6.out.1 HSZ.out (by have := HB6.out.2.size; omega)).mono ?_; rintro e w8 ⟨rfl, hbd, hb8, _⟩; have HB8 : Hid (Lib.IsBuilder 237 5 wq.heap.size wq.heap.size (Lib.byteCells (pcB l x0 y1 j (t + 1)).data.toList) w8 ∧ Below wq.heap.size wq w8) := ⟨Or.inr (by rw [E1.out]; have q := hbd; rw [dr_cat] at q; simpa using q), HB6.out.2.trans hb8⟩; clear hbd hb8) | fail)
          go_roundg (ht - (t + 1))
          case measure => have := HTH.out; omega
          case rel => exact ⟨t + 1, y - 1, by have := HTH.out; omega, rfl, by have := HT.out.1; omega, by go_num, HB8.out⟩
    · have q1 : ¬ y0 ≤ y := by rw [hyt]; exact fun h => hth ((HH.out t).2 h)
      obtain rfl : t = ht := by omega
      clear hyt hti hth
      go_wp2_with (go_at_call 157; refine (CS.out _ _ _ _ HS.out.1 (by have := HS.out.2.size; omega)).mono ?_; rintro e w9 ⟨rfl, hb9⟩)
      go_ret
      exact ⟨by simp, bl_via HB1.out (bl_via HBq.out (HS.out.2.trans hb9))⟩
end Go.Proofs.YtnpboeodhpenmaaGreatDoor
