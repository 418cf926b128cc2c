import Derived.Test.YtdkkchhlhglldaaDoorProg
import Derived.WalkKit
import Derived.WalkSpells
import Derived.WalkLawsBesides
import Derived.Shelf.Strings.Builder1
import Derived.Shelf.Strconv.Itoa3
import Derived.Laws.IdiomStrings
/- The small functions of the grid and of the reference (bounds, places, lines that may be): what each call answers. -/
namespace Go.Proofs.YtdkkchhlhglldaaDoor
open Go.RowKit

def inB (n a b : Int) : Bool := decide (a ≤ n ∧ n ≤ b)
def evenB (n : Int) : Bool := decide (-1000000 ≤ n ∧ n ≤ 1000000 ∧ n % 2 = 0)
def unitB (n : Int) : Bool := decide (n = 1 ∨ n = -1)
def triB (x y k : Int) : Bool := decide (0 ≤ k ∧ k ≤ 3 ∧ -1000000 ≤ x ∧ x ≤ 1000000 ∧ -1000000 ≤ y ∧ y ≤ 1000000)
def lineB (way c : Int) : Bool := decide (0 ≤ way ∧ way ≤ 3 ∧ -1000000 ≤ c ∧ c ≤ 1000000 ∧ c % 2 = 0)

theorem ret_bool {a b : Bool} (h : a = b) : Ending.returned (.bool a) = .returned (.bool b) := by rw [h]
theorem ret_int {k : IntKind} {a b : Int} (h : a = b) : Ending.returned (.int k a) = .returned (.int k b) := by rw [h]

theorem below_one (w : World) (o : Obj) : Below w.heap.size w (w.alloc o) := (Below.refl _ _).alloc (Nat.le_refl _) _

theorem tmod2 (c : Int) : c.tmod 2 = 0 ↔ c % 2 = 0 := by rw [← Int.dvd_iff_tmod_eq_zero, Int.dvd_iff_emod_eq_zero]

theorem inBounds_any (n a b : Int) (w : World) :
    Calls Tryd.prog 51 #[.int .i64 n, .int .i64 a, .int .i64 b] w fun e w' => e = .returned (.bool (inB n a b)) ∧ w' = w := by
  go_enter Tryd.func51, Tryd.ntmps51
  go_wp2
  all_goals
    go_ret
    exact ⟨ret_bool (by rw [Bool.eq_iff_iff]; simp [inB]; omega), rfl⟩

theorem quarter_any (n : Int) (w : World) :
    Calls Tryd.prog 80 #[.int .i64 n] w fun e w' => e = .returned (.bool (inB n 0 3)) ∧ w' = w := by
  go_enter Tryd.func80, Tryd.ntmps80
  go_wp2
  all_goals
    go_ret
    exact ⟨ret_bool (by rw [Bool.eq_iff_iff]; simp [inB]; omega), rfl⟩

theorem near_any (n : Int) (w : World) :
    Calls Tryd.prog 81 #[.int .i64 n] w fun e w' => e = .returned (.bool (inB n (-1000000) 1000000)) ∧ w' = w := by
  go_enter Tryd.func81, Tryd.ntmps81
  go_wp2
  all_goals
    go_ret
    exact ⟨ret_bool (by rw [Bool.eq_iff_iff]; simp [inB]; omega), rfl⟩

theorem unit_any (n : Int) (w : World) :
    Calls Tryd.prog 88 #[.int .i64 n] w fun e w' => e = .returned (.bool (unitB n)) ∧ w' = w := by
  go_enter Tryd.func88, Tryd.ntmps88
  go_wp2
  all_goals
    go_ret
    exact ⟨ret_bool (by rw [Bool.eq_iff_iff]; simp_all [unitB]), rfl⟩

theorem evenPlace_any (n : Int) (w : World) :
    Calls Tryd.prog 87 #[.int .i64 n] w fun e w' => e = .returned (.bool (evenB n)) ∧ w' = w := by
  by_cases h : inB n (-1000000) 1000000 = true
  · have hb : -1000000 ≤ n ∧ n ≤ 1000000 := by simpa [inB] using h
    obtain ⟨b1, b2⟩ := hb
    go_enter Tryd.func87, Tryd.ntmps87
    go_wp2_with (go_at_call 81; refine (near_any _ _).mono ?_; rintro e w' ⟨rfl, rfl⟩)
    go_ret
    exact ⟨ret_bool (by rw [Bool.eq_iff_iff]; simp [evenB, tmod2]; omega), rfl⟩
  · go_enter Tryd.func87, Tryd.ntmps87
    go_wp2_with (go_at_call 81; refine (near_any _ _).mono ?_; rintro e w' ⟨rfl, rfl⟩)
    go_ret
    exact ⟨ret_bool (by rw [Bool.eq_iff_iff]; simp [evenB, inB] at h ⊢; omega), rfl⟩

theorem triMay_any (x y k : Int) (w : World) :
    Calls Tryd.prog 12 #[.agg #[.int .i64 x, .int .i64 y, .int .i64 k]] w fun e w' => e = .returned (.bool (triB x y k)) ∧ ∃ o, w' = w.alloc o := by
  go_enter Tryd.func12, Tryd.ntmps12
  go_wp2_with (go_at_call 51; refine (inBounds_any _ _ _ _).mono ?_; rintro e w' ⟨rfl, rfl⟩)
  all_goals
    go_ret
    exact ⟨ret_bool (by rw [Bool.eq_iff_iff]; simp_all [inB, triB]; try omega), _, rfl⟩

theorem mayTri_any (x y k : Int) (w : World) :
    Calls Tryd.prog 41 #[.agg #[.int .i64 x, .int .i64 y, .int .i64 k]] w fun e w' => e = .returned (.bool (triB x y k)) ∧ ∃ o, w' = w.alloc o := by
  go_enter Tryd.func41, Tryd.ntmps41
  go_wp2_with (first | (go_at_call 80; refine (quarter_any _ _).mono ?_; rintro e w' ⟨rfl, rfl⟩) | (go_at_call 81; refine (near_any _ _).mono ?_; rintro e w' ⟨rfl, rfl⟩))
  all_goals
    go_ret
    exact ⟨ret_bool (by rw [Bool.eq_iff_iff]; simp_all [inB, triB]; try omega), _, rfl⟩

theorem lineMay_any (y c : Int) (w : World) :
    Calls Tryd.prog 19 #[.agg #[.int .i64 y, .int .i64 c]] w fun e w' => e = .returned (.bool (lineB y c)) ∧ ∃ o, w' = w.alloc o := by
  by_cases h : -1000000 ≤ c ∧ c ≤ 1000000
  · obtain ⟨b1, b2⟩ := h
    go_enter Tryd.func19, Tryd.ntmps19
    go_wp2_with (go_at_call 51; refine (inBounds_any _ _ _ _).mono ?_; rintro e w' ⟨rfl, rfl⟩)
    all_goals
      go_ret
      exact ⟨ret_bool (by rw [Bool.eq_iff_iff]; simp_all [inB, lineB, tmod2]; try omega), _, rfl⟩
  · have h2 : inB c (-1000000) 1000000 = false := by simpa [inB] using h
    go_enter Tryd.func19, Tryd.ntmps19
    go_wp2_with (go_at_call 51; refine (inBounds_any _ _ _ _).mono ?_; rintro e w' ⟨rfl, rfl⟩)
    all_goals
      go_ret
      exact ⟨ret_bool (by rw [Bool.eq_iff_iff]; simp_all [inB, lineB]; try omega), _, rfl⟩

theorem mayLine_any (y c : Int) (w : World) :
    Calls Tryd.prog 55 #[.agg #[.int .i64 y, .int .i64 c]] w fun e w' => e = .returned (.bool (lineB y c)) ∧ ∃ o, w' = w.alloc o := by
  go_enter Tryd.func55, Tryd.ntmps55
  go_wp2_with (first | (go_at_call 80; refine (quarter_any _ _).mono ?_; rintro e w' ⟨rfl, rfl⟩) | (go_at_call 87; refine (evenPlace_any _ _).mono ?_; rintro e w' ⟨rfl, rfl⟩))
  all_goals
    go_ret
    exact ⟨ret_bool (by rw [Bool.eq_iff_iff]; simp_all [inB, lineB, evenB]; try omega), _, rfl⟩

end Go.Proofs.YtdkkchhlhglldaaDoor

/- Small laws on worlds that have only grown. -/
namespace Go.Proofs.YtdkkchhlhglldaaDoor
open Go.RowKit

theorem bl_refl (w : World) : Below w.heap.size w w := Below.refl _ _
theorem bl_alloc {w v : World} {o : Obj} (h : Below w.heap.size w v) : Below w.heap.size w (v.alloc o) := h.alloc h.size _
theorem bl_drew {w v : World} (h : Below w.heap.size w v) : Below w.heap.size w v.drew := h.drew
theorem bl_drewN {w v : World} {n : Nat} (h : Below w.heap.size w v) : Below w.heap.size w (v.drewN n) := ⟨h.os, h.tape, h.output, h.size, h.block⟩
theorem bl_via {w v u : World} (h : Below w.heap.size w v) (k : Below v.heap.size v u) : Below w.heap.size w u := h.trans (k.mono h.size)
theorem bl_set {w v : World} {p : Addr} {u : Value} (h : Below w.heap.size w v) (hp : w.heap.size ≤ p.block) : Below w.heap.size w (v.setCell p u) := h.setCell hp _

/-- A map's six numbers in a row of memory. -/
def Mp (w : World) (g : Nat) (a b c d e f : Int) : Prop :=
  w.cell? ⟨g, 0, none⟩ = some (.int .i64 a) ∧ w.cell? ⟨g, 1, none⟩ = some (.int .i64 b) ∧ w.cell? ⟨g, 2, none⟩ = some (.int .i64 c) ∧ w.cell? ⟨g, 3, none⟩ = some (.int .i64 d) ∧ w.cell? ⟨g, 4, none⟩ = some (.int .i64 e) ∧ w.cell? ⟨g, 5, none⟩ = some (.int .i64 f)
/-- A point's two numbers. -/
def Pt (w : World) (g : Nat) (x y : Int) : Prop := w.cell? ⟨g, 0, none⟩ = some (.int .i64 x) ∧ w.cell? ⟨g, 1, none⟩ = some (.int .i64 y)
/-- A triangle's three numbers. -/
def Tr (w : World) (g : Nat) (x y k : Int) : Prop := w.cell? ⟨g, 0, none⟩ = some (.int .i64 x) ∧ w.cell? ⟨g, 1, none⟩ = some (.int .i64 y) ∧ w.cell? ⟨g, 2, none⟩ = some (.int .i64 k)
/-- The first six cells of a row may be written. -/
def Fr (w : World) (g : Nat) : Prop :=
  w.frozen? ⟨g, 0, none⟩ = false ∧ w.frozen? ⟨g, 1, none⟩ = false ∧ w.frozen? ⟨g, 2, none⟩ = false ∧ w.frozen? ⟨g, 3, none⟩ = false ∧ w.frozen? ⟨g, 4, none⟩ = false ∧ w.frozen? ⟨g, 5, none⟩ = false

theorem cl_kept {w wx : World} {a : Addr} {v : Value} (hb : Below w.heap.size w wx) (h : w.cell? a = some v) : wx.cell? a = some v := (hb.cell (World.block_lt_of_cell? _ _ h)).trans h
theorem Mp.kept {w wx : World} {g : Nat} {a b c d e f : Int} (h : Mp w g a b c d e f) (hb : Below w.heap.size w wx) : Mp wx g a b c d e f := by
  obtain ⟨h0, h1, h2, h3, h4, h5⟩ := h
  exact ⟨cl_kept hb h0, cl_kept hb h1, cl_kept hb h2, cl_kept hb h3, cl_kept hb h4, cl_kept hb h5⟩
theorem Pt.kept {w wx : World} {g : Nat} {a b : Int} (h : Pt w g a b) (hb : Below w.heap.size w wx) : Pt wx g a b := ⟨cl_kept hb h.1, cl_kept hb h.2⟩
theorem Tr.kept {w wx : World} {g : Nat} {a b c : Int} (h : Tr w g a b c) (hb : Below w.heap.size w wx) : Tr wx g a b c := ⟨cl_kept hb h.1, cl_kept hb h.2.1, cl_kept hb h.2.2⟩
theorem Fr.kept {w wx : World} {g : Nat} (h : Fr w g) (hg : g < w.heap.size) (hb : Below w.heap.size w wx) : Fr wx g := by
  obtain ⟨h0, h1, h2, h3, h4, h5⟩ := h
  exact ⟨(hb.frozen (p := ⟨g, 0, none⟩) hg).trans h0, (hb.frozen (p := ⟨g, 1, none⟩) hg).trans h1, (hb.frozen (p := ⟨g, 2, none⟩) hg).trans h2, (hb.frozen (p := ⟨g, 3, none⟩) hg).trans h3, (hb.frozen (p := ⟨g, 4, none⟩) hg).trans h4, (hb.frozen (p := ⟨g, 5, none⟩) hg).trans h5⟩
theorem Mp.lt {w : World} {g : Nat} {a b c d e f : Int} (h : Mp w g a b c d e f) : g < w.heap.size := World.block_lt_of_cell? (w := w) (a := ⟨g, 0, none⟩) h.1
theorem Pt.lt {w : World} {g : Nat} {a b : Int} (h : Pt w g a b) : g < w.heap.size := World.block_lt_of_cell? (w := w) (a := ⟨g, 0, none⟩) h.1
theorem Tr.lt {w : World} {g : Nat} {a b c : Int} (h : Tr w g a b c) : g < w.heap.size := World.block_lt_of_cell? (w := w) (a := ⟨g, 0, none⟩) h.1
theorem al_old {w : World} {o : Obj} {a : Addr} {v : Value} (h : w.cell? a = some v) : (w.alloc o).cell? a = some v := (World.cell?_alloc_lt _ _ _ (World.block_lt_of_cell? _ _ h)).trans h
theorem dr_old {w : World} {a : Addr} {v : Value} (h : w.cell? a = some v) : w.drew.cell? a = some v := h

end Go.Proofs.YtdkkchhlhglldaaDoor

/- Contracts of Go's library, laid at this dump off the shelf. -/
namespace Go.Proofs
open Go.Shelf
def Tryd.lays169_ren : Go.Shelf.Ren := ⟨fun | 169 => 101 | n => n, fun | 70 => 126 | 9 => 9 | 0 => 0 | 72 => 128 | 37 => 115 | 127 => 142 | 3 => 3 | 5 => 5 | n => n, fun | n => n⟩
theorem Tryd.lays169 : Go.Proofs.Lays.n169 Tryd.prog Tryd.lays169_ren := {
  mixed := by kernel_rfl
  f169 := Tryd.func101.trans (congrArg some (by kernel_rfl))
  t0 := Tryd.underlying0
  a0 := Tryd.isAgg0
  z0 := Tryd.sizeOf0
  v0 := Tryd.zeroValue0
  t3 := Tryd.underlying3
  a3 := Tryd.isAgg3
  z3 := Tryd.sizeOf3
  v3 := Tryd.zeroValue3
  t9 := Tryd.underlying9
  a9 := Tryd.isAgg9
  z9 := Tryd.sizeOf9
  v9 := Tryd.zeroValue9
  t37 := Tryd.underlying115
  a37 := Tryd.isAgg115
  z37 := Tryd.sizeOf115
  v37 := Tryd.zeroValue115
  t70 := Tryd.underlying126
  a70 := Tryd.isAgg126
  z70 := Tryd.sizeOf126
  v70 := Tryd.zeroValue126
  t72 := Tryd.underlying128
  a72 := Tryd.isAgg128
  z72 := Tryd.sizeOf128
  v72 := Tryd.zeroValue128
  t127 := Tryd.underlying142
  a127 := Tryd.isAgg142
  z127 := Tryd.sizeOf142
  v127 := Tryd.zeroValue142 }
theorem Tryd.Builder_Extra_169 : Builder.Extra Tryd.prog Tryd.lays169_ren := {
  sizeBuilder := by kernel_rfl
  liesBuilder := by kernel_rfl
  t5 := Tryd.underlying5
  a5 := Tryd.isAgg5
  z5 := Tryd.sizeOf5
  v5 := Tryd.zeroValue5
  infoByte := by kernel_rfl
  cellsByte := by kernel_rfl
  sizeByte := by kernel_rfl
  neB5 := by decide }
open Go.RowKit in
/-- (*strings.Builder).String: "String returns the accumulated string.": WHATEVER THE BUILDER HOLDS. (LAID: no walk: one application.) -/
theorem Tryd.Builder_String_any (B b : Nat) (l : List UInt8) (w : World) (h : Lib.IsBuilder 128 5 B b (Lib.byteCells l) w) (hBw : B ≤ w.heap.size) :
    Calls Tryd.prog 101 #[.pointer (some ⟨b, 0, none⟩)] w fun e w' => e = .returned (.string ⟨l.toArray⟩) ∧ Below B w w' := Any.Builder_String_any Tryd.lays169 Tryd.Builder_Extra_169 B b l w h hBw
def Tryd.lays171_ren : Go.Shelf.Ren := ⟨fun | 171 => 110 | 243 => 119 | 246 => 122 | 283 => 126 | 284 => 127 | 285 => 128 | 286 => 129 | 129 => 131 | 317 => 130 | 318 => 132 | 319 => 133 | 320 => 134 | 337 => 135 | 338 => 136 | n => n, fun | 3 => 3 | 9 => 9 | 2 => 2 | 4 => 4 | 171 => 162 | 0 => 0 | 53 => 159 | 37 => 115 | 5 => 5 | 173 => 165 | 212 => 169 | 51 => 156 | 20 => 20 | 213 => 170 | 46 => 152 | 232 => 173 | 233 => 174 | n => n, fun | 17 => 1 | 18 => 2 | 19 => 3 | n => n⟩
theorem Tryd.lays171 : Go.Proofs.Lays.n171 Tryd.prog Tryd.lays171_ren := {
  mixed := by kernel_rfl
  f129 := Tryd.func131.trans (congrArg some (by kernel_rfl))
  f171 := Tryd.func110.trans (congrArg some (by kernel_rfl))
  f243 := Tryd.func119.trans (congrArg some (by kernel_rfl))
  f246 := Tryd.func122.trans (congrArg some (by kernel_rfl))
  f283 := Tryd.func126.trans (congrArg some (by kernel_rfl))
  f284 := Tryd.func127.trans (congrArg some (by kernel_rfl))
  f285 := Tryd.func128.trans (congrArg some (by kernel_rfl))
  f286 := Tryd.func129.trans (congrArg some (by kernel_rfl))
  f317 := Tryd.func130.trans (congrArg some (by kernel_rfl))
  f318 := Tryd.func132.trans (congrArg some (by kernel_rfl))
  f319 := Tryd.func133.trans (congrArg some (by kernel_rfl))
  f320 := Tryd.func134.trans (congrArg some (by kernel_rfl))
  f337 := Tryd.func135.trans (congrArg some (by kernel_rfl))
  f338 := Tryd.func136.trans (congrArg some (by kernel_rfl))
  t0 := Tryd.underlying0
  a0 := Tryd.isAgg0
  z0 := Tryd.sizeOf0
  v0 := Tryd.zeroValue0
  t2 := Tryd.underlying2
  a2 := Tryd.isAgg2
  z2 := Tryd.sizeOf2
  v2 := Tryd.zeroValue2
  t3 := Tryd.underlying3
  a3 := Tryd.isAgg3
  z3 := Tryd.sizeOf3
  v3 := Tryd.zeroValue3
  t4 := Tryd.underlying4
  a4 := Tryd.isAgg4
  z4 := Tryd.sizeOf4
  v4 := Tryd.zeroValue4
  t5 := Tryd.underlying5
  a5 := Tryd.isAgg5
  z5 := Tryd.sizeOf5
  v5 := Tryd.zeroValue5
  t9 := Tryd.underlying9
  a9 := Tryd.isAgg9
  z9 := Tryd.sizeOf9
  v9 := Tryd.zeroValue9
  t20 := Tryd.underlying20
  a20 := Tryd.isAgg20
  z20 := Tryd.sizeOf20
  v20 := Tryd.zeroValue20
  t37 := Tryd.underlying115
  a37 := Tryd.isAgg115
  z37 := Tryd.sizeOf115
  v37 := Tryd.zeroValue115
  t46 := Tryd.underlying152
  a46 := Tryd.isAgg152
  z46 := Tryd.sizeOf152
  v46 := Tryd.zeroValue152
  t51 := Tryd.underlying156
  a51 := Tryd.isAgg156
  z51 := Tryd.sizeOf156
  v51 := Tryd.zeroValue156
  t53 := Tryd.underlying159
  a53 := Tryd.isAgg159
  z53 := Tryd.sizeOf159
  v53 := Tryd.zeroValue159
  t171 := Tryd.underlying162
  a171 := Tryd.isAgg162
  z171 := Tryd.sizeOf162
  v171 := Tryd.zeroValue162
  t173 := Tryd.underlying165
  a173 := Tryd.isAgg165
  z173 := Tryd.sizeOf165
  v173 := Tryd.zeroValue165
  t212 := Tryd.underlying169
  a212 := Tryd.isAgg169
  z212 := Tryd.sizeOf169
  v212 := Tryd.zeroValue169
  t213 := Tryd.underlying170
  a213 := Tryd.isAgg170
  z213 := Tryd.sizeOf170
  t232 := Tryd.underlying173
  a232 := Tryd.isAgg173
  z232 := Tryd.sizeOf173
  v232 := Tryd.zeroValue173
  t233 := Tryd.underlying174
  a233 := Tryd.isAgg174
  z233 := Tryd.sizeOf174
  v233 := Tryd.zeroValue174
  g17 := by kernel_rfl
  g18 := by kernel_rfl
  g19 := by kernel_rfl }
open Go.RowKit Go.Sort Go.Lib in
/-- THE ROAD WITHOUT THE TABLE: 0 <= i < 100: NO PREMISE ON THE WORLD, AND THE WORLD IS AS IT WAS: a row that keeps its argument in that range need list no table ('laid = []'). (LAID: no walk: one application.) -/
theorem Tryd.strconv_Itoa_small (i : Nat) (hi : i < 100) (w : World) :
    Calls Tryd.prog 110 #[.int .i64 i] w fun e w' => e = .returned (.string ⟨(Lib.decDigits i).toArray⟩) ∧ w' = w := Any.strconv_Itoa_small Tryd.lays171 i hi w
end Go.Proofs

/- Numbers as text: the reference's way. -/
namespace Go.Proofs.YtdkkchhlhglldaaDoor
open Go.RowKit

/-- A number's digits, of a number below 100; the same as a text. -/
def dgs (n : Nat) : List UInt8 := if n < 10 then [UInt8.ofNat (48 + n)] else [UInt8.ofNat (48 + n / 10), UInt8.ofNat (48 + n % 10)]
def dgB (n : Nat) : ByteArray := ⟨(dgs n).toArray⟩
theorem dgs_lib (n : Nat) (h : n < 100) : Lib.decDigits n = dgs n := by
  unfold dgs
  rw [Lib.decDigits]
  split
  · rfl
  · rw [Lib.decDigits, dif_pos (by omega)]
    rfl
theorem dgB_list (n : Nat) : (dgB n).data.toList = dgs n := by simp [dgB]
theorem dgB_size (n : Nat) : (dgB n).size ≤ 2 := by
  unfold dgB dgs
  split <;> simp [ByteArray.size]
theorem app_list (a b : ByteArray) : (a ++ b).data.toList = a.data.toList ++ b.data.toList := by simp
theorem byte_conv (b : Nat) (hb : b < 256) (w : World) : (convert 115 9 (.slice (some ⟨w.heap.size, 0, none⟩) 1 1)).run Tryd.prog (w.alloc (.cells #[.int .u8 (b : Int)] 5)) = .ok (.string ⟨#[UInt8.ofNat b]⟩) (w.alloc (.cells #[.int .u8 (b : Int)] 5)) :=
  run_convert_bytes_back (P := Tryd.prog) (w.alloc (.cells #[.int .u8 (b : Int)] 5)) 115 9 5 ⟨w.heap.size, 0, none⟩ 1 [UInt8.ofNat b] Tryd.underlying115 Tryd.underlying5 Tryd.underlying9 (fun j hj => by
    obtain rfl : j = 0 := by simpa using hj
    have : (UInt8.ofNat b).toNat = b := by simp; omega
    simp [go_sem, Addr.add, this])

set_option maxRecDepth 100000 in
theorem dec_small (n : Nat) (w : World) (h : n < 10) : Calls Tryd.prog 79 #[.int .i64 (n : Int)] w fun e w' => e = .returned (.string (dgB n)) ∧ Below w.heap.size w w' := by
  have h1 : (n : Int) < 10 := by omega
  have h0 : ¬ (n : Int) < 0 := by omega
  have hc := byte_conv (48 + n) (by omega) w
  have hd : (⟨#[UInt8.ofNat (48 + n)]⟩ : ByteArray) = dgB n := by simp [dgB, dgs, h]
  rw [hd] at hc
  have e1 : ((48 + n : Nat) : Int) = 48 + (n : Int) := by omega
  rw [e1] at hc
  clear hd e1
  go_enter Tryd.func79, Tryd.ntmps79
  go_wp2_with (fail)
  go_ret
  exact ⟨rfl, bl_alloc (bl_refl _)⟩
set_option maxRecDepth 100000 in
theorem dec_any (n : Nat) (w : World) (h : n < 100) : Calls Tryd.prog 79 #[.int .i64 (n : Int)] w fun e w' => e = .returned (.string (dgB n)) ∧ Below w.heap.size w w' := by
  by_cases h10 : n < 10
  · exact dec_small n w h10
  · have h1 : ¬ (n : Int) < 10 := by omega
    have h0 : ¬ (n : Int) < 0 := by omega
    have z1 := dgB_size (n / 10)
    have z2 := dgB_size (n % 10)
    have HD : Hid (dgB (n / 10) ++ dgB (n % 10) = dgB n) := by
      show dgB (n / 10) ++ dgB (n % 10) = dgB n
      have q1 : n / 10 < 10 := by omega
      have q2 : n % 10 < 10 := by omega
      simp [dgB, dgs, h10, q1, q2]
      rfl
    have e1 : ((n / 10 : Nat) : Int) = (n : Int) / 10 := by omega
    have e2 : ((n % 10 : Nat) : Int) = (n : Int) % 10 := by omega
    have C1 : Hid (∀ W' : World, Calls Tryd.prog 79 #[.int .i64 ((n : Int) / 10)] W' fun e w' => e = .returned (.string (dgB (n / 10))) ∧ Below W'.heap.size W' w') := fun W' => e1 ▸ dec_small (n / 10) W' (by omega)
    have C2 : Hid (∀ W' : World, Calls Tryd.prog 79 #[.int .i64 ((n : Int) % 10)] W' fun e w' => e = .returned (.string (dgB (n % 10))) ∧ Below W'.heap.size W' w') := fun W' => e2 ▸ dec_small (n % 10) W' (by omega)
    clear e1 e2
    have tok1 : True := trivial
    go_enter Tryd.func79, Tryd.ntmps79
    go_wp2_with (first
      | (go_at_call 79; have _t := tok1; refine (C1.out _).mono ?_; rintro e w1 ⟨rfl, hb1⟩; have HB1 : Hid (Below w.heap.size w w1) := hb1; clear hb1 tok1 _t)
      | (go_at_call 79; refine (C2.out _).mono ?_; rintro e w2 ⟨rfl, hb2⟩; have HB2 : Hid (Below w.heap.size w w2) := bl_via HB1.out hb2; clear hb2))
    go_ret
    exact ⟨by rw [← HD.out]; rfl, HB2.out⟩
end Go.Proofs.YtdkkchhlhglldaaDoor

