/- Raw numbers made near: what picked, nearTri and nearLine answer. -/
import Derived.Test.YtfpfgfbkbpgolaaDoorGrpm
namespace Go.Proofs.YtfpfgfbkbpgolaaDoor
open Go.RowKit

theorem picked_any (n m : Int) (w : World) (h1 : -9223372036854775808 ≤ n) (h2 : n ≤ 9223372036854775807) (h3 : 0 < m) (h4 : m ≤ 10000) :
    Calls Tryd.prog 62 #[.int .i64 n, .int .i64 m] w fun r w' => r = .returned (.int .i64 (pick n m)) ∧ w' = w := by
  by_cases hn : n < 0
  · have e : pick n m = (-(n + 1)) % m := by simp [pick, hn]
    have HE : Hid (pick n m = (-(n + 1)) % m) := e
    clear e
    go_enter Tryd.func62, Tryd.ntmps62
    go_wp2
    go_ret
    exact ⟨ret_int (by rw [HE.out, ← Int.neg_tmod]; exact Int.tmod_eq_emod_of_nonneg (by omega)), rfl⟩
  · have e : pick n m = n % m := by simp [pick, hn]
    have HE : Hid (pick n m = n % m) := e
    clear e
    go_enter Tryd.func62, Tryd.ntmps62
    go_wp2
    go_ret
    exact ⟨ret_int (by rw [HE.out]), rfl⟩

/-- A near coordinate, kind, line number. -/
def nX (x : Int) : Int := pick x 2001 - 1000
def nK (k : Int) : Int := pick k 4
def nC (c : Int) : Int := 2 * (pick c 2001 - 1000)
theorem nX_bd (x : Int) : -1000 ≤ nX x ∧ nX x ≤ 1000 := by have := pick_bd x 2001 (by decide); unfold nX; omega
theorem nK_bd (k : Int) : 0 ≤ nK k ∧ nK k ≤ 3 := by have := pick_bd k 4 (by decide); unfold nK; omega
theorem nC_bd (c : Int) : (-2000 ≤ nC c ∧ nC c ≤ 2000) ∧ nC c % 2 = 0 := by have := pick_bd c 2001 (by decide); unfold nC; omega

def I64 (n : Int) : Prop := -9223372036854775808 ≤ n ∧ n ≤ 9223372036854775807

theorem nearTri_any (x y k : Int) (w : World) (hx : I64 x) (hy : I64 y) (hk : I64 k) :
    Calls Tryd.prog 28 #[.int .i64 x, .int .i64 y, .int .i64 k] w fun r w' => r = .returned (.agg #[.int .i64 (nX x), .int .i64 (nX y), .int .i64 (nK k)]) ∧ ∃ o, w' = w.alloc o := by
  have p1 := pick_bd x 2001 (by decide)
  have p2 := pick_bd y 2001 (by decide)
  have p3 := pick_bd k 4 (by decide)
  have HX : Hid (I64 x) := hx
  have HY : Hid (I64 y) := hy
  have HK : Hid (I64 k) := hk
  clear hx hy hk
  go_enter Tryd.func28, Tryd.ntmps28
  go_wp2_with (go_at_call 62; refine (picked_any _ _ _ (by first | exact HX.out.1 | exact HY.out.1 | exact HK.out.1) (by first | exact HX.out.2 | exact HY.out.2 | exact HK.out.2) (by decide) (by decide)).mono ?_; rintro r w' ⟨rfl, rfl⟩)
  exact bodyPost_ret (v := .agg #[.int .i64 (nX x), .int .i64 (nX y), .int .i64 (nK k)]) (by simp [results, Tryd.results28, go_sem, nX, nK]) rfl ⟨rfl, _, rfl⟩

theorem nearLine_any (v c : Int) (w : World) (hx : I64 v) (hy : I64 c) :
    Calls Tryd.prog 29 #[.int .i64 v, .int .i64 c] w fun r w' => r = .returned (.agg #[.int .i64 (nK v), .int .i64 (nC c)]) ∧ ∃ o, w' = w.alloc o := by
  have p1 := pick_bd v 4 (by decide)
  have p2 := pick_bd c 2001 (by decide)
  have HX : Hid (I64 v) := hx
  have HY : Hid (I64 c) := hy
  clear hx hy
  go_enter Tryd.func29, Tryd.ntmps29
  go_wp2_with (go_at_call 62; refine (picked_any _ _ _ (by first | exact HX.out.1 | exact HY.out.1) (by first | exact HX.out.2 | exact HY.out.2) (by decide) (by decide)).mono ?_; rintro r w' ⟨rfl, rfl⟩)
  exact bodyPost_ret (v := .agg #[.int .i64 (nK v), .int .i64 (nC c)]) (by simp [results, Tryd.results29, go_sem, nC, nK]) rfl ⟨rfl, _, rfl⟩

end Go.Proofs.YtfpfgfbkbpgolaaDoor
