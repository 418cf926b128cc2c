/- The map beyond an edge: the paper's way. -/
import Derived.Test.YtnpboeodhpenmaaGreatDoorQlar
import Derived.Test.YtnpboeodhpenmaaGreatDoorQlbf
namespace Go.Proofs.YtnpboeodhpenmaaGreatDoor
open Go.RowKit Go.ChangeMaps

/-- The kinds of the first n creases, by their edges; 0: none. -/
def kdn (ks : List Int) : Nat → Int × Int × Int × Int → Int
  | 0, _ => 0
  | i + 1, e => if e = (ck ks i 0, ck ks i 1, ck ks i 2, ck ks i 3) then ck ks i 4 else kdn ks i e
theorem kf_kdn (ks : List Int) (e : Int × Int × Int × Int) : ∀ n, (kf ks n e).getD (.int .i64 0) = .int .i64 (kdn ks n e)
  | 0 => rfl
  | i + 1 => by
    unfold kf kdn
    split
    · rfl
    · exact kf_kdn ks e i
/-- What is asked of the map of kinds. -/
def KL (w : World) (rk : Nat) (kd : Int × Int × Int × Int → Int) : Prop := ∀ (e : Int × Int × Int × Int) (wx : World), Below w.heap.size w wx → (Instr.lookup 96 (.map (some rk)) (ek e) false).run Tryz.prog wx = .ok (.int .i64 (kd e)) wx
theorem KL.kept {w w' : World} {rk : Nat} {kd : Int × Int × Int × Int → Int} (h : KL w rk kd) (hb : Below w.heap.size w w') : KL w' rk kd := fun e wx hx => h e wx (bl_via hb hx)
theorem zero3 (w : World) : (zeroValue 3).run Tryz.prog w = .ok (.int .i64 0) w := by kernel_rfl
theorem PK.kl {w0 w : World} {base ra rk n : Nat} {vt : Value} {L : List (Int × Int × Int)} {G : Int × Int × Int × Int → List Int} {ks : List Int} (h : PK w0 w base ra rk vt L G (kf ks n)) : KL w rk (kdn ks n) := fun e wx hx => by
  obtain ⟨ls, c, h4, h4g, h4k⟩ := h.2.2.1
  have := lookup27 Tryz.underlying96 zero3 (h4.grown (bl_grown hx) (by simp)) h4g e
  rw [h4k e, kf_kdn] at this
  exact this

theorem kind_any (w : World) (ad : Option Addr) (n cc ra rk : Nat) (kd : Int × Int × Int × Int → Int) (p q r s : Int) (hK : KL w rk kd) :
    Calls Tryz.prog 191 #[.agg #[.slice ad n cc, .map (some ra), .map (some rk)], .agg #[.int .i64 p, .int .i64 q, .int .i64 r, .int .i64 s]] w fun e w' => e = .returned (.int .i64 (kd (p, q, r, s))) ∧ Below w.heap.size w w' := by
  have hl := hK (p, q, r, s) ((w.alloc (.cells #[.slice ad n cc, .map (some ra), .map (some rk)] 98)).alloc (.cells #[.int .i64 p, .int .i64 q, .int .i64 r, .int .i64 s] 42)) (bl_alloc (bl_alloc (bl_refl _)))
  simp only [ek] at hl
  clear hK
  go_enter Tryz.func191, Tryz.ntmps191
  go_wp2
  go_ret
  exact ⟨rfl, bl_alloc (bl_alloc (bl_refl _))⟩

theorem ret_agg2 {a b a' b' : Int} (h1 : a = a') (h2 : b = b') : Ending.returned (.agg #[.int .i64 a, .int .i64 b]) = .returned (.agg #[.int .i64 a', .int .i64 b']) := by subst h1 h2; rfl
set_option maxHeartbeats 1600000 in
theorem paperLine_any (p q r s : Int) (w : World) (h1 : 0 ≤ p ∧ p ≤ 100) (h2 : 0 ≤ q ∧ q ≤ 100) :
    Calls Tryz.prog 266 #[.agg #[.int .i64 p, .int .i64 q, .int .i64 r, .int .i64 s]] w fun e w' => e = .returned (.agg #[.int .i64 (lnW (p, q, r, s)), .int .i64 (lnC (p, q, r, s))]) ∧ Below w.heap.size w w' := by
  obtain ⟨a1, a2⟩ := h1
  obtain ⟨b1, b2⟩ := h2
  by_cases c1 : p = r
  · subst c1
    go_enter Tryz.func266, Tryz.ntmps266
    go_wp2
    refine bodyPost_ret (v := .agg #[_, _]) (by simp [results, Tryz.results266, go_sem]; exact ⟨rfl, rfl⟩) rfl ⟨?_, ?_⟩
    · exact ret_agg2 (by simp [lnW]) (by simp [lnC])
    · with_reducible repeat (first | exact bl_refl _ | refine bl_alloc ?_ | refine bl_set ?_ ?_)
      all_goals (simp)
  · by_cases c2 : q = s
    · subst c2
      go_enter Tryz.func266, Tryz.ntmps266
      go_wp2
      refine bodyPost_ret (v := .agg #[_, _]) (by simp [results, Tryz.results266, go_sem]; exact ⟨rfl, rfl⟩) rfl ⟨?_, ?_⟩
      · exact ret_agg2 (by simp [lnW, c1]) (by simp [lnC, c1])
      · with_reducible repeat (first | exact bl_refl _ | refine bl_alloc ?_ | refine bl_set ?_ ?_)
        all_goals (simp)
    · by_cases c3 : s < q
      · go_enter Tryz.func266, Tryz.ntmps266
        go_wp2
        refine bodyPost_ret (v := .agg #[_, _]) (by simp [results, Tryz.results266, go_sem]; exact ⟨rfl, rfl⟩) rfl ⟨?_, ?_⟩
        · exact ret_agg2 (by simp [lnW, c1, c2, c3]) (by simp [lnC, c1, c2, c3])
        · with_reducible repeat (first | exact bl_refl _ | refine bl_alloc ?_ | refine bl_set ?_ ?_)
          all_goals (simp)
      · go_enter Tryz.func266, Tryz.ntmps266
        go_wp2
        refine bodyPost_ret (v := .agg #[_, _]) (by simp [results, Tryz.results266, go_sem]; exact ⟨rfl, rfl⟩) rfl ⟨?_, ?_⟩
        · exact ret_agg2 (by simp only [lnW, if_neg c1, if_neg c2, if_neg (show ¬ s < q by omega)]) (by simp only [lnC, if_neg c1, if_neg c2, if_neg (show ¬ s < q by omega)])
        · with_reducible repeat (first | exact bl_refl _ | refine bl_alloc ?_ | refine bl_set ?_ ?_)
          all_goals (simp)

/-- A map as the code has it. -/
def mv (m : M6) : Value := .agg #[.int .i64 m.1, .int .i64 m.2.1, .int .i64 m.2.2.1, .int .i64 m.2.2.2.1, .int .i64 m.2.2.2.2.1, .int .i64 m.2.2.2.2.2]
theorem six_cases {o : Nat} (h : o < 6) : o = 0 ∨ o = 1 ∨ o = 2 ∨ o = 3 ∨ o = 4 ∨ o = 5 := by omega
end Go.Proofs.YtnpboeodhpenmaaGreatDoor
