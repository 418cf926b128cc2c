/- The map beyond an edge: the paper's way. -/
import Derived.Test.YtmjneoaciopioaaDoorQlbr
import Derived.Test.YtmjneoaciopioaaDoorQlbp
namespace Go.Proofs.YtmjneoaciopioaaDoor
open Go.RowKit Go.ChangeMaps

/-- The kinds of the first n creases, by their edges; 0: none. -/
def kdn (ks : List Int) : Nat → Int × Int × Int × Int → Int
  | 0, _ => 0
  | i + 1, e => if e = (ck ks i 0, ck ks i 1, ck ks i 2, ck ks i 3) then ck ks i 4 else kdn ks i e
theorem kf_kdn (ks : List Int) (e : Int × Int × Int × Int) : ∀ n, (kf ks n e).getD (.int .i64 0) = .int .i64 (kdn ks n e)
  | 0 => rfl
  | i + 1 => by
    unfold kf kdn
    split
    · rfl
    · exact kf_kdn ks e i
/-- What is asked of the map of kinds. -/
def KL (w : World) (rk : Nat) (kd : Int × Int × Int × Int → Int) : Prop := ∀ (e : Int × Int × Int × Int) (wx : World), Below w.heap.size w wx → (Instr.lookup 61 (.map (some rk)) (ek e) false).run Tryd.prog wx = .ok (.int .i64 (kd e)) wx
theorem KL.kept {w w' : World} {rk : Nat} {kd : Int × Int × Int × Int → Int} (h : KL w rk kd) (hb : Below w.heap.size w w') : KL w' rk kd := fun e wx hx => h e wx (bl_via hb hx)
theorem zero3 (w : World) : (zeroValue 3).run Tryd.prog w = .ok (.int .i64 0) w := by kernel_rfl
theorem PK.kl {w0 w : World} {base ra rk n : Nat} {vt : Value} {L : List (Int × Int × Int)} {G : Int × Int × Int × Int → List Int} {ks : List Int} (h : PK w0 w base ra rk vt L G (kf ks n)) : KL w rk (kdn ks n) := fun e wx hx => by
  obtain ⟨ls, c, h4, h4g, h4k⟩ := h.2.2.1
  have := lookup27 Tryd.underlying61 zero3 (h4.grown (bl_grown hx) (by simp)) h4g e
  rw [h4k e, kf_kdn] at this
  exact this

theorem kind_any (w : World) (ad : Option Addr) (n cc ra rk : Nat) (kd : Int × Int × Int × Int → Int) (p q r s : Int) (hK : KL w rk kd) :
    Calls Tryd.prog 55 #[.agg #[.slice ad n cc, .map (some ra), .map (some rk)], .agg #[.int .i64 p, .int .i64 q, .int .i64 r, .int .i64 s]] w fun e w' => e = .returned (.int .i64 (kd (p, q, r, s))) ∧ Below w.heap.size w w' := by
  have hl := hK (p, q, r, s) ((w.alloc (.cells #[.slice ad n cc, .map (some ra), .map (some rk)] 63)).alloc (.cells #[.int .i64 p, .int .i64 q, .int .i64 r, .int .i64 s] 72)) (bl_alloc (bl_alloc (bl_refl _)))
  simp only [ek] at hl
  clear hK
  go_enter Tryd.func55, Tryd.ntmps55
  go_wp2
  go_ret
  exact ⟨rfl, bl_alloc (bl_alloc (bl_refl _))⟩

theorem ret_agg2 {a b a' b' : Int} (h1 : a = a') (h2 : b = b') : Ending.returned (.agg #[.int .i64 a, .int .i64 b]) = .returned (.agg #[.int .i64 a', .int .i64 b']) := by subst h1 h2; rfl
set_option maxHeartbeats 1600000 in
theorem paperLine_any (p q r s : Int) (w : World) (h1 : 0 ≤ p ∧ p ≤ 100) (h2 : 0 ≤ q ∧ q ≤ 100) :
    Calls Tryd.prog 91 #[.agg #[.int .i64 p, .int .i64 q, .int .i64 r, .int .i64 s]] w fun e w' => e = .returned (.agg #[.int .i64 (lnW (p, q, r, s)), .int .i64 (lnC (p, q, r, s))]) ∧ Below w.heap.size w w' := by
  obtain ⟨a1, a2⟩ := h1
  obtain ⟨b1, b2⟩ := h2
  by_cases c1 : p = r
  · subst c1
    go_enter Tryd.func91, Tryd.ntmps91
    go_wp2
    refine bodyPost_ret (v := .agg #[_, _]) (by simp [results, Tryd.results91, go_sem]; exact ⟨rfl, rfl⟩) rfl ⟨?_, ?_⟩
    · exact ret_agg2 (by simp [lnW]) (by simp [lnC])
    · with_reducible repeat (first | exact bl_refl _ | refine bl_alloc ?_ | refine bl_set ?_ ?_)
      all_goals (simp)
  · by_cases c2 : q = s
    · subst c2
      go_enter Tryd.func91, Tryd.ntmps91
      go_wp2
      refine bodyPost_ret (v := .agg #[_, _]) (by simp [results, Tryd.results91, go_sem]; exact ⟨rfl, rfl⟩) rfl ⟨?_, ?_⟩
      · exact ret_agg2 (by simp [lnW, c1]) (by simp [lnC, c1])
      · with_reducible repeat (first | exact bl_refl _ | refine bl_alloc ?_ | refine bl_set ?_ ?_)
        all_goals (simp)
    · by_cases c3 : s < q
      · go_enter Tryd.func91, Tryd.ntmps91
        go_wp2
        refine bodyPost_ret (v := .agg #[_, _]) (by simp [results, Tryd.results91, go_sem]; exact ⟨rfl, rfl⟩) rfl ⟨?_, ?_⟩
        · exact ret_agg2 (by simp [lnW, c1, c2, c3]) (by simp [lnC, c1, c2, c3])
        · with_reducible repeat (first | exact bl_refl _ | refine bl_alloc ?_ | refine bl_set ?_ ?_)
          all_goals (simp)
      · go_enter Tryd.func91, Tryd.ntmps91
        go_wp2
        refine bodyPost_ret (v := .agg #[_, _]) (by simp [results, Tryd.results91, go_sem]; exact ⟨rfl, rfl⟩) rfl ⟨?_, ?_⟩
        · exact ret_agg2 (by simp only [lnW, if_neg c1, if_neg c2, if_neg (show ¬ s < q by omega)]) (by simp only [lnC, if_neg c1, if_neg c2, if_neg (show ¬ s < q by omega)])
        · with_reducible repeat (first | exact bl_refl _ | refine bl_alloc ?_ | refine bl_set ?_ ?_)
          all_goals (simp)

/-- A map as the code has it. -/
def mv (m : M6) : Value := .agg #[.int .i64 m.1, .int .i64 m.2.1, .int .i64 m.2.2.1, .int .i64 m.2.2.2.1, .int .i64 m.2.2.2.2.1, .int .i64 m.2.2.2.2.2]
theorem six_cases {o : Nat} (h : o < 6) : o = 0 ∨ o = 1 ∨ o = 2 ∨ o = 3 ∨ o = 4 ∨ o = 5 := by omega
set_option maxRecDepth 100000 in
set_option maxHeartbeats 3200000 in
theorem beyond_any (w : World) (ad : Option Addr) (n cc ra rk : Nat) (kd : Int × Int × Int × Int → Int) (p q r s A B C D E F : Int) (hK : KL w rk kd) (h1 : 0 ≤ p ∧ p ≤ 100) (h2 : 0 ≤ q ∧ q ≤ 100) (hl : lineB (lnW (p, q, r, s)) (lnC (p, q, r, s)) = true ∧ -40 ≤ lnC (p, q, r, s) ∧ lnC (p, q, r, s) ≤ 40) (hm : GoodM (A, B, C, D, E, F) 800000) :
    Calls Tryd.prog 70 #[.agg #[.slice ad n cc, .map (some ra), .map (some rk)], .agg #[.int .i64 p, .int .i64 q, .int .i64 r, .int .i64 s], .agg #[.int .i64 A, .int .i64 B, .int .i64 C, .int .i64 D, .int .i64 E, .int .i64 F]] w fun e w' => e = .returned (mv (farM kd (p, q, r, s) (A, B, C, D, E, F))) ∧ Below w.heap.size w w' := by
  have hmir := mir_may hl.1 hl.2
  have haft := aft_good hmir hm (by omega)
  by_cases hz : kd (p, q, r, s) = 0
  · have CK : Hid (∀ W' : World, Below w.heap.size w W' → Calls Tryd.prog 55 #[.agg #[.slice ad n cc, .map (some ra), .map (some rk)], .agg #[.int .i64 p, .int .i64 q, .int .i64 r, .int .i64 s]] W' fun e w' => e = .returned (.int .i64 0) ∧ Below W'.heap.size W' w') := fun W' hW' => hz ▸ kind_any W' ad n cc ra rk kd p q r s (hK.kept hW')
    have HF : Hid (farM kd (p, q, r, s) (A, B, C, D, E, F) = (A, B, C, D, E, F)) := by
      have : farM kd (p, q, r, s) (A, B, C, D, E, F) = (A, B, C, D, E, F) := by simp [farM, hz]
      exact this
    clear hK hl hm hmir haft h1 h2 hz
    go_enter Tryd.func70, Tryd.ntmps70
    go_wp2_with (go_at_call 55; refine (CK.out _ (by with_reducible exact bl_alloc (bl_alloc (bl_alloc (bl_alloc (bl_refl _)))))).mono ?_; rintro e w2 ⟨rfl, hb⟩; have HB : Hid (Below w.heap.size w w2) := bl_via (bl_alloc (bl_alloc (bl_alloc (bl_alloc (bl_refl _))))) hb; have m0 : w2.cell? ⟨w.heap.size + 1 + 1, 0, none⟩ = some (.int .i64 A) := cl_kept hb (by simp [go_sem]); have m1 : w2.cell? ⟨w.heap.size + 1 + 1, 1, none⟩ = some (.int .i64 B) := cl_kept hb (by simp [go_sem]); have m2 : w2.cell? ⟨w.heap.size + 1 + 1, 2, none⟩ = some (.int .i64 C) := cl_kept hb (by simp [go_sem]); have m3 : w2.cell? ⟨w.heap.size + 1 + 1, 3, none⟩ = some (.int .i64 D) := cl_kept hb (by simp [go_sem]); have m4 : w2.cell? ⟨w.heap.size + 1 + 1, 4, none⟩ = some (.int .i64 E) := cl_kept hb (by simp [go_sem]); have m5 : w2.cell? ⟨w.heap.size + 1 + 1, 5, none⟩ = some (.int .i64 F) := cl_kept hb (by simp [go_sem]); have r0 : w2.cell? ⟨w.heap.size + 1 + 1 + 1, 0, none⟩ = some (.int .i64 0) := cl_kept hb (by simp [go_sem]); have r1 : w2.cell? ⟨w.heap.size + 1 + 1 + 1, 1, none⟩ = some (.int .i64 0) := cl_kept hb (by simp [go_sem]); have r2 : w2.cell? ⟨w.heap.size + 1 + 1 + 1, 2, none⟩ = some (.int .i64 0) := cl_kept hb (by simp [go_sem]); have r3 : w2.cell? ⟨w.heap.size + 1 + 1 + 1, 3, none⟩ = some (.int .i64 0) := cl_kept hb (by simp [go_sem]); have r4 : w2.cell? ⟨w.heap.size + 1 + 1 + 1, 4, none⟩ = some (.int .i64 0) := cl_kept hb (by simp [go_sem]); have r5 : w2.cell? ⟨w.heap.size + 1 + 1 + 1, 5, none⟩ = some (.int .i64 0) := cl_kept hb (by simp [go_sem]); have fz : ∀ o, o < 6 → w2.frozen? ⟨w.heap.size + 1 + 1 + 1, o, none⟩ = false := fun o ho => (hb.frozen (p := ⟨w.heap.size + 1 + 1 + 1, o, none⟩) (by simp)).trans (by simp [go_sem]); have f0 := fz 0 (by omega); have f1 := fz 1 (by omega); have f2 := fz 2 (by omega); have f3 := fz 3 (by omega); have f4 := fz 4 (by omega); have f5 := fz 5 (by omega); have zw : w.heap.size + 1 + 1 + 1 < w2.heap.size := World.block_lt_of_cell? _ _ r0; clear fz hb)
    refine bodyPost_ret (v := .agg #[.int .i64 A, .int .i64 B, .int .i64 C, .int .i64 D, .int .i64 E, .int .i64 F]) (by simp [results, Tryd.results70, go_sem, r0, r1, r2, r3, r4, r5]) rfl ⟨by rw [HF.out]; rfl, ?_⟩
    with_reducible repeat (first | exact HB.out | refine bl_set ?_ ?_)
    all_goals (dsimp only; omega)
  · obtain ⟨z, hzz⟩ : ∃ z, z = kd (p, q, r, s) := ⟨_, rfl⟩
    have CK : Hid (∀ W' : World, Below w.heap.size w W' → Calls Tryd.prog 55 #[.agg #[.slice ad n cc, .map (some ra), .map (some rk)], .agg #[.int .i64 p, .int .i64 q, .int .i64 r, .int .i64 s]] W' fun e w' => e = .returned (.int .i64 z) ∧ Below W'.heap.size W' w') := fun W' hW' => hzz ▸ kind_any W' ad n cc ra rk kd p q r s (hK.kept hW')
    have HF : Hid (farM kd (p, q, r, s) (A, B, C, D, E, F) = aft (mir (lnW (p, q, r, s)) (lnC (p, q, r, s))) (A, B, C, D, E, F)) := by
      have : farM kd (p, q, r, s) (A, B, C, D, E, F) = aft (mir (lnW (p, q, r, s)) (lnC (p, q, r, s))) (A, B, C, D, E, F) := by simp [farM, hz]
      exact this
    rw [← hzz] at hz
    obtain ⟨v, hv⟩ : ∃ v, v = lnW (p, q, r, s) := ⟨_, rfl⟩
    obtain ⟨c, hc⟩ : ∃ c, c = lnC (p, q, r, s) := ⟨_, rfl⟩
    have CL : Hid (∀ W' : World, Calls Tryd.prog 91 #[.agg #[.int .i64 p, .int .i64 q, .int .i64 r, .int .i64 s]] W' fun e w' => e = .returned (.agg #[.int .i64 v, .int .i64 c]) ∧ Below W'.heap.size W' w') := fun W' => by
      rw [hv, hc]
      exact paperLine_any p q r s W' h1 h2
    rw [← hv, ← hc] at hl hmir haft HF
    obtain ⟨a, b, c', d, e, f, hmv⟩ : ∃ a b c' d e f, mir v c = (a, b, c', d, e, f) := ⟨_, _, _, _, _, _, rfl⟩
    have CM : Hid (∀ W' : World, Calls Tryd.prog 90 #[.agg #[.int .i64 v, .int .i64 c]] W' fun e' w' => e' = .returned (.tuple #[.agg #[.int .i64 a, .int .i64 b, .int .i64 c', .int .i64 d, .int .i64 e, .int .i64 f], .int .i64 0]) ∧ Below W'.heap.size W' w') := fun W' => by
      have h := Mirror_yes v c W' hl.1 hmir.1
      simp only [mir, Prod.mk.injEq] at hmv
      obtain ⟨rfl, rfl, rfl, rfl, rfl, rfl⟩ := hmv
      exact h
    rw [hmv] at hmir haft HF
    have CA : Hid (∀ W' : World, Calls Tryd.prog 92 #[.agg #[.int .i64 a, .int .i64 b, .int .i64 c', .int .i64 d, .int .i64 e, .int .i64 f], .agg #[.int .i64 A, .int .i64 B, .int .i64 C, .int .i64 D, .int .i64 E, .int .i64 F]] W' fun r w' => r = .returned (.tuple #[.agg #[.int .i64 (dot A B a c'), .int .i64 (dot A B b d), .int .i64 (dot C D a c'), .int .i64 (dot C D b d), .int .i64 (dot A B e f + E), .int .i64 (dot C D e f + F)], .int .i64 0]) ∧ Below W'.heap.size W' w') := fun W' => After_yes a b c' d e f A B C D E F W' hmir.1 hm.1 haft.1
    clear hK hl hm hmir haft h1 h2 hzz hv hc hmv
    go_enter Tryd.func70, Tryd.ntmps70
    go_wp2_with (first
      | (go_at_call 55; refine (CK.out _ (by with_reducible exact bl_alloc (bl_alloc (bl_alloc (bl_alloc (bl_refl _)))))).mono ?_; rintro e w2 ⟨rfl, hb⟩; have HB : Hid (Below w.heap.size w w2) := bl_via (bl_alloc (bl_alloc (bl_alloc (bl_alloc (bl_refl _))))) hb; have e0 : w2.cell? ⟨w.heap.size + 1, 0, none⟩ = some (.int .i64 p) := cl_kept hb (by simp [go_sem]); have e1 : w2.cell? ⟨w.heap.size + 1, 1, none⟩ = some (.int .i64 q) := cl_kept hb (by simp [go_sem]); have e2 : w2.cell? ⟨w.heap.size + 1, 2, none⟩ = some (.int .i64 r) := cl_kept hb (by simp [go_sem]); have e3 : w2.cell? ⟨w.heap.size + 1, 3, none⟩ = some (.int .i64 s) := cl_kept hb (by simp [go_sem]); have m0 : w2.cell? ⟨w.heap.size + 1 + 1, 0, none⟩ = some (.int .i64 A) := cl_kept hb (by simp [go_sem]); have m1 : w2.cell? ⟨w.heap.size + 1 + 1, 1, none⟩ = some (.int .i64 B) := cl_kept hb (by simp [go_sem]); have m2 : w2.cell? ⟨w.heap.size + 1 + 1, 2, none⟩ = some (.int .i64 C) := cl_kept hb (by simp [go_sem]); have m3 : w2.cell? ⟨w.heap.size + 1 + 1, 3, none⟩ = some (.int .i64 D) := cl_kept hb (by simp [go_sem]); have m4 : w2.cell? ⟨w.heap.size + 1 + 1, 4, none⟩ = some (.int .i64 E) := cl_kept hb (by simp [go_sem]); have m5 : w2.cell? ⟨w.heap.size + 1 + 1, 5, none⟩ = some (.int .i64 F) := cl_kept hb (by simp [go_sem]); have r0 : w2.cell? ⟨w.heap.size + 1 + 1 + 1, 0, none⟩ = some (.int .i64 0) := cl_kept hb (by simp [go_sem]); have HZ : Hid (∀ o, o < 6 → w2.cell? ⟨w.heap.size + 1 + 1 + 1, o, none⟩ = some (.int .i64 0) ∧ w2.frozen? ⟨w.heap.size + 1 + 1 + 1, o, none⟩ = false) := fun o ho => ⟨cl_kept hb (by rcases six_cases ho with rfl | rfl | rfl | rfl | rfl | rfl <;> simp [go_sem]), (hb.frozen (p := ⟨w.heap.size + 1 + 1 + 1, o, none⟩) (by simp)).trans (by simp [go_sem])⟩; have zw : w.heap.size + 1 + 1 + 1 < w2.heap.size := World.block_lt_of_cell? _ _ r0; clear hb)
      | (go_at_call 91; refine (CL.out _).mono ?_; rintro e w3 ⟨rfl, hb⟩; have HB3 : Hid (Below w2.heap.size w2 w3) := hb; clear hb)
      | (go_at_call 90; refine (CM.out _).mono ?_; rintro e w4 ⟨rfl, hb⟩; have HB4 : Hid (Below w2.heap.size w2 w4) := bl_via HB3.out hb; have n0 := cl_kept HB4.out m0; have n1 := cl_kept HB4.out m1; have n2 := cl_kept HB4.out m2; have n3 := cl_kept HB4.out m3; have n4 := cl_kept HB4.out m4; have n5 := cl_kept HB4.out m5; have z4 : w.heap.size + 1 + 1 < w4.heap.size := World.block_lt_of_cell? _ _ n0; clear hb)
      | (go_at_call 92; refine (CA.out _).mono ?_; rintro e w5 ⟨rfl, hb⟩; have HB5 : Hid (Below w2.heap.size w2 w5) := bl_via (bl_alloc HB4.out) hb; have s0 := cl_kept HB5.out (HZ.out 0 (by omega)).1; have f0 := (HB5.out.frozen (p := ⟨w.heap.size + 1 + 1 + 1, 0, none⟩) zw).trans (HZ.out 0 (by omega)).2; have s1 := cl_kept HB5.out (HZ.out 1 (by omega)).1; have f1 := (HB5.out.frozen (p := ⟨w.heap.size + 1 + 1 + 1, 1, none⟩) zw).trans (HZ.out 1 (by omega)).2; have s2 := cl_kept HB5.out (HZ.out 2 (by omega)).1; have f2 := (HB5.out.frozen (p := ⟨w.heap.size + 1 + 1 + 1, 2, none⟩) zw).trans (HZ.out 2 (by omega)).2; have s3 := cl_kept HB5.out (HZ.out 3 (by omega)).1; have f3 := (HB5.out.frozen (p := ⟨w.heap.size + 1 + 1 + 1, 3, none⟩) zw).trans (HZ.out 3 (by omega)).2; have s4 := cl_kept HB5.out (HZ.out 4 (by omega)).1; have f4 := (HB5.out.frozen (p := ⟨w.heap.size + 1 + 1 + 1, 4, none⟩) zw).trans (HZ.out 4 (by omega)).2; have s5 := cl_kept HB5.out (HZ.out 5 (by omega)).1; have f5 := (HB5.out.frozen (p := ⟨w.heap.size + 1 + 1 + 1, 5, none⟩) zw).trans (HZ.out 5 (by omega)).2; have z5 : w.heap.size + 1 + 1 + 1 < w5.heap.size := World.block_lt_of_cell? _ _ s0; clear hb))
    refine bodyPost_ret (v := .agg #[.int .i64 (dot A B a c'), .int .i64 (dot A B b d), .int .i64 (dot C D a c'), .int .i64 (dot C D b d), .int .i64 (dot A B e f + E), .int .i64 (dot C D e f + F)]) ?_ rfl ⟨by rw [HF.out]; rfl, ?_⟩
    · simp [results, Tryd.results70, go_sem, s0, s1, s2, s3, s4, s5, World.cell?_alloc_past, z5]
    · with_reducible repeat (first | exact bl_via HB.out HB5.out | refine bl_set ?_ ?_ | refine bl_alloc ?_)
      all_goals (dsimp only; omega)
end Go.Proofs.YtmjneoaciopioaaDoor
