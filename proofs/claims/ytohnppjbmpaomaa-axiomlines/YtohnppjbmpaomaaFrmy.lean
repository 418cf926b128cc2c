/- The reference's FarMay. -/
import Derived.Test.YtohnppjbmpaomaaWrng
namespace Go.Proofs.Ytohnppjbmpaomaa
open Go.RowKit

theorem inBounds27 (n : Int) (w : World) : Calls Try.prog 27 #[.int .i64 n, .int .i64 (-1000), .int .i64 1000] w fun e w' => e = .returned (.bool (!far n)) ∧ Below w.heap.size w w' := by
  by_cases h1 : -1000 ≤ n
  · have q1 : decide (-1000 ≤ n) = true := by simpa using h1
    by_cases h2 : n ≤ 1000
    · have q2 : decide (n ≤ 1000) = true := by simpa using h2
      have q3 : far n = false := far_no.2 ⟨h1, h2⟩
      go_enter Try.func27, Try.ntmps27
      go_wp2
      go_ret
      exact ⟨ret_bool (by first | rfl | (rw [q3]; rfl)), bl_refl _⟩
    · have q2 : decide (n ≤ 1000) = false := by simpa using h2
      have q3 : far n = true := by simp [far]; omega
      go_enter Try.func27, Try.ntmps27
      go_wp2
      go_ret
      exact ⟨ret_bool (by first | rfl | (rw [q3]; rfl)), bl_refl _⟩
  · have q1 : decide (-1000 ≤ n) = false := by simpa using h1
    have q3 : far n = true := by simp [far]; omega
    go_enter Try.func27, Try.ntmps27
    go_wp2
    go_ret
    exact ⟨ret_bool (by first | rfl | (rw [q3]; rfl)), bl_refl _⟩
/-- A point's numbers. -/
structure Pn where
  x : Int
  y : Int
def gp (L : List Pn) (i : Nat) : Pn := L.getD i ⟨0, 0⟩
def Pn.far (p : Pn) : Bool := Ytohnppjbmpaomaa.far p.x || Ytohnppjbmpaomaa.far p.y
theorem gp_lt {h : List Pn} {i : Nat} (hi : i < h.length) : gp h i = h[i] := by simp [gp, hi]
theorem any_gp {p : Pn → Bool} {l : List Pn} {i : Nat} (h : i < l.length) (hf : p (gp l i) = true) : l.any p = true := by
  rw [gp_lt h] at hf
  exact List.any_eq_true.2 ⟨_, List.getElem_mem h, hf⟩
theorem any_ngp {p : Pn → Bool} {l : List Pn} (h : ∀ k, k < l.length → p (gp l k) = false) : l.any p = false := by
  rw [List.any_eq_false]
  intro x hx
  obtain ⟨i, hi, rfl⟩ := List.getElem_of_mem hx
  have := h i hi
  rw [gp_lt hi] at this
  simp [this]
/-- A slice with these points. -/
def Sp (w : World) (v : Value) (L : List Pn) : Prop := ∃ a c, v = .slice a L.length c ∧ ∀ i, i < L.length → ∃ g, a = some ⟨g, 0, none⟩ ∧ w.cell? ⟨g, i * 2, none⟩ = some (.int .i64 (gp L i).x) ∧ w.cell? ⟨g, i * 2 + 1, none⟩ = some (.int .i64 (gp L i).y)
def fmay (P : List Pn) (L : List Ln) : Int := if P.any Pn.far = true then 3 else if L.any Ln.far = true then 3 else if L.any Ln.wl = true then 1 else 0
set_option maxRecDepth 100000 in
set_option maxHeartbeats 1600000 in
theorem farMay10 (v u : Value) (P : List Pn) (L : List Ln) (w : World) (hv : Sp w v P) (hu : Sn w u L) (hP : P.length ≤ 17592186044416) (hL : L.length ≤ 17592186044416) :
    Calls Try.prog 10 #[v, u] w fun e w' => e = .returned (.int .i64 (fmay P L)) ∧ Below w.heap.size w w' := by
  obtain ⟨a, c, rfl, hR⟩ := hv
  obtain ⟨b, d, rfl, hS⟩ := hu
  have HR : Hid (∀ i, i < P.length → ∃ g, a = some ⟨g, 0, none⟩ ∧ w.cell? ⟨g, i * 2, none⟩ = some (.int .i64 (gp P i).x) ∧ w.cell? ⟨g, i * 2 + 1, none⟩ = some (.int .i64 (gp P i).y)) := hR
  have HS : Hid (∀ i, i < L.length → ∃ g, b = some ⟨g, 0, none⟩ ∧ w.cell? ⟨g, i * 3, none⟩ = some (.int .i64 (gl L i).a) ∧ w.cell? ⟨g, i * 3 + 1, none⟩ = some (.int .i64 (gl L i).b) ∧ w.cell? ⟨g, i * 3 + 2, none⟩ = some (.int .i64 (gl L i).c)) := hS
  have C27 : Hid (∀ (n : Int) (W : World), Calls Try.prog 27 #[.int .i64 n, .int .i64 (-1000), .int .i64 1000] W fun e w' => e = .returned (.bool (!far n)) ∧ Below W.heap.size W w') := fun n W => inBounds27 n W
  clear hR hS
  obtain ⟨nv, hnv⟩ : ∃ b, b = fmay P L := ⟨_, rfl⟩
  have HC : Hid (nv = fmay P L) := hnv
  rw [← hnv]
  clear hnv
  go_enter Try.func10, Try.ntmps10
  go_wp2
  go_loopg [5] P.length (fun gk s5 wx => ∃ i : Nat, i ≤ P.length ∧ gk = P.length - i ∧ s5 = .int .i64 (i : Int) ∧ Below w.heap.size w wx ∧ ∀ k, k < i → (gp P k).far = false)
  case atStart => exact ⟨0, by omega, rfl, rfl, bl_refl _, fun k hk => by omega⟩
  case round =>
    obtain ⟨i, hi, rfl, rfl, hB, hno⟩ := hrel
    have HB : Hid (Below w.heap.size w wr ∧ ∀ k, k < i → (gp P k).far = false) := ⟨hB, hno⟩
    clear hB hno
    by_cases h1 : i < P.length
    · have i1 : (i : Int) < (P.length : Int) := by omega
      have i0 : (0 : Int) ≤ (i : Int) := by omega
      obtain ⟨g, rfl, c0, c1⟩ := HR.out i h1
      replace c0 := cl_kept HB.out.1 c0
      replace c1 := cl_kept HB.out.1 c1
      have zg : g < wr.heap.size := World.block_lt_of_cell? _ _ c0
      have HF : Hid (∀ b, (gp P i).far = b → (Ytohnppjbmpaomaa.far (gp P i).x || Ytohnppjbmpaomaa.far (gp P i).y) = b) := fun b h => h
      have C1 := C27.out (gp P i).x
      have C2 := C27.out (gp P i).y
      obtain ⟨k1, h1'⟩ : ∃ k, k = far (gp P i).x := ⟨_, rfl⟩
      obtain ⟨k2, h2'⟩ : ∃ k, k = far (gp P i).y := ⟨_, rfl⟩
      have HK : Hid ((gp P i).far = (k1 || k2)) := by rw [h1', h2']; rfl
      rw [← h1'] at C1
      rw [← h2'] at C2
      clear h1' h2' HF
      generalize (gp P i).x = px at *
      generalize (gp P i).y = py at *
      have D1 : Hid (∀ (W : World), Calls Try.prog 27 #[.int .i64 px, .int .i64 (-1000), .int .i64 1000] W fun e w' => e = .returned (.bool (!k1)) ∧ Below W.heap.size W w') := C1
      have D2 : Hid (∀ (W : World), Calls Try.prog 27 #[.int .i64 py, .int .i64 (-1000), .int .i64 1000] W fun e w' => e = .returned (.bool (!k2)) ∧ Below W.heap.size W w') := C2
      clear C1 C2
      have HY : Hid ((gp P i).far = true → nv = 3) := fun h => by rw [HC.out, fmay, if_pos (any_gp h1 h)]
      have HN : Hid ((gp P i).far = false → ∀ k, k < i + 1 → (gp P k).far = false) := fun h k hk => by
        by_cases hki : k < i
        · exact HB.out.2 k hki
        · have : k = i := by omega
          rw [this]
          exact h
      cases k1
      · cases k2
        · go_wp2_with (first | (go_at_call 27; with_reducible refine (D1.out _).mono ?_; rintro e w1 ⟨rfl, hb⟩; replace c1 := cl_kept hb c1; simp only [Bool.not_false]) | (go_at_call 27; with_reducible refine (D2.out _).mono ?_; rintro e w2 ⟨rfl, hb2⟩; simp only [Bool.not_false]) | fail)
          go_roundg (P.length - (i + 1))
          case measure => omega
          case rel => exact ⟨i + 1, by omega, rfl, by go_num, bl_via (bl_via HB.out.1 hb) hb2, HN.out HK.out⟩
        · go_wp2_with (first | (go_at_call 27; with_reducible refine (D1.out _).mono ?_; rintro e w1 ⟨rfl, hb⟩; replace c1 := cl_kept hb c1; simp only [Bool.not_false]) | (go_at_call 27; with_reducible refine (D2.out _).mono ?_; rintro e w2 ⟨rfl, hb2⟩; simp only [Bool.not_true]) | fail)
          go_ret
          exact ⟨ret_int (HY.out HK.out).symm, bl_via (bl_via HB.out.1 hb) hb2⟩
      · go_wp2_with (go_at_call 27; with_reducible refine (D1.out _).mono ?_; rintro e w1 ⟨rfl, hb⟩; simp only [Bool.not_true])
        go_ret
        exact ⟨ret_int (HY.out (HK.out.trans (by simp))).symm, bl_via HB.out.1 hb⟩
    · have i1 : ¬ (i : Int) < (P.length : Int) := by omega
      obtain rfl : i = P.length := by omega
      have HP : Hid (nv = if L.any Ln.far = true then 3 else if L.any Ln.wl = true then 1 else 0) := (by rw [HC.out, fmay, any_ngp HB.out.2]; simp : nv = if L.any Ln.far = true then 3 else if L.any Ln.wl = true then 1 else 0)
      clear HC
      go_wp2
      go_loopg [6] L.length (fun gk s6 wx => ∃ i : Nat, i ≤ L.length ∧ gk = L.length - i ∧ s6 = .int .i64 (i : Int) ∧ Below w.heap.size w wx ∧ ∀ k, k < i → (gl L k).far = false)
      case atStart => exact ⟨0, by omega, rfl, rfl, HB.out.1, fun k hk => by omega⟩
      case round =>
        obtain ⟨i, hi, rfl, rfl, hB, hno⟩ := hrel
        have HD : Hid (Below w.heap.size w wr ∧ ∀ k, k < i → (gl L k).far = false) := ⟨hB, hno⟩
        clear hB hno
        by_cases h1 : i < L.length
        · have i1 : (i : Int) < (L.length : Int) := by omega
          have i0 : (0 : Int) ≤ (i : Int) := by omega
          obtain ⟨g, rfl, c0, c1, c2⟩ := HS.out i h1
          replace c0 := cl_kept HD.out.1 c0
          replace c1 := cl_kept HD.out.1 c1
          replace c2 := cl_kept HD.out.1 c2
          have zg : g < wr.heap.size := World.block_lt_of_cell? _ _ c0
          have C1 := C27.out (gl L i).a
          have C2 := C27.out (gl L i).b
          have C3 := C27.out (gl L i).c
          obtain ⟨k1, h1'⟩ : ∃ k, k = far (gl L i).a := ⟨_, rfl⟩
          obtain ⟨k2, h2'⟩ : ∃ k, k = far (gl L i).b := ⟨_, rfl⟩
          obtain ⟨k3, h3'⟩ : ∃ k, k = far (gl L i).c := ⟨_, rfl⟩
          have HK : Hid ((gl L i).far = (k1 || (k2 || k3))) := (by rw [h1', h2', h3']; simp [Ln.far] : (gl L i).far = (k1 || (k2 || k3)))
          rw [← h1'] at C1
          rw [← h2'] at C2
          rw [← h3'] at C3
          clear h1' h2' h3'
          generalize (gl L i).a = la at *
          generalize (gl L i).b = lb at *
          generalize (gl L i).c = lc at *
          have D1 : Hid (∀ (W : World), Calls Try.prog 27 #[.int .i64 la, .int .i64 (-1000), .int .i64 1000] W fun e w' => e = .returned (.bool (!k1)) ∧ Below W.heap.size W w') := C1
          have D2 : Hid (∀ (W : World), Calls Try.prog 27 #[.int .i64 lb, .int .i64 (-1000), .int .i64 1000] W fun e w' => e = .returned (.bool (!k2)) ∧ Below W.heap.size W w') := C2
          have D3 : Hid (∀ (W : World), Calls Try.prog 27 #[.int .i64 lc, .int .i64 (-1000), .int .i64 1000] W fun e w' => e = .returned (.bool (!k3)) ∧ Below W.heap.size W w') := C3
          clear C1 C2 C3
          have HY : Hid ((gl L i).far = true → nv = 3) := fun h => by rw [HP.out, if_pos (any_gl h1 h)]
          have HN : Hid ((gl L i).far = false → ∀ k, k < i + 1 → (gl L k).far = false) := fun h k hk => by
            by_cases hki : k < i
            · exact HD.out.2 k hki
            · have : k = i := by omega
              rw [this]
              exact h
          cases k1
          · cases k2
            · cases k3
              · go_wp2_with (first | (go_at_call 27; with_reducible refine (D1.out _).mono ?_; rintro e w1 ⟨rfl, hb⟩; have b1 : w1.cell? ⟨wr.heap.size, 1, none⟩ = some (.int .i64 lb) := cl_kept hb (by simp [go_sem]); have b2 : w1.cell? ⟨wr.heap.size, 2, none⟩ = some (.int .i64 lc) := cl_kept hb (by simp [go_sem]); simp only [Bool.not_false]) | (go_at_call 27; with_reducible refine (D2.out _).mono ?_; rintro e w2 ⟨rfl, hb2⟩; replace b2 := cl_kept hb2 b2; simp only [Bool.not_false]) | (go_at_call 27; with_reducible refine (D3.out _).mono ?_; rintro e w3 ⟨rfl, hb3⟩; simp only [Bool.not_false]) | fail)
                go_roundg (L.length - (i + 1))
                case measure => omega
                case rel => exact ⟨i + 1, by omega, rfl, by go_num, bl_via HD.out.1 (bl_via (bl_via (bl_via (by first | exact bl_alloc (bl_refl _) | exact bl_set (bl_set (bl_set (bl_alloc (bl_refl _)) (Nat.le_refl _)) (Nat.le_refl _)) (Nat.le_refl _)) hb) hb2) hb3), HN.out HK.out⟩
              · go_wp2_with (first | (go_at_call 27; with_reducible refine (D1.out _).mono ?_; rintro e w1 ⟨rfl, hb⟩; have b1 : w1.cell? ⟨wr.heap.size, 1, none⟩ = some (.int .i64 lb) := cl_kept hb (by simp [go_sem]); have b2 : w1.cell? ⟨wr.heap.size, 2, none⟩ = some (.int .i64 lc) := cl_kept hb (by simp [go_sem]); simp only [Bool.not_false]) | (go_at_call 27; with_reducible refine (D2.out _).mono ?_; rintro e w2 ⟨rfl, hb2⟩; replace b2 := cl_kept hb2 b2; simp only [Bool.not_false]) | (go_at_call 27; with_reducible refine (D3.out _).mono ?_; rintro e w3 ⟨rfl, hb3⟩; simp only [Bool.not_true]) | fail)
                go_ret
                exact ⟨ret_int (HY.out HK.out).symm, bl_via HD.out.1 (bl_via (bl_via (bl_via (by first | exact bl_alloc (bl_refl _) | exact bl_set (bl_set (bl_set (bl_alloc (bl_refl _)) (Nat.le_refl _)) (Nat.le_refl _)) (Nat.le_refl _)) hb) hb2) hb3)⟩
            · go_wp2_with (first | (go_at_call 27; with_reducible refine (D1.out _).mono ?_; rintro e w1 ⟨rfl, hb⟩; have b1 : w1.cell? ⟨wr.heap.size, 1, none⟩ = some (.int .i64 lb) := cl_kept hb (by simp [go_sem]); have b2 : w1.cell? ⟨wr.heap.size, 2, none⟩ = some (.int .i64 lc) := cl_kept hb (by simp [go_sem]); simp only [Bool.not_false]) | (go_at_call 27; with_reducible refine (D2.out _).mono ?_; rintro e w2 ⟨rfl, hb2⟩; replace b2 := cl_kept hb2 b2; simp only [Bool.not_true]) | (go_at_call 27; with_reducible refine (D3.out _).mono ?_; rintro e w3 ⟨rfl, hb3⟩; simp only [Bool.not_false, Bool.not_true]) | fail)
              go_ret
              exact ⟨ret_int (HY.out (HK.out.trans (by simp))).symm, bl_via HD.out.1 (bl_via (bl_via (by first | exact bl_alloc (bl_refl _) | exact bl_set (bl_set (bl_set (bl_alloc (bl_refl _)) (Nat.le_refl _)) (Nat.le_refl _)) (Nat.le_refl _)) hb) hb2)⟩
          · go_wp2_with (first | (go_at_call 27; with_reducible refine (D1.out _).mono ?_; rintro e w1 ⟨rfl, hb⟩; have b1 : w1.cell? ⟨wr.heap.size, 1, none⟩ = some (.int .i64 lb) := cl_kept hb (by simp [go_sem]); have b2 : w1.cell? ⟨wr.heap.size, 2, none⟩ = some (.int .i64 lc) := cl_kept hb (by simp [go_sem]); simp only [Bool.not_true]) | (go_at_call 27; with_reducible refine (D2.out _).mono ?_; rintro e w2 ⟨rfl, hb2⟩; replace b2 := cl_kept hb2 b2; simp only [Bool.not_false, Bool.not_true]) | (go_at_call 27; with_reducible refine (D3.out _).mono ?_; rintro e w3 ⟨rfl, hb3⟩; simp only [Bool.not_false, Bool.not_true]) | fail)
            go_ret
            exact ⟨ret_int (HY.out (HK.out.trans (by simp))).symm, bl_via HD.out.1 (bl_via (by first | exact bl_alloc (bl_refl _) | exact bl_set (bl_set (bl_set (bl_alloc (bl_refl _)) (Nat.le_refl _)) (Nat.le_refl _)) (Nat.le_refl _)) hb)⟩
        · have i1 : ¬ (i : Int) < (L.length : Int) := by omega
          obtain rfl : i = L.length := by omega
          have HQ : Hid (nv = if L.any Ln.wl = true then 1 else 0) := (by rw [HP.out, any_ngl HD.out.2]; simp : nv = if L.any Ln.wl = true then 1 else 0)
          clear HP
          go_wp2
          go_loopg [8] L.length (fun gk s8 wx => ∃ i : Nat, i ≤ L.length ∧ gk = L.length - i ∧ s8 = .int .i64 (i : Int) ∧ Below w.heap.size w wx ∧ ∀ k, k < i → (gl L k).wl = false)
          case atStart => exact ⟨0, by omega, rfl, rfl, HD.out.1, fun k hk => by omega⟩
          case round =>
            obtain ⟨i, hi, rfl, rfl, hB, hno⟩ := hrel
            have HE : Hid (Below w.heap.size w wr ∧ ∀ k, k < i → (gl L k).wl = false) := ⟨hB, hno⟩
            clear hB hno
            by_cases h1 : i < L.length
            · have i1 : (i : Int) < (L.length : Int) := by omega
              have i0 : (0 : Int) ≤ (i : Int) := by omega
              obtain ⟨g, rfl, c0, c1, c2⟩ := HS.out i h1
              replace c0 := cl_kept HE.out.1 c0
              replace c1 := cl_kept HE.out.1 c1
              clear c2
              have zg : g < wr.heap.size := World.block_lt_of_cell? _ _ c0
              have HK : Hid ((gl L i).wl = wl (gl L i).a (gl L i).b) := rfl
              generalize (gl L i).a = la at *
              generalize (gl L i).b = lb at *
              have HY : Hid ((gl L i).wl = true → nv = 1) := fun h => by rw [HQ.out, if_pos (any_gl h1 h)]
              have HN : Hid ((gl L i).wl = false → ∀ k, k < i + 1 → (gl L k).wl = false) := fun h k hk => by
                by_cases hki : k < i
                · exact HE.out.2 k hki
                · have : k = i := by omega
                  rw [this]
                  exact h
              by_cases e1 : la = 0
              · subst e1
                by_cases e2 : lb = 0
                · subst e2
                  go_wp2
                  go_ret
                  exact ⟨ret_int (HY.out HK.out).symm, HE.out.1⟩
                · have q2 : (lb == 0) = false := by simpa using e2
                  go_wp2
                  go_roundg (L.length - (i + 1))
                  case measure => omega
                  case rel => exact ⟨i + 1, by omega, rfl, by go_num, HE.out.1, HN.out (HK.out.trans (by simp [wl, e2]))⟩
              · have q1 : (la == 0) = false := by simpa using e1
                go_wp2
                go_roundg (L.length - (i + 1))
                case measure => omega
                case rel => exact ⟨i + 1, by omega, rfl, by go_num, HE.out.1, HN.out (HK.out.trans (by simp [wl, e1]))⟩
            · have i1 : ¬ (i : Int) < (L.length : Int) := by omega
              obtain rfl : i = L.length := by omega
              have HZ : Hid (nv = 0) := (by rw [HQ.out, any_ngl HE.out.2]; simp : nv = 0)
              go_wp2
              go_ret
              exact ⟨ret_int HZ.out.symm, HE.out.1⟩
end Go.Proofs.Ytohnppjbmpaomaa
