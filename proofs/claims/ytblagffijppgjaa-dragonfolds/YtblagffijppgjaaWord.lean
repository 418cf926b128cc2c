/- opened, Word. -/
import Derived.Test.YtblagffijppgjaaOpen
namespace Go.Proofs.Ytblagffijppgjaa
open Go.RowKit

theorem own_weak {w : World} {base b2 : Nat} {e : TypeId} {size : Nat} {v : Value} {n : Nat} {xs : List Value} (h : w.ownsRow base e size v n xs) (hb : b2 ≤ base) : w.ownsRow b2 e size v n xs := by
  refine ⟨h.1, ?_⟩
  rcases h.2 with h1 | ⟨g, cap, cur, h1, h2, h3⟩
  · exact Or.inl h1
  · exact Or.inr ⟨g, cap, cur, h1, by omega, h3⟩
theorem pow10 {n : Nat} (h : n ≤ 10) : 2 ^ n ≤ 1024 := Nat.pow_le_pow_right (n := 2) (by omega) h
theorem opn_take {fs : List Int} {i : Nat} (h : i < fs.length) : opn (fs.take (i + 1)) = crd (opn (fs.take i)) (gt fs i) := by rw [take_one h, opn_snoc]
theorem opn_small {fs : List Int} (h : fs.length ≤ 10) (i : Nat) : (opn (fs.take i)).length ≤ 1023 := by
  have h1 := opn_len (fs.take i)
  have h2 : (fs.take i).length ≤ 10 := by simp; omega
  have := pow10 h2
  omega
set_option maxRecDepth 100000 in
set_option maxHeartbeats 1000000 in
theorem opened19 (v : Value) (fs : List Int) (w : World) (hv : Sg w v fs) (hl : fs.length ≤ 10) (hk : allK fs = true) :
    Calls Try.prog 19 #[v] w fun e w' => ∃ u, e = .returned u ∧ w'.ownsRow w.heap.size 3 1 u (opn fs).length (rowI (opn fs)) ∧ Below w.heap.size w w' := by
  obtain ⟨a, c, rfl, hR⟩ := hv
  have HR : Hid (∀ i, i < fs.length → ∃ g off, a = some ⟨g, off, none⟩ ∧ w.cell? ⟨g, off + i, none⟩ = some (.int .i64 (gt fs i))) := hR
  have HK : Hid (allK fs = true) := hk
  have C27 : Hid (∀ (v : Value) (l : List Int) (k : Int) (W : World), Sg W v l → l.length ≤ 2000 → (k = 1 ∨ k = 2) → Calls Try.prog 27 #[v, .int .i64 k] W fun e w' => ∃ u, e = .returned u ∧ w'.ownsRow W.heap.size 3 1 u (crd l k).length (rowI (crd l k)) ∧ Below W.heap.size W w') := fun v l k W h1 h2 h3 => creased27 v l k W h1 h2 h3
  clear hR hk
  go_enter Try.func19, Try.ntmps19
  go_wp2
  go_loopg [3, 8] fs.length (fun gk s3 s8 wx => ∃ i : Nat, i ≤ fs.length ∧ gk = fs.length - i ∧ s8 = .int .i64 (i : Int) ∧ wx.ownsRow w.heap.size 3 1 s3 (opn (fs.take i)).length (rowI (opn (fs.take i))) ∧ Below w.heap.size w wx)
  case atStart => exact ⟨0, by omega, rfl, rfl, ⟨by simp [rowI, opn], Or.inl ⟨rfl, by simp [opn]⟩⟩, bl_refl _⟩
  case round =>
    obtain ⟨i, hi, rfl, rfl, hO, hB⟩ := hrel
    have HO : Hid (wr.ownsRow w.heap.size 3 1 u3 (opn (fs.take i)).length (rowI (opn (fs.take i))) ∧ Below w.heap.size w wr) := ⟨hO, hB⟩
    clear hO hB
    by_cases h1 : i < fs.length
    · have i1 : (i : Int) < (fs.length : Int) := by omega
      have i0 : (0 : Int) ≤ (i : Int) := by omega
      obtain ⟨g, off, rfl, c0⟩ := HR.out i h1
      replace c0 := cl_kept HO.out.2 c0
      have zg : g < wr.heap.size := World.block_lt_of_cell? _ _ c0
      obtain ⟨vi, hvi⟩ : ∃ v, v = gt fs i := ⟨_, rfl⟩
      rw [← hvi] at c0
      have HKK : Hid (vi = 1 ∨ vi = 2) := by
        have := allK_at HK.out h1
        rw [← hvi] at this
        exact this
      have HT : Hid (opn (fs.take (i + 1)) = crd (opn (fs.take i)) vi) := by
        have := opn_take h1
        rw [← hvi] at this
        exact this
      have CH : Hid (Calls Try.prog 27 #[u3, .int .i64 vi] wr fun e w' => ∃ u, e = .returned u ∧ w'.ownsRow wr.heap.size 3 1 u (crd (opn (fs.take i)) vi).length (rowI (crd (opn (fs.take i)) vi)) ∧ Below wr.heap.size wr w') :=
        C27.out u3 (opn (fs.take i)) vi wr (own_sl (n := (opn (fs.take i)).length) (base := w.heap.size) (e := 3) HO.out.1 rfl).sg (by have := opn_small hl i; omega) HKK.out
      clear hvi
      go_wp2_with (go_at_call 27; refine CH.out.mono ?_; rintro e w1 ⟨u, rfl, hown, hb⟩; have H1 : Hid (w1.ownsRow wr.heap.size 3 1 u (crd (opn (fs.take i)) vi).length (rowI (crd (opn (fs.take i)) vi)) ∧ Below wr.heap.size wr w1) := ⟨hown, hb⟩; clear hown hb)
      go_roundg (fs.length - (i + 1))
      case measure => omega
      case rel => exact ⟨i + 1, by omega, rfl, by go_num, by rw [HT.out]; exact own_weak H1.out.1 HO.out.2.size, bl_via HO.out.2 H1.out.2⟩
    · have i1 : ¬ (i : Int) < (fs.length : Int) := by omega
      obtain rfl : i = fs.length := by omega
      have HF : Hid (wr.ownsRow w.heap.size 3 1 u3 (opn fs).length (rowI (opn fs)) ∧ Below w.heap.size w wr) := by
        have h := HO.out
        rw [List.take_length] at h
        exact h
      clear HO
      go_wp2
      go_ret
      exact ⟨_, rfl, HF.out.1, HF.out.2⟩
/-- What Word answers. -/
def wordR (fs : List Int) : List Int := if fmay fs = 0 then opn fs else []
theorem fmay_ok {fs : List Int} : fmay fs = 0 ↔ fs.length ≤ 10 ∧ allK fs = true := by
  unfold fmay
  by_cases h : 10 < fs.length
  · rw [if_pos h]
    simp
    omega
  · rw [if_neg h]
    by_cases k : allK fs = true
    · rw [if_pos k]
      simp [k]
      omega
    · rw [if_neg k]
      simp [k]
theorem wordR_small (fs : List Int) : (wordR fs).length ≤ 1023 := by
  unfold wordR
  split
  · rename_i h
    have := opn_small (fmay_ok.1 h).1 fs.length
    rwa [List.take_length] at this
  · simp
set_option maxRecDepth 100000 in
theorem word7 (v : Value) (fs : List Int) (w : World) (hv : Sg w v fs) (hl : fs.length ≤ 17592186044416) :
    Calls Try.prog 7 #[v] w fun e w' => ∃ u, e = .returned (.tuple #[u, .int .i64 (fmay fs)]) ∧ Sl w' u (wordR fs) ∧ Below w.heap.size w w' := by
  have CC : Hid (Calls Try.prog 18 #[v] w fun e w' => e = .returned (.bool (allK fs)) ∧ Below w.heap.size w w') := creases18 v fs w hv hl
  have CO : Hid (fs.length ≤ 10 → allK fs = true → ∀ W, Below w.heap.size w W → Calls Try.prog 19 #[v] W fun e w' => ∃ u, e = .returned u ∧ w'.ownsRow W.heap.size 3 1 u (opn fs).length (rowI (opn fs)) ∧ Below W.heap.size W w') := fun h1 h2 W hW => opened19 v fs W (hv.kept hW) h1 h2
  obtain ⟨a, c, rfl, hR⟩ := hv
  clear hR
  by_cases q : 10 < (fs.length : Int)
  · have hf : fmay fs = 2 := by rw [fmay, if_pos (by omega)]
    have hw : wordR fs = [] := by rw [wordR, hf]; rfl
    rw [hf, hw]
    go_enter Try.func7, Try.ntmps7
    go_wp2
    go_ret2
    exact ⟨_, rfl, Or.inl ⟨rfl, rfl⟩, bl_refl _⟩
  · obtain ⟨kb, hkb⟩ : ∃ b, b = allK fs := ⟨_, rfl⟩
    rw [← hkb] at CC CO
    have h10 : fs.length ≤ 10 := by omega
    cases kb
    · have hf : fmay fs = 4 := by rw [fmay, if_neg (by omega), ← hkb]; rfl
      have hw : wordR fs = [] := by rw [wordR, hf]; rfl
      rw [hf, hw]
      clear CO hkb hf hw
      go_enter Try.func7, Try.ntmps7
      go_wp2_with (go_at_call 18; refine CC.out.mono ?_; rintro e w1 ⟨rfl, hb⟩)
      go_ret2
      exact ⟨_, rfl, Or.inl ⟨rfl, rfl⟩, hb⟩
    · have hf : fmay fs = 0 := fmay_ok.2 ⟨h10, hkb.symm⟩
      have hw : wordR fs = opn fs := by rw [wordR, if_pos hf]
      rw [hf, hw]
      clear hkb hf hw
      have CO2 : Hid (∀ W, Below w.heap.size w W → Calls Try.prog 19 #[.slice a fs.length c] W fun e w' => ∃ u, e = .returned u ∧ w'.ownsRow W.heap.size 3 1 u (opn fs).length (rowI (opn fs)) ∧ Below W.heap.size W w') := CO.out h10 rfl
      clear CO
      go_enter Try.func7, Try.ntmps7
      go_wp2_with (first | (go_at_call 18; refine CC.out.mono ?_; rintro e w1 ⟨rfl, hb⟩; have H1 : Hid (Below w.heap.size w w1) := hb; clear hb) | (go_at_call 19; refine (CO2.out _ H1.out).mono ?_; rintro e w2 ⟨u, rfl, hown, hb⟩; have H2 : Hid (w2.ownsRow w1.heap.size 3 1 u (opn fs).length (rowI (opn fs)) ∧ Below w1.heap.size w1 w2) := ⟨hown, hb⟩; clear hown hb))
      go_ret2
      exact ⟨_, rfl, own_sl (n := (opn fs).length) (e := 3) H2.out.1 rfl, bl_via H1.out H2.out.2⟩
end Go.Proofs.Ytblagffijppgjaa
