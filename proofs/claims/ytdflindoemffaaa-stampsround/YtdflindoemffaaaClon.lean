/- The library's Index, Contains, Clone. -/
import Derived.Test.YtdflindoemffaaaOrds
namespace Go.Proofs.Ytdflindoemffaaa
open Go.RowKit

set_option maxRecDepth 100000 in
set_option maxHeartbeats 800000 in
theorem index_any (v : Value) (l : List Int) (s : Int) (w : World) (hv : Sg w v l) (hl : l.length ≤ 17592186044416) :
    Calls Try.prog 40 #[v, .int .i64 s] w fun e w' => ∃ r : Int, e = .returned (.int .i64 r) ∧ decide (0 ≤ r) = l.contains s ∧ Below w.heap.size w w' := by
  obtain ⟨a, c, rfl, hR⟩ := hv
  have HRD : Hid (∀ i, i < l.length → ∃ g off, a = some ⟨g, off, none⟩ ∧ w.cell? ⟨g, off + i, none⟩ = some (.int .i64 (gt l i))) := hR
  obtain ⟨cb, hcb⟩ : ∃ b, b = l.contains s := ⟨_, rfl⟩
  have HC : Hid (cb = l.contains s) := hcb
  rw [← hcb]
  clear hR hcb
  go_enter Try.func40, Try.ntmps40
  go_wp2
  go_loopg [8] l.length (fun gk s8 wx => ∃ i : Nat, i ≤ l.length ∧ gk = l.length - i ∧ s8 = .int .i64 (i : Int) ∧ Below w.heap.size w wx ∧ ∀ k, k < i → gt l k ≠ s)
  case atStart => exact ⟨0, by omega, rfl, rfl, bl_refl _, fun k hk => by omega⟩
  case round =>
    obtain ⟨i, hi, rfl, rfl, hB, hno⟩ := hrel
    have HB : Hid (Below w.heap.size w wr ∧ ∀ k, k < i → gt l k ≠ s) := ⟨hB, hno⟩
    clear hB hno
    by_cases h1 : i < l.length
    · have i1 : (i : Int) < (l.length : Int) := by omega
      have i0 : (0 : Int) ≤ (i : Int) := by omega
      obtain ⟨g, off, rfl, c0⟩ := HRD.out i h1
      replace c0 := cl_kept HB.out.1 c0
      have zg : g < wr.heap.size := World.block_lt_of_cell? _ _ c0
      obtain ⟨vi, hvi⟩ : ∃ v, v = gt l i := ⟨_, rfl⟩
      rw [← hvi] at c0
      have HVI : Hid (vi = gt l i) := hvi
      clear hvi
      cases q : (s == vi)
      · have HN : Hid (∀ k, k < i + 1 → gt l k ≠ s) := fun k hk => by
          by_cases hki : k < i
          · exact HB.out.2 k hki
          · have : k = i := by omega
            rw [this, ← HVI.out]
            exact fun e => by simp [e] at q
        go_wp2
        go_roundg (l.length - (i + 1))
        case measure => omega
        case rel => exact ⟨i + 1, by omega, rfl, by go_num, HB.out.1, HN.out⟩
      · have HE : Hid (cb = true) := by
          have : cb = true := by
            rw [HC.out, List.contains_iff_mem, (by simpa using q : s = vi), HVI.out]
            exact gt_mem h1
          exact this
        go_wp2
        go_ret
        refine ⟨(i : Int), rfl, ?_, HB.out.1⟩
        rw [HE.out]
        simp
    · have i1 : ¬ (i : Int) < (l.length : Int) := by omega
      obtain rfl : i = l.length := by omega
      have HE : Hid (cb = false) := by
        have : cb = false := by
          rw [HC.out, Bool.eq_false_iff]
          intro h
          rw [List.contains_iff_mem] at h
          obtain ⟨k, hk, e⟩ := mem_gt h
          exact HB.out.2 k hk e
        exact this
      go_wp2
      go_ret
      exact ⟨-1, rfl, by rw [HE.out]; rfl, HB.out.1⟩
set_option maxRecDepth 100000 in
theorem contains_any (v : Value) (l : List Int) (s : Int) (w : World) (hv : Sg w v l) (hl : l.length ≤ 17592186044416) :
    Calls Try.prog 39 #[v, .int .i64 s] w fun e w' => e = .returned (.bool (l.contains s)) ∧ Below w.heap.size w w' := by
  have C : Hid (Calls Try.prog 40 #[v, .int .i64 s] w fun e w' => ∃ r : Int, e = .returned (.int .i64 r) ∧ decide (0 ≤ r) = l.contains s ∧ Below w.heap.size w w') := index_any v l s w hv hl
  obtain ⟨a, c, rfl, _⟩ := hv
  obtain ⟨cb, hcb⟩ : ∃ b, b = l.contains s := ⟨_, rfl⟩
  rw [← hcb] at C ⊢
  clear hcb
  go_enter Try.func39, Try.ntmps39
  go_wp2_with (go_at_call 40; refine C.out.mono ?_; rintro e w1 ⟨r, rfl, hr, hb⟩; have HR9 : Hid (decide (0 ≤ r) = cb) := hr; clear hr)
  go_ret
  exact ⟨ret_bool HR9.out, hb⟩
theorem own_empty (w : World) : (w.alloc (.cells #[] 3)).ownsRow w.heap.size 3 1 (.slice (some ⟨w.heap.size, 0, none⟩) 0 0) 0 [] :=
  ⟨rfl, .inr ⟨w.heap.size, 0, #[], rfl, Nat.le_refl _, heap_alloc_new w _, Nat.le_refl _, by unfold maxLen; omega, by simp, by simp⟩⟩
theorem row_cells {w : World} {g : Nat} {l : List Int} (h : Rw w g l) : ∀ j u, (rowI l)[j]? = some u → w.cell? ((⟨g, 0, none⟩ : Addr).add j) = some u := fun j u hu => by
  have hj : j < l.length := by
    rcases Nat.lt_or_ge j l.length with h | h
    · exact h
    · rw [List.getElem?_eq_none (by simpa [rowI] using h)] at hu
      cases hu
  rw [add_at, h j hj, gt_lt hj]
  simp [rowI, hj] at hu
  rw [hu]
theorem rowI_one (l : List Int) : ∀ u ∈ rowI l, u.oneCell' = true := by
  intro u hu
  obtain ⟨z, _, rfl⟩ := List.mem_map.1 hu
  rfl
theorem own_rw {w : World} {base e g n cap : Nat} {l : List Int} (h : w.ownsRow base e 1 (.slice (some ⟨g, 0, none⟩) n cap) n (rowI l)) : Rw w g l := fun i hi => by
  have := h.cells (g := g) rfl i (.int .i64 l[i]) (by simp [rowI, hi])
  rw [add_at] at this
  rw [this, gt_lt hi]
theorem own_cap {w : World} {base e g n cap : Nat} {xs : List Value} (h : w.ownsRow base e 1 (.slice (some ⟨g, 0, none⟩) n cap) n xs) : n ≤ cap := by
  rcases h.2 with ⟨h1, _⟩ | ⟨g', cap', cur, h1, h2, h3, h4, _⟩
  · cases h1
  · cases h1
    exact h4
set_option maxRecDepth 100000 in
set_option maxHeartbeats 800000 in
theorem clone_any (g c : Nat) (l : List Int) (w : World) (hr : Rw w g l) (h1 : 1 ≤ l.length) (h8 : l.length ≤ 8) :
    Calls Try.prog 37 #[.slice (some ⟨g, 0, none⟩) l.length c] w fun e w' => ∃ g' c', e = .returned (.slice (some ⟨g', 0, none⟩) l.length c') ∧ Rw w' g' l ∧ Below w.heap.size w w' ∧ w.heap.size ≤ g' ∧ l.length ≤ c' := by
  obtain ⟨i3, hI⟩ := info_parts inf3
  have HI : Hid (Try.prog.info? 3 = some i3 ∧ i3.zero = some (.int .i64 0) ∧ i3.size = 1 ∧ i3.bytes = 8) := hI
  have HRD : Hid (Rw w g l) := hr
  have zg : g < w.heap.size := hr.lt (by omega)
  have hq : ∀ W : World, (binOp BinOp.eql 22 (.slice (some ⟨g, 0, none⟩) l.length c) (.slice none 0 0)).run Try.prog W = .ok (.bool false) W := fun _ => by kernel_rfl
  clear hI hr
  go_enter Try.func37, Try.ntmps37
  go_wp2_with (at_builtin; refine wpList_append_lies _ rfl (.tmp 5) (.tmp 6) 22 rfl w.heap.size 3 i3 (.int .i64 0) 1 8 Try.underlying22 HI.out.1 HI.out.2.1 HI.out.2.2.1 HI.out.2.2.2 rfl (by decide) (.slice (some ⟨w.heap.size, 0, none⟩) 0 0) 0 [] rfl (own_empty w) ⟨g, 0, none⟩ l.length c (rowI l) rfl (by simp [rowI]) (row_cells (HRD.out.kept (bl_alloc (bl_refl _)))) (rowI_one l) (by omega) (by unfold maxLen; omega) (by omega) (by simp) _ rfl ?grow)
  case grow =>
    intro g3 cap3 w3 hown hgr hat hlt
    have HX : Hid (Rw w3 g3 l ∧ Below w.heap.size w w3 ∧ w.heap.size ≤ g3 ∧ l.length ≤ cap3) := by
      refine ⟨own_rw (by simpa using hown), ?_, own_base hown g3 rfl, by have := own_cap hown; omega⟩
      exact (bl_alloc (bl_refl w)).grown hgr (by simp) (fun k hk => by simp [Value.ownBlock] at hk; omega)
    clear hown hgr hat hlt
    go_wp2
    go_ret
    exact ⟨g3, cap3, rfl, HX.out⟩
end Go.Proofs.Ytdflindoemffaaa
