/- pile, those. -/
import Derived.Test.YtdflindoemffaaaTell
namespace Go.Proofs.Ytdflindoemffaaa
open Go.RowKit

theorem St.push {w W w3 : World} {Bw Bf g n z : Nat} {wv : Value} {es : List (Nat × Nat × List Int)} {b : List Int} {x : Int} {o : Obj} (h : St w W Bw Bf g n z wv es b)
    (ho : w3.ownsRow w.heap.size 3 1 (.slice (some ⟨g, 0, none⟩) (b.length + 1) n) (b.length + 1) (rowI b ++ [.int .i64 x])) (hg : (W.alloc o).grownBy w3 (some g)) : St w w3 Bw Bf g n z wv es (b ++ [x]) := by
  obtain ⟨h1, h2, h3, h4, fv, h5, h6⟩ := h.kept (W' := W.alloc o) (bl_alloc (bl_refl W))
  have hgw : w.heap.size ≤ g := own_base h4 g rfl
  refine ⟨h1.grown hg h1.size (fun k hk => by cases hk; exact hgw), ⟨h2.1, h2.2.1, h2.2.2.1, h2.2.2.2.1, h2.2.2.2.2.1, h2.2.2.2.2.2.1, h2.2.2.2.2.2.2.1, h2.2.2.2.2.2.2.2.1, Nat.le_trans h2.2.2.2.2.2.2.2.2 hg.size⟩, hg.cell h3 (fun e => h2.2.2.2.2.2.1 (by simpa using e)), ?_, fv, fr_grown h5.1 h5.2 hg (fun e => h2.2.2.2.2.2.2.1 (by simpa using e)), h6.grown hg (fun j hj => by cases hj; exact h2.2.2.2.2.1)⟩
  rw [List.length_append, List.length_singleton, rowI_add]
  exact ho
set_option maxRecDepth 100000 in
set_option maxHeartbeats 1600000 in
theorem pile_any (w : World) (Bw Bf g n z : Nat) (h1 : 1 ≤ n) (h8 : n ≤ 8) : ∀ (f : Nat) (b : List Int) (es : List (Nat × Nat × List Int)) (W : World), b.length + f = n → Pp n b → St w W Bw Bf g n z (.func (.func 23) #[] #[]) es b → es.length + n ^ f ≤ 20000000 →
    Calls Try.prog 35 #[.slice (some ⟨g, 0, none⟩) b.length n, .int .i64 (n : Int), .func (.func 36) #[] #[.pointer (some ⟨Bw, 0, none⟩), .pointer (some ⟨Bf, 0, none⟩)]] W fun e w' => e = .returned (.tuple #[]) ∧ ∃ es', St w w' Bw Bf g n z (.func (.func 23) #[] #[]) es' b ∧ lsO es' = lsO es ++ ords gdB n f b
  | 0, b, es, W, hf, hp, hS, hes => by
    have hl : b.length = n := by omega
    have CT : Hid (Calls Try.prog 36 #[.slice (some ⟨g, 0, none⟩) n n, .pointer (some ⟨Bw, 0, none⟩), .pointer (some ⟨Bf, 0, none⟩)] W fun e w' => e = .returned (.tuple #[]) ∧ ∃ es', St w w' Bw Bf g n z (.func (.func 23) #[] #[]) es' b ∧ lsO es' = lsO es ++ (if gdB b = true then [b] else [])) := tell36 w W Bw Bf g n z es b hS hl (hp.prm hl) h1 h8 (by omega)
    rw [hl]
    have q : ((n : Int) == (n : Int)) = true := by simp
    clear hS hp hes hl hf
    go_enter Try.func35, Try.ntmps35
    go_wp2_with (go_at_call 36; refine CT.out.mono ?_; rintro e w1 ⟨rfl, es', hS', hls⟩; have HE : Hid (St w w1 Bw Bf g n z (.func (.func 23) #[] #[]) es' b ∧ lsO es' = lsO es ++ (if gdB b = true then [b] else [])) := ⟨hS', hls⟩; clear hS' hls)
    refine bodyPost_ret (v := .tuple #[]) (by simp [results, Try.results35]) rfl ⟨rfl, es', HE.out⟩
  | f + 1, b, es, W, hf, hp, hS, hes => by
    have HR : Hid (∀ (b' : List Int) (es' : List (Nat × Nat × List Int)) (W' : World), b'.length = b.length + 1 → Pp n b' → St w W' Bw Bf g n z (.func (.func 23) #[] #[]) es' b' → es'.length + n ^ f ≤ 20000000 → Calls Try.prog 35 #[.slice (some ⟨g, 0, none⟩) (b.length + 1) n, .int .i64 (n : Int), .func (.func 36) #[] #[.pointer (some ⟨Bw, 0, none⟩), .pointer (some ⟨Bf, 0, none⟩)]] W' fun e w' => e = .returned (.tuple #[]) ∧ ∃ es'', St w w' Bw Bf g n z (.func (.func 23) #[] #[]) es'' b' ∧ lsO es'' = lsO es' ++ ords gdB n f b') := fun b' es' W' hl hp' hS' hes' => by
      have := pile_any w Bw Bf g n z h1 h8 f b' es' W' (by omega) hp' hS' hes'
      rw [hl] at this
      exact this
    have CC : Hid (∀ (s : Int) (W' : World) (es' : List (Nat × Nat × List Int)), St w W' Bw Bf g n z (.func (.func 23) #[] #[]) es' b → Calls Try.prog 39 #[.slice (some ⟨g, 0, none⟩) b.length n, .int .i64 s] W' fun e w' => e = .returned (.bool (b.contains s)) ∧ Below W'.heap.size W' w') := fun s W' es' h => contains_any _ b s W' (rw_sg (own_rw h.2.2.2.1)) (by omega)
    have HS : Hid (St w W Bw Bf g n z (.func (.func 23) #[] #[]) es b) := hS
    have HP : Hid (Pp n b) := hp
    have HES : Hid (es.length + n ^ (f + 1) ≤ 20000000) := hes
    obtain ⟨i3, hI⟩ := info_parts inf3
    have HI : Hid (Try.prog.info? 3 = some i3 ∧ i3.zero = some (.int .i64 0) ∧ i3.size = 1 ∧ i3.bytes = 8) := hI
    have hlt : b.length < n := by omega
    have q : ((b.length : Int) == (n : Int)) = false := by rw [beq_eq_false_iff_ne]; omega
    rw [ords_succ]
    clear hS hp hes hf hI
    go_enter Try.func35, Try.ntmps35
    go_wp2
    go_loopg [15] n (fun gk s15 wx => ∃ (i : Nat) (es' : List (Nat × Nat × List Int)), i ≤ n ∧ gk = n - i ∧ s15 = .int .i64 (i : Int) ∧ St w wx Bw Bf g n z (.func (.func 23) #[] #[]) es' b ∧ lsO es' = lsO es ++ pre gdB n f b i)
    case atStart => exact ⟨0, es, by omega, rfl, rfl, HS.out, by simp [pre_zero]⟩
    case round =>
      clear HS
      obtain ⟨i, es', hi, rfl, rfl, hS, hls⟩ := hrel
      have HS : Hid (St w wr Bw Bf g n z (.func (.func 23) #[] #[]) es' b ∧ lsO es' = lsO es ++ pre gdB n f b i) := ⟨hS, hls⟩
      clear hS hls
      by_cases h2 : i < n
      · have i1 : (i : Int) < (n : Int) := by omega
        have C1 := CC.out ((i : Int) + 1) wr es' HS.out.1
        obtain ⟨cb, hcb⟩ : ∃ x, x = b.contains ((i : Int) + 1) := ⟨_, rfl⟩
        have HCB : Hid (b.contains ((i : Int) + 1) = cb) := hcb.symm
        rw [← hcb] at C1
        have CH : Hid (Calls Try.prog 39 #[.slice (some ⟨g, 0, none⟩) b.length n, .int .i64 ((i : Int) + 1)] wr fun e w' => e = .returned (.bool cb) ∧ Below wr.heap.size wr w') := C1
        clear C1 hcb
        cases cb
        · go_wp2_with (first | (go_at_call 39; refine CH.out.mono ?_; rintro e w1 ⟨rfl, hb⟩; have HS1 : Hid (St w w1 Bw Bf g n z (.func (.func 23) #[] #[]) es' b) := HS.out.1.kept hb; clear hb) | (at_builtin; refine wpList_append_fits _ rfl (.tmp 23) (.tmp 26) 22 rfl w.heap.size 3 i3 1 Try.underlying22 HI.out.1 HI.out.2.2.1 g b.length n (rowI b) rfl (own_below HS1.out.2.2.2.1 (bl_alloc (bl_refl _))) ⟨w1.heap.size, 0, none⟩ 1 1 [.int .i64 ((i : Int) + 1)] rfl rfl (cell_one _ (by simp [go_sem])) (one_cell _) (by omega) ?fit))
          case fit =>
            intro w3 hown hgr
            have HS3 : Hid (St w w3 Bw Bf g n z (.func (.func 23) #[] #[]) es' (b ++ [(i : Int) + 1])) := HS1.out.push hown hgr
            have hlen : es'.length + n ^ f ≤ 20000000 := by
              have a1 : es'.length = es.length + (pre gdB n f b i).length := by
                have := congrArg List.length HS.out.2
                simpa [lsO] using this
              have a2 := pre_len (b := b) (ords_len gdB n f) i
              have a3 : (i + 1) * n ^ f ≤ n * n ^ f := Nat.mul_le_mul_right _ (by omega)
              have a4 := HES.out
              rw [Nat.pow_succ, Nat.mul_comm] at a4
              rw [Nat.add_mul, Nat.one_mul] at a3
              omega
            have CP : Hid (Calls Try.prog 35 #[.slice (some ⟨g, 0, none⟩) (b.length + 1) n, .int .i64 (n : Int), .func (.func 36) #[] #[.pointer (some ⟨Bw, 0, none⟩), .pointer (some ⟨Bf, 0, none⟩)]] w3 fun e w' => e = .returned (.tuple #[]) ∧ ∃ es'', St w w' Bw Bf g n z (.func (.func 23) #[] #[]) es'' (b ++ [(i : Int) + 1]) ∧ lsO es'' = lsO es' ++ ords gdB n f (b ++ [(i : Int) + 1])) := HR.out _ es' w3 (by simp) (HP.out.more h2 HCB.out) HS3.out hlen
            clear hown hgr hlen
            go_wp2_with (go_at_call 35; refine CP.out.mono ?_; rintro e w4 ⟨rfl, es4, hS4, hl4⟩; have H4 : Hid (St w w4 Bw Bf g n z (.func (.func 23) #[] #[]) es4 (b ++ [(i : Int) + 1]) ∧ lsO es4 = lsO es' ++ ords gdB n f (b ++ [(i : Int) + 1])) := ⟨hS4, hl4⟩; clear hS4 hl4)
            go_roundg (n - (i + 1))
            case measure => omega
            case rel => exact ⟨i + 1, es4, by omega, rfl, by go_num, H4.out.1.back, by rw [H4.out.2, HS.out.2, pre_new HCB.out, List.append_assoc]⟩
        · go_wp2_with (go_at_call 39; refine CH.out.mono ?_; rintro e w1 ⟨rfl, hb⟩)
          go_roundg (n - (i + 1))
          case measure => omega
          case rel => exact ⟨i + 1, es', by omega, rfl, by go_num, HS.out.1.kept hb, by rw [HS.out.2, pre_has HCB.out]⟩
      · have i1 : ¬ (i : Int) < (n : Int) := by omega
        obtain rfl : i = n := by omega
        go_wp2
        go_end0
        exact ⟨rfl, es', HS.out⟩
end Go.Proofs.Ytdflindoemffaaa
