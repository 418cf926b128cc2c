/- Those orders that have these kinds. -/
import Derived.Test.YtdflindoemffaaaEqul
namespace Go.Proofs.Ytdflindoemffaaa
open Go.RowKit

set_option maxRecDepth 100000 in
set_option maxHeartbeats 1600000 in
theorem tell36B (w W : World) (Bk : Nat) (ks : List Int) (hK : KF w Bk ks) (hkl : ks.length ≤ 8) (Bw Bf g n z : Nat) (es : List (Nat × Nat × List Int)) (b : List Int) (hS : St w W Bw Bf g n z (.func (.func 30) #[] #[.pointer (some ⟨Bk, 0, none⟩)]) es b) (hl : b.length = n) (hp : Prm b) (h1 : 1 ≤ n) (h8 : n ≤ 8) (hes : es.length ≤ 20000000) :
    Calls Try.prog 36 #[.slice (some ⟨g, 0, none⟩) n n, .pointer (some ⟨Bw, 0, none⟩), .pointer (some ⟨Bf, 0, none⟩)] W fun e w' => e = .returned (.tuple #[]) ∧ ∃ es', St w w' Bw Bf g n z (.func (.func 30) #[] #[.pointer (some ⟨Bk, 0, none⟩)]) es' b ∧ lsO es' = lsO es ++ (if byP ks b = true then [b] else []) := by
  subst hl
  have hrw : Rw W g b := own_rw hS.2.2.2.1
  have CG : Hid (∀ W' : World, Below W.heap.size W W' → Calls Try.prog 30 #[.slice (some ⟨g, 0, none⟩) b.length b.length, .pointer (some ⟨Bk, 0, none⟩)] W' fun e w' => e = .returned (.bool (byP ks b)) ∧ Below W'.heap.size W' w') := fun W' hb => by1_any g _ Bk b ks W' (hrw.kept hb) hp h1 h8 ((hK.kept hS.1).kept hb) hkl
  have CC : Hid (∀ W' : World, Below W.heap.size W W' → Calls Try.prog 37 #[.slice (some ⟨g, 0, none⟩) b.length b.length] W' fun e w' => ∃ g' c', e = .returned (.slice (some ⟨g', 0, none⟩) b.length c') ∧ Rw w' g' b ∧ Below W'.heap.size W' w' ∧ W'.heap.size ≤ g' ∧ b.length ≤ c') := fun W' hb => clone_any g b.length b W' (hrw.kept hb) h1 h8
  have HS : Hid (St w W Bw Bf g b.length z (.func (.func 30) #[] #[.pointer (some ⟨Bk, 0, none⟩)]) es b) := hS
  obtain ⟨iv, hI⟩ := info_parts infV
  have HI : Hid (Try.prog.info? 22 = some iv ∧ iv.zero = some (.slice none 0 0) ∧ iv.size = 1 ∧ iv.bytes = 24) := hI
  have c0 := hS.2.2.1
  have z0 : Bw < W.heap.size := World.block_lt_of_cell? _ _ c0
  obtain ⟨gb, hgb⟩ : ∃ x, x = byP ks b := ⟨_, rfl⟩
  rw [← hgb] at CG ⊢
  clear hp hrw hI hS hgb hK
  go_enter Try.func36, Try.ntmps36
  cases gb
  · go_wp2_with (go_at_call 30; refine (CG.out _ (by first | exact bl_refl _ | exact bl_drew (bl_refl _))).mono ?_; rintro e w1 ⟨rfl, hb⟩)
    go_end0
    exact ⟨rfl, es, HS.out.kept hb, by simp⟩
  · go_wp2_with (go_at_call 30; refine (CG.out _ (by first | exact bl_refl _ | exact bl_drew (bl_refl _))).mono ?_; rintro e w1 ⟨rfl, hb⟩)
    obtain ⟨fv, hfv, hO⟩ := (HS.out.kept hb).2.2.2.2
    have HS1 : Hid (St w w1 Bw Bf g b.length z (.func (.func 30) #[] #[.pointer (some ⟨Bk, 0, none⟩)]) es b ∧ w1.ownsRow z 22 1 fv es.length (es.map sv) ∧ z ≤ w1.heap.size) := ⟨HS.out.kept hb, hO.1, (HS.out.kept hb).2.1.2.2.2.2.2.2.2.2⟩
    have p0 := hfv.1
    have pf := hfv.2
    have HB1 : Hid (Below W.heap.size W w1) := hb
    have zf : Bf < w1.heap.size := World.block_lt_of_cell? _ _ p0
    have HNV : Hid (some Bf ≠ fv.ownBlock) := fun e => by
      have h2 := (hO.1.lt Bf e.symm).1
      have h3 := (HS.out.kept hb).2.1.2.2.2.1
      omega
    clear hfv hO hb HS c0 z0 CG
    go_region_law (first
        | (refine step_callTo (by rfl) 37 #[.slice (some ⟨g, 0, none⟩) b.length b.length] (by kernel_rfl) (CC.out _ (bl_via HB1.out (by with_reducible repeat (first | exact bl_refl _ | refine bl_drew ?_)))) ?_; rintro e w8 ⟨gc, cc, rfl, hr8, hb8, hge8, hcc8⟩; refine ⟨_, rfl, ?_⟩; have hq8 : Below w1.heap.size w1 w8 := bl_via (by with_reducible repeat (first | exact bl_refl _ | refine bl_drew ?_)) hb8; have HQ : Hid (Rw w8 gc b ∧ Below w1.heap.size w1 w8 ∧ w1.heap.size ≤ gc ∧ b.length ≤ cc) := ⟨hr8, hq8, hge8, hcc8⟩; have p0_8 := cl_kept hq8 p0; have zf8 : Bf < w8.heap.size := World.block_lt_of_cell? _ _ p0_8; clear hr8 hb8 hge8 hq8 hcc8)
        | (refine step_append_lies _ (by rfl) (.tmp 7) (.tmp 10) 32 (by rfl) z 22 iv (.slice none 0 0) 1 24 Try.underlying32 HI.out.1 HI.out.2.1 HI.out.2.2.1 HI.out.2.2.2 rfl (by decide) fv es.length (es.map sv) (by rfl) (own_below HS1.out.2.1 (bl_alloc HQ.out.2.1)) ⟨w8.heap.size, 0, none⟩ 1 1 [.slice (some ⟨gc, 0, none⟩) b.length cc] (by rfl) rfl (sv_cell _ _ _) (by intro u hu; simp at hu; subst hu; rfl) (by decide) (by unfold maxLen; omega) (by omega) (by have := HQ.out.2.1.size; have := HS1.out.2.2; simp; omega) (w8.heap.size + 1) (by simp) ?_; intro gq cap W3 hown3 hgrow hat hlt; have s0 := hgrow.cell (al_old p0_8) HNV.out; have sf := (fr_grown (fr_grown p0 pf (bl_grown (bl_alloc HQ.out.2.1)) (by simp)).1 (fr_grown p0 pf (bl_grown (bl_alloc HQ.out.2.1)) (by simp)).2 hgrow HNV.out).2; have HW3 : Hid (St w (W3.setCell ⟨Bf, 0, none⟩ (.slice (some ⟨gq, 0, none⟩) (es.length + 1) cap)) Bw Bf g b.length z (.func (.func 30) #[] #[.pointer (some ⟨Bk, 0, none⟩)]) (es ++ [(gc, cc, b)]) b) := (HS1.out.1.found p0 h1 HQ.out.2.1 HQ.out.1 HQ.out.2.2.1 HQ.out.2.2.2 hown3 hgrow hat); have z3 : Bf < W3.heap.size := World.block_lt_of_cell? _ _ s0; clear hown3 hgrow hat hlt))
    all_goals
      go_wp2
      go_end0
      exact ⟨rfl, _, HW3.out, by rw [lsO_app]; rfl⟩
set_option maxRecDepth 100000 in
set_option maxHeartbeats 1600000 in
theorem pile_anyB (w : World) (Bk : Nat) (ks : List Int) (hK : KF w Bk ks) (hkl : ks.length ≤ 8) (Bw Bf g n z : Nat) (h1 : 1 ≤ n) (h8 : n ≤ 8) : ∀ (f : Nat) (b : List Int) (es : List (Nat × Nat × List Int)) (W : World), b.length + f = n → Pp n b → St w W Bw Bf g n z (.func (.func 30) #[] #[.pointer (some ⟨Bk, 0, none⟩)]) es b → es.length + n ^ f ≤ 20000000 →
    Calls Try.prog 35 #[.slice (some ⟨g, 0, none⟩) b.length n, .int .i64 (n : Int), .func (.func 36) #[] #[.pointer (some ⟨Bw, 0, none⟩), .pointer (some ⟨Bf, 0, none⟩)]] W fun e w' => e = .returned (.tuple #[]) ∧ ∃ es', St w w' Bw Bf g n z (.func (.func 30) #[] #[.pointer (some ⟨Bk, 0, none⟩)]) es' b ∧ lsO es' = lsO es ++ ords (byP ks) n f b
  | 0, b, es, W, hf, hp, hS, hes => by
    have hl : b.length = n := by omega
    have CT : Hid (Calls Try.prog 36 #[.slice (some ⟨g, 0, none⟩) n n, .pointer (some ⟨Bw, 0, none⟩), .pointer (some ⟨Bf, 0, none⟩)] W fun e w' => e = .returned (.tuple #[]) ∧ ∃ es', St w w' Bw Bf g n z (.func (.func 30) #[] #[.pointer (some ⟨Bk, 0, none⟩)]) es' b ∧ lsO es' = lsO es ++ (if byP ks b = true then [b] else [])) := tell36B w W Bk ks hK hkl Bw Bf g n z es b hS hl (hp.prm hl) h1 h8 (by omega)
    rw [hl]
    have q : ((n : Int) == (n : Int)) = true := by simp
    clear hS hp hes hl hf hK hkl
    go_enter Try.func35, Try.ntmps35
    go_wp2_with (go_at_call 36; refine CT.out.mono ?_; rintro e w1 ⟨rfl, es', hS', hls⟩; have HE : Hid (St w w1 Bw Bf g n z (.func (.func 30) #[] #[.pointer (some ⟨Bk, 0, none⟩)]) es' b ∧ lsO es' = lsO es ++ (if byP ks b = true then [b] else [])) := ⟨hS', hls⟩; clear hS' hls)
    refine bodyPost_ret (v := .tuple #[]) (by simp [results, Try.results35]) rfl ⟨rfl, es', HE.out⟩
  | f + 1, b, es, W, hf, hp, hS, hes => by
    have HR : Hid (∀ (b' : List Int) (es' : List (Nat × Nat × List Int)) (W' : World), b'.length = b.length + 1 → Pp n b' → St w W' Bw Bf g n z (.func (.func 30) #[] #[.pointer (some ⟨Bk, 0, none⟩)]) es' b' → es'.length + n ^ f ≤ 20000000 → Calls Try.prog 35 #[.slice (some ⟨g, 0, none⟩) (b.length + 1) n, .int .i64 (n : Int), .func (.func 36) #[] #[.pointer (some ⟨Bw, 0, none⟩), .pointer (some ⟨Bf, 0, none⟩)]] W' fun e w' => e = .returned (.tuple #[]) ∧ ∃ es'', St w w' Bw Bf g n z (.func (.func 30) #[] #[.pointer (some ⟨Bk, 0, none⟩)]) es'' b' ∧ lsO es'' = lsO es' ++ ords (byP ks) n f b') := fun b' es' W' hl hp' hS' hes' => by
      have := pile_anyB w Bk ks hK hkl Bw Bf g n z h1 h8 f b' es' W' (by omega) hp' hS' hes'
      rw [hl] at this
      exact this
    have CC : Hid (∀ (s : Int) (W' : World) (es' : List (Nat × Nat × List Int)), St w W' Bw Bf g n z (.func (.func 30) #[] #[.pointer (some ⟨Bk, 0, none⟩)]) es' b → Calls Try.prog 39 #[.slice (some ⟨g, 0, none⟩) b.length n, .int .i64 s] W' fun e w' => e = .returned (.bool (b.contains s)) ∧ Below W'.heap.size W' w') := fun s W' es' h => contains_any _ b s W' (rw_sg (own_rw h.2.2.2.1)) (by omega)
    have HS : Hid (St w W Bw Bf g n z (.func (.func 30) #[] #[.pointer (some ⟨Bk, 0, none⟩)]) es b) := hS
    have HP : Hid (Pp n b) := hp
    have HES : Hid (es.length + n ^ (f + 1) ≤ 20000000) := hes
    obtain ⟨i3, hI⟩ := info_parts inf3
    have HI : Hid (Try.prog.info? 3 = some i3 ∧ i3.zero = some (.int .i64 0) ∧ i3.size = 1 ∧ i3.bytes = 8) := hI
    have hlt : b.length < n := by omega
    have q : ((b.length : Int) == (n : Int)) = false := by rw [beq_eq_false_iff_ne]; omega
    rw [ords_succ]
    clear hS hp hes hf hI hK hkl
    go_enter Try.func35, Try.ntmps35
    go_wp2
    go_loopg [15] n (fun gk s15 wx => ∃ (i : Nat) (es' : List (Nat × Nat × List Int)), i ≤ n ∧ gk = n - i ∧ s15 = .int .i64 (i : Int) ∧ St w wx Bw Bf g n z (.func (.func 30) #[] #[.pointer (some ⟨Bk, 0, none⟩)]) es' b ∧ lsO es' = lsO es ++ pre (byP ks) n f b i)
    case atStart => exact ⟨0, es, by omega, rfl, rfl, HS.out, by simp [pre_zero]⟩
    case round =>
      clear HS
      obtain ⟨i, es', hi, rfl, rfl, hS, hls⟩ := hrel
      have HS : Hid (St w wr Bw Bf g n z (.func (.func 30) #[] #[.pointer (some ⟨Bk, 0, none⟩)]) es' b ∧ lsO es' = lsO es ++ pre (byP ks) n f b i) := ⟨hS, hls⟩
      clear hS hls
      by_cases h2 : i < n
      · have i1 : (i : Int) < (n : Int) := by omega
        have C1 := CC.out ((i : Int) + 1) wr es' HS.out.1
        obtain ⟨cb, hcb⟩ : ∃ x, x = b.contains ((i : Int) + 1) := ⟨_, rfl⟩
        have HCB : Hid (b.contains ((i : Int) + 1) = cb) := hcb.symm
        rw [← hcb] at C1
        have CH : Hid (Calls Try.prog 39 #[.slice (some ⟨g, 0, none⟩) b.length n, .int .i64 ((i : Int) + 1)] wr fun e w' => e = .returned (.bool cb) ∧ Below wr.heap.size wr w') := C1
        clear C1 hcb
        cases cb
        · go_wp2_with (first | (go_at_call 39; refine CH.out.mono ?_; rintro e w1 ⟨rfl, hb⟩; have HS1 : Hid (St w w1 Bw Bf g n z (.func (.func 30) #[] #[.pointer (some ⟨Bk, 0, none⟩)]) es' b) := HS.out.1.kept hb; clear hb) | (at_builtin; refine wpList_append_fits _ rfl (.tmp 23) (.tmp 26) 22 rfl w.heap.size 3 i3 1 Try.underlying22 HI.out.1 HI.out.2.2.1 g b.length n (rowI b) rfl (own_below HS1.out.2.2.2.1 (bl_alloc (bl_refl _))) ⟨w1.heap.size, 0, none⟩ 1 1 [.int .i64 ((i : Int) + 1)] rfl rfl (cell_one _ (by simp [go_sem])) (one_cell _) (by omega) ?fit))
          case fit =>
            intro w3 hown hgr
            have HS3 : Hid (St w w3 Bw Bf g n z (.func (.func 30) #[] #[.pointer (some ⟨Bk, 0, none⟩)]) es' (b ++ [(i : Int) + 1])) := HS1.out.push hown hgr
            have hlen : es'.length + n ^ f ≤ 20000000 := by
              have a1 : es'.length = es.length + (pre (byP ks) n f b i).length := by
                have := congrArg List.length HS.out.2
                simpa [lsO] using this
              have a2 := pre_len (b := b) (ords_len (byP ks) n f) i
              have a3 : (i + 1) * n ^ f ≤ n * n ^ f := Nat.mul_le_mul_right _ (by omega)
              have a4 := HES.out
              rw [Nat.pow_succ, Nat.mul_comm] at a4
              rw [Nat.add_mul, Nat.one_mul] at a3
              omega
            have CP : Hid (Calls Try.prog 35 #[.slice (some ⟨g, 0, none⟩) (b.length + 1) n, .int .i64 (n : Int), .func (.func 36) #[] #[.pointer (some ⟨Bw, 0, none⟩), .pointer (some ⟨Bf, 0, none⟩)]] w3 fun e w' => e = .returned (.tuple #[]) ∧ ∃ es'', St w w' Bw Bf g n z (.func (.func 30) #[] #[.pointer (some ⟨Bk, 0, none⟩)]) es'' (b ++ [(i : Int) + 1]) ∧ lsO es'' = lsO es' ++ ords (byP ks) n f (b ++ [(i : Int) + 1])) := HR.out _ es' w3 (by simp) (HP.out.more h2 HCB.out) HS3.out hlen
            clear hown hgr hlen
            go_wp2_with (go_at_call 35; refine CP.out.mono ?_; rintro e w4 ⟨rfl, es4, hS4, hl4⟩; have H4 : Hid (St w w4 Bw Bf g n z (.func (.func 30) #[] #[.pointer (some ⟨Bk, 0, none⟩)]) es4 (b ++ [(i : Int) + 1]) ∧ lsO es4 = lsO es' ++ ords (byP ks) n f (b ++ [(i : Int) + 1])) := ⟨hS4, hl4⟩; clear hS4 hl4)
            go_roundg (n - (i + 1))
            case measure => omega
            case rel => exact ⟨i + 1, es4, by omega, rfl, by go_num, H4.out.1.back, by rw [H4.out.2, HS.out.2, pre_new HCB.out, List.append_assoc]⟩
        · go_wp2_with (go_at_call 39; refine CH.out.mono ?_; rintro e w1 ⟨rfl, hb⟩)
          go_roundg (n - (i + 1))
          case measure => omega
          case rel => exact ⟨i + 1, es', by omega, rfl, by go_num, HS.out.1.kept hb, by rw [HS.out.2, pre_has HCB.out]⟩
      · have i1 : ¬ (i : Int) < (n : Int) := by omega
        obtain rfl : i = n := by omega
        go_wp2
        go_end0
        exact ⟨rfl, es', HS.out⟩
set_option maxRecDepth 100000 in
set_option maxHeartbeats 1600000 in
theorem those_anyB (n : Nat) (w : World) (Bk : Nat) (ks : List Int) (hK : KF w Bk ks) (hkl : ks.length ≤ 8) (h1 : 1 ≤ n) (h8 : n ≤ 8) :
    Calls Try.prog 29 #[.int .i64 (n : Int), .func (.func 30) #[] #[.pointer (some ⟨Bk, 0, none⟩)]] w fun e w' => ∃ z v es, e = .returned v ∧ OutS w' z v es ∧ lsO es = ords (byP ks) n n [] ∧ Below w.heap.size w w' := by
  have CP : Hid (∀ W : World, St w W w.heap.size (w.heap.size + 1) (w.heap.size + 2) n (w.heap.size + 3) (.func (.func 30) #[] #[.pointer (some ⟨Bk, 0, none⟩)]) [] [] → Calls Try.prog 35 #[.slice (some ⟨w.heap.size + 2, 0, none⟩) 0 n, .int .i64 (n : Int), .func (.func 36) #[] #[.pointer (some ⟨w.heap.size, 0, none⟩), .pointer (some ⟨w.heap.size + 1, 0, none⟩)]] W fun e w' => e = .returned (.tuple #[]) ∧ ∃ es', St w w' w.heap.size (w.heap.size + 1) (w.heap.size + 2) n (w.heap.size + 3) (.func (.func 30) #[] #[.pointer (some ⟨Bk, 0, none⟩)]) es' [] ∧ lsO es' = ords (byP ks) n n []) := fun W hS => by
    have := pile_anyB w Bk ks hK hkl w.heap.size (w.heap.size + 1) (w.heap.size + 2) n (w.heap.size + 3) h1 h8 n [] [] W (by simp) (pp_nil n) hS (by rw [List.length_nil, Nat.zero_add]; exact pow_bd h8 h8)
    simpa [lsO] using this
  obtain ⟨i3, hI⟩ := info_parts inf3
  have HI : Hid (Try.prog.info? 3 = some i3 ∧ i3.zero = some (.int .i64 0) ∧ i3.size = 1 ∧ i3.bytes = 8) := hI
  clear hI hK hkl
  go_enter Try.func29, Try.ntmps29
  go_wp2_with (at_make; refine wpList_make_own _ rfl _ _ 22 rfl w.heap.size 3 i3 (.int .i64 0) 1 Try.underlying22 HI.out.1 HI.out.2.1 HI.out.2.2.1 _ _ _ n rfl rfl rfl (by rw [HI.out.2.2.2]; omega) (by unfold maxLen; omega) (by simp; omega) ?mk)
  case mk =>
    intro w1 hown hg1
    have HS : Hid (St w w1 w.heap.size (w.heap.size + 1) (w.heap.size + 2) n (w.heap.size + 3) (.func (.func 30) #[] #[.pointer (some ⟨Bk, 0, none⟩)]) [] []) := by
      have hb := bl_grown_none hg1
      have hlt := (hown.lt _ rfl).2
      simp at hlt
      refine ⟨bl_via (bl_alloc (bl_alloc (bl_refl w))) hb, ⟨by omega, by omega, by omega, by omega, by omega, by omega, by omega, by omega, by omega⟩, cl_kept hb (by simp [go_sem]), ?_, _, fr_grown (v := .slice none 0 0) (by simp [go_sem]) ?_ hg1 (by simp), OutS.nil _ _⟩
      · simpa [rowI] using hown
      · have := frozen_new (w.alloc (.cells #[.func (.func 30) #[] #[.pointer (some ⟨Bk, 0, none⟩)]] 30)) #[.slice none 0 0] 32 0
        rw [show (w.alloc (.cells #[.func (.func 30) #[] #[.pointer (some ⟨Bk, 0, none⟩)]] 30)).heap.size = w.heap.size + 1 by simp] at this
        exact this
    clear hown hg1
    go_wp2_with (go_at_call 35; refine (CP.out _ HS.out).mono ?_; rintro e w2 ⟨rfl, es', hS', hls⟩; have HE : Hid (St w w2 w.heap.size (w.heap.size + 1) (w.heap.size + 2) n (w.heap.size + 3) (.func (.func 30) #[] #[.pointer (some ⟨Bk, 0, none⟩)]) es' [] ∧ lsO es' = ords (byP ks) n n []) := ⟨hS', hls⟩; obtain ⟨fv, hfv, hO⟩ := hS'.2.2.2.2; have p0 := hfv.1; have HO : Hid (OutS w2 (w.heap.size + 3) fv es') := hO; have zf : w.heap.size + 1 < w2.heap.size := World.block_lt_of_cell? _ _ p0; clear hS' hls hfv hO)
    go_ret
    exact ⟨_, fv, es', rfl, HO.out, HE.out.2, HE.out.1.1⟩
end Go.Proofs.Ytdflindoemffaaa
