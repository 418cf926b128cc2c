/- The points of triangles in order, each once: the reference's way. -/
import Derived.Test.YtoedcefbmbfnhabDoorRptm
import Derived.Test.YtoedcefbmbfnhabDoorPkab
namespace Go.Proofs.YtoedcefbmbfnhabDoor
open Go.RowKit

theorem infP : (Tryd.prog.info? 43).map (fun i => (i.zero, i.size, i.bytes)) = some (some (.agg #[.int .i64 0, .int .i64 0]), 2, 16) := by kernel_rfl
theorem lessPoint_kin (a b c d : Int) (w : World) : Calls Tryd.prog 57 #[.agg #[.int .i64 a, .int .i64 b], .agg #[.int .i64 c, .int .i64 d]] w fun r w' => r = .returned (.bool (lessB a b c d)) ∧ Below w.heap.size w w' := by
  refine (lessPoint_any a b c d w).mono ?_
  rintro e w' ⟨rfl, o1, o2, rfl⟩
  exact ⟨rfl, bl_alloc (bl_alloc (bl_refl _))⟩
theorem cell_two_pt (w : World) (T : TypeId) (a b : Int) : ∀ j u, ([Value.int .i64 a, .int .i64 b])[j]? = some u → (w.alloc (.cells #[.int .i64 a, .int .i64 b] T)).cell? ((⟨w.heap.size, 0, none⟩ : Addr).add j) = some u := by
  intro j u hu
  match j, hu with
  | 0, hu => simp at hu; subst hu; simp [go_sem, Addr.add]
  | 1, hu => simp at hu; subst hu; simp [go_sem, Addr.add]
/-- What is kept in memory. -/
def RP (w1 wx : World) (v : Value) (pts : List (Int × Int)) : Prop := wx.ownsRow w1.heap.size 43 2 v pts.length (flatP pts) ∧ Below w1.heap.size w1 wx
theorem RP.kept {w1 wx w' : World} {v : Value} {pts : List (Int × Int)} (h : RP w1 wx v pts) (hb : Below wx.heap.size wx w') : RP w1 w' v pts := ⟨own_below h.1 hb, bl_via h.2 hb⟩

set_option maxRecDepth 100000 in
set_option maxHeartbeats 12800000 in
theorem refPoints_any (W H b off cap : Nat) (zs : List Int) (c : Value) (w : World) (hr : Row w (some ⟨b, off, none⟩) zs) (hW : 1 ≤ W ∧ W ≤ 8) (hH : 1 ≤ H ∧ H ≤ 8) (hl : zs.length = W * H) (hm : maskB zs = true) :
    Calls Tryd.prog 32 #[.agg #[.int .i64 (W : Int), .int .i64 (H : Int), .slice (some ⟨b, off, none⟩) zs.length cap, c]] w fun e w' => ∃ v pts, e = .returned v ∧ w'.ownsRow w.heap.size 43 2 v pts.length (flatP pts) ∧ SPt pts ((ty zs W H).flatMap cnr) ∧ pts.length ≤ 3 * (ty zs W H).length ∧ Below w.heap.size w w' := by
  have C29 : Hid (∀ W' : World, Below w.heap.size w W' → Calls Tryd.prog 29 #[.agg #[.int .i64 (W : Int), .int .i64 (H : Int), .slice (some ⟨b, off, none⟩) zs.length cap, c]] W' fun e w' => ∃ v, e = .returned v ∧ w'.ownsRow (W'.heap.size + 1) 79 3 v (ty zs W H).length (flatV (ty zs W H)) ∧ Below W'.heap.size W' w') := fun W' hW' => trisOf_any W H b off cap zs c W' (hr.kept hW') hW hH hl hm
  have HBD : Hid (∀ t ∈ ty zs W H, (0 ≤ t.1 ∧ t.1 ≤ 8) ∧ (0 ≤ t.2.1 ∧ t.2.1 ≤ 8) ∧ (0 ≤ t.2.2 ∧ t.2.2 ≤ 3)) := ty_bd hW.2 hH.2
  have hlen : (ty zs W H).length ≤ 256 := by have := ty_len zs W H hW.2; omega
  obtain ⟨i2, hi2, hz20, hz21, hz22⟩ := info_parts infP
  have HI : Hid (Tryd.prog.info? 43 = some i2 ∧ i2.zero = some (.agg #[.int .i64 0, .int .i64 0]) ∧ i2.size = 2 ∧ i2.bytes = 16) := ⟨hi2, hz20, hz21, hz22⟩
  obtain ⟨L, hL⟩ : ∃ L, L = ty zs W H := ⟨_, rfl⟩
  rw [← hL] at C29 HBD hlen ⊢
  clear hr hW hH hl hm hL hi2 hz20 hz21 hz22
  have he := eql25
  go_enter Tryd.func32, Tryd.ntmps32
  go_wp2_with (go_at_call 29; refine (C29.out _ (by with_reducible exact bl_alloc (bl_refl _))).mono ?_; rintro e w1 ⟨v, rfl, ho, hb⟩; obtain ⟨a, ca, rfl, hT⟩ := own_tris ho; have HW : Hid (TRow w1 a L ∧ Below w.heap.size w w1) := ⟨hT, bl_via (bl_alloc (bl_refl _)) hb⟩; clear hT ho hb)
  go_loopg [4, 5] L.length (fun gk s4 s5 wx => ∃ (i : Nat) (pts : List (Int × Int)), i ≤ L.length ∧ gk = L.length - i ∧ s5 = .int .i64 (i : Int) ∧ SPt pts ((L.take i).flatMap cnr) ∧ pts.length ≤ 3 * i ∧ RP w1 wx s4 pts)
  case atStart => exact ⟨0, [], by omega, rfl, rfl, ⟨by simp, by simp⟩, by simp, by simpa [flatP] using World.ownsRow_nil _ _ _ _, bl_refl _⟩
  case round =>
    obtain ⟨i, pts, hi, rfl, rfl, hS, hpl, hR⟩ := hrel
    obtain ⟨vA, hvA⟩ : ∃ u, u = u4 := ⟨_, rfl⟩
    subst hvA
    have HS : Hid (SPt pts ((L.take i).flatMap cnr) ∧ pts.length ≤ 3 * i ∧ RP w1 wr vA pts) := ⟨hS, hpl, hR⟩
    clear hS hpl hR
    by_cases h1 : i < L.length
    · have i1 : (i : Int) < (L.length : Int) := by omega
      have i0 : (0 : Int) ≤ (i : Int) := by omega
      obtain ⟨ga, rfl, t0, t1, t2⟩ := (HW.out.1.kept HS.out.2.2.2) i h1
      obtain ⟨t, ht⟩ : ∃ t, t = L[i] := ⟨_, rfl⟩
      obtain ⟨x, y, kk⟩ := t
      have hbd := HBD.out _ (List.getElem_mem h1)
      rw [← ht] at t0 t1 t2 hbd
      dsimp only at t0 t1 t2 hbd
      have HT : Hid ((x, y, kk) = L[i]) := ht
      have zt : ga < wr.heap.size := World.block_lt_of_cell? _ _ t0
      have C34 : Hid (∀ W' : World, Calls Tryd.prog 34 #[.agg #[.int .i64 x, .int .i64 y, .int .i64 kk]] W' fun e w' => ∃ g, e = .returned (.slice (some ⟨g, 0, none⟩) 3 3) ∧ W'.heap.size ≤ g ∧ Mp w' g (2 * x + 1) (2 * y + 1) (c1x x kk) (c1y y kk) (c2x x kk) (c2y y kk) ∧ Below W'.heap.size W' w') := fun W' => cornersOfW_any x y kk W' (by omega) (by omega) (by omega) (by omega) (by omega) (by omega)
      clear ht hbd
      go_wp2_with (go_at_call 34; refine (C34.out _).mono ?_; rintro e w4 ⟨gc, rfl, hgc, hMp, hb⟩; have HG4 : Hid (RP w1 w4 vA pts ∧ P3 w4 gc (x, y, kk) ∧ some gc ≠ vA.ownBlock) := ⟨HS.out.2.2.kept hb, P3.of hMp, fun e => by have := (HS.out.2.2.1.lt gc e.symm).2; omega⟩; clear hgc hMp hb)
      go_loopg [4, 7] 3 (fun gk s4 s7 wx => ∃ (k : Nat) (ps : List (Int × Int)), k ≤ 3 ∧ gk = 3 - k ∧ s7 = .int .i64 (k : Int) ∧ SPt ps ((L.take i).flatMap cnr ++ (cnr (x, y, kk)).take k) ∧ ps.length ≤ 3 * i + k ∧ RP w1 wx s4 ps ∧ P3 wx gc (x, y, kk) ∧ some gc ≠ s4.ownBlock)
      case atStart => exact ⟨0, pts, by omega, rfl, rfl, by simpa using HS.out.1, by simpa using HS.out.2.1, HG4.out.1, HG4.out.2.1, HG4.out.2.2⟩
      case round =>
        clear HG4 HS C34 t0 t1 t2 zt
        obtain ⟨k, ps, hk, rfl, rfl, hS, hpl, hR, hP3, hne⟩ := hrel
        obtain ⟨vB, hvB⟩ : ∃ u, u = u4 := ⟨_, rfl⟩
        subst hvB
        obtain ⟨pa, pc, rfl, hPR⟩ := own_points hR.1
        have HS : Hid (SPt ps ((L.take i).flatMap cnr ++ (cnr (x, y, kk)).take k) ∧ ps.length ≤ 3 * i + k ∧ RP w1 wr (.slice pa ps.length pc) ps ∧ P3 wr gc (x, y, kk) ∧ some gc ≠ (Value.slice pa ps.length pc).ownBlock) := ⟨hS, hpl, hR, hP3, hne⟩
        have hpl2 : ps.length ≤ 800 := by omega
        clear hS hpl hR hne
        by_cases hk1 : k < 3
        · have ik : (k : Int) < 3 := by omega
          have ik0 : (0 : Int) ≤ (k : Int) := by omega
          have hk3 : k < (cnr (x, y, kk)).length := by simpa [cnr] using hk1
          obtain ⟨m0, m1⟩ := hP3 k hk3
          obtain ⟨q, hq⟩ : ∃ q, q = (cnr (x, y, kk))[k] := ⟨_, rfl⟩
          obtain ⟨qx, qy⟩ := q
          rw [← hq] at m0 m1
          dsimp only at m0 m1
          have HQ : Hid ((qx, qy) = (cnr (x, y, kk))[k]) := hq
          have zc : gc < wr.heap.size := World.block_lt_of_cell? _ _ m0
          have HPR : Hid (PRow wr pa ps) := hPR
          have HM : Hid (wr.cell? ⟨gc, k * 2, none⟩ = some (.int .i64 qx) ∧ wr.cell? ⟨gc, k * 2 + 1, none⟩ = some (.int .i64 qy)) := ⟨m0, m1⟩
          clear hq hPR hP3
          obtain ⟨WB, hWB⟩ : ∃ W', W' = wr := ⟨_, rfl⟩
          rw [← hWB] at HS HPR HM
          have hWB2 : Below WB.heap.size WB wr := by rw [hWB]; exact bl_refl _
          have HWB : Hid (Below WB.heap.size WB wr) := hWB2
          clear hWB2 hWB m0 m1 zc
          go_wp2
          go_loopg [8] ps.length (fun gk s8 wx => ∃ n : Nat, n ≤ ps.length ∧ gk = ps.length - n ∧ s8 = .int .i64 (n : Int) ∧ (∀ m (hm : m < ps.length), m < n → ltP ps[m] (qx, qy)) ∧ Below WB.heap.size WB wx)
          case atStart => exact ⟨0, by omega, rfl, rfl, fun m _ h => by omega, HWB.out⟩
          case round =>
            clear HWB
            obtain ⟨n, hn, rfl, rfl, hlt, hB⟩ := hrel
            have HA : Hid ((∀ m (hm : m < ps.length), m < n → ltP ps[m] (qx, qy)) ∧ Below WB.heap.size WB wr) := ⟨hlt, hB⟩
            have m0 := cl_kept hB HM.out.1
            have m1 := cl_kept hB HM.out.2
            have zc : gc < wr.heap.size := World.block_lt_of_cell? _ _ m0
            clear hlt hB
            have kc := Kin.cells wr
            have kn : Nonempty (Kin wr) := ⟨⟨wr, bl_refl _⟩⟩
            by_cases h2 : n < ps.length
            · have in1 : (n : Int) < (ps.length : Int) := by omega
              have in0 : (0 : Int) ≤ (n : Int) := by omega
              obtain ⟨pg, rfl, e0, e1⟩ := HPR.out n h2
              obtain ⟨p, hp⟩ : ∃ p, p = ps[n] := ⟨_, rfl⟩
              obtain ⟨px, py⟩ := p
              rw [← hp] at e0 e1
              dsimp only at e0 e1
              replace e0 := cl_kept HA.out.2 e0
              replace e1 := cl_kept HA.out.2 e1
              have zp : pg < wr.heap.size := World.block_lt_of_cell? _ _ e0
              have HPP : Hid ((px, py) = ps[n]) := hp
              clear hp
              cases hls : lessB px py qx qy
              · have CLP : Hid (∀ W' : World, Calls Tryd.prog 57 #[.agg #[.int .i64 px, .int .i64 py], .agg #[.int .i64 qx, .int .i64 qy]] W' fun e w' => e = .returned (.bool false) ∧ Below W'.heap.size W' w') := fun W' => hls ▸ lessPoint_kin px py qx qy W'
                go_wp2
                refine wp_region_kin (by kernel_rfl) (by kernel_rfl) ?_
                repeat (go_big_quiet_step ((go_at_call 57; exact kin_of (CLP.out _))))
                refine wpQuiet_nil ?_
                intro wq hw'
                obtain ⟨nq, hw''⟩ := hw'
                have hq : Below wr.heap.size wr wq := hw'' ▸ nq.h
                have HQQ : Hid (Below WB.heap.size WB wq) := bl_via HA.out.2 hq
                replace m0 := cl_kept hq m0
                replace m1 := cl_kept hq m1
                replace e0 := cl_kept hq e0
                replace e1 := cl_kept hq e1
                have zc2 : gc < wq.heap.size := World.block_lt_of_cell? _ _ m0
                have zp2 : pg < wq.heap.size := World.block_lt_of_cell? _ _ e0
                clear hw'' nq hq kc kn zc zp
                by_cases heq : px = qx ∧ py = qy
                · have hd : decide (px = qx ∧ py = qy) = true := by simpa using heq
                  have HEQ : Hid ((qx, qy) ∈ ps) := by
                    have : (qx, qy) ∈ ps := by
                      rw [← heq.1, ← heq.2, HPP.out]
                      exact List.getElem_mem h2
                    exact this
                  clear heq
                  go_wp2
                  go_quiet (fail)
                  go_wp2
                  go_roundg (3 - (k + 1))
                  case measure => omega
                  case rel =>
                    have hbq : Below WB.heap.size WB (wq.drewN 1) := bl_drewN HQQ.out
                    refine ⟨k + 1, ps, by omega, rfl, by go_num, ?_, by have := HS.out.2.1; omega, HS.out.2.2.1.kept (bl_drewN HQQ.out), HS.out.2.2.2.1.grown (bl_grown (bl_drewN HQQ.out)) (by simp), HS.out.2.2.2.2⟩
                    rw [List.take_succ_eq_append_getElem hk3, ← List.append_assoc, ← HQ.out]
                    exact HS.out.1.has HEQ.out
                · have hd : decide (px = qx ∧ py = qy) = false := by simpa using heq
                  have HNL : Hid (∀ hm : n < ps.length, ¬ ltP ps[n] (qx, qy) ∧ ps[n] ≠ (qx, qy)) := fun hm => by
                    rw [← HPP.out]
                    refine ⟨fun h => ?_, fun e => heq (by simpa using e)⟩
                    rw [(lessB_iff px py qx qy).2 h] at hls
                    cases hls
                  clear heq
                  go_wp2
                  go_quiet (fail)
                  generalize hwd : World.drewN wq _ = wd
                  have hbd9 : Below WB.heap.size WB wd := by rw [← hwd]; exact bl_drewN HQQ.out
                  have HZ : Hid (RP w1 wd (.slice (some ⟨pg, 0, none⟩) ps.length pc) ps ∧ P3 wd gc (x, y, kk) ∧ some gc ≠ (Value.slice (some ⟨pg, 0, none⟩) ps.length pc).ownBlock ∧ gc < wd.heap.size) := ⟨HS.out.2.2.1.kept hbd9, HS.out.2.2.2.1.grown (bl_grown hbd9) (by simp), HS.out.2.2.2.2, by rw [← hwd]; exact zc2⟩
                  replace m0 : wd.cell? ⟨gc, k * 2, none⟩ = some (.int .i64 qx) := by rw [← hwd]; exact m0
                  replace m1 : wd.cell? ⟨gc, k * 2 + 1, none⟩ = some (.int .i64 qy) := by rw [← hwd]; exact m1
                  have zc3 : gc < wd.heap.size := World.block_lt_of_cell? _ _ m0
                  clear hwd hbd9 e0 e1 zc2 zp2 HQQ hd hls
                  obtain ⟨n', hn'⟩ : ∃ m, m = ps.length := ⟨_, rfl⟩
                  go_wp2_with (at_builtin; refine wpList_append_lies _ rfl (.tmp 59) (.tmp 64) 82 rfl w1.heap.size 43 i2 (.agg #[.int .i64 0, .int .i64 0]) 2 16 Tryd.underlying82 HI.out.1 HI.out.2.1 HI.out.2.2.1 HI.out.2.2.2 rfl (by decide) _ ps.length (flatP ps) rfl ?own ⟨wd.heap.size, 0, none⟩ 1 1 [.int .i64 qx, .int .i64 qy] rfl rfl ?c1 ?c2 (by decide) ?b1 ?b2 ?b3 (wd.heap.size + 1) ?b4 ?grow)
                  case own => exact own_below HZ.out.1.1 (bl_alloc (bl_refl _))
                  case c1 => exact cell_two_pt _ _ _ _
                  case c2 =>
                    intro u hu
                    simp at hu
                    rcases hu with rfl | rfl <;> rfl
                  case b1 =>
                    unfold maxLen
                    omega
                  case b2 => omega
                  case b3 =>
                    have := HZ.out.1.2.size
                    simp
                    omega
                  case b4 => simp
                  case grow =>
                    intro g cap' w3 hown hgrow hat hlt3
                    have hown2 : w3.ownsRow w1.heap.size 43 2 (.slice (some ⟨g, 0, none⟩) (ps.length + 1) cap') (ps.length + 1) (flatP (sh ps (qx, qy) ps.length)) := by
                      rw [sh_start, flatP_add]
                      simpa [flatP] using hown
                    have hb3 : Below w1.heap.size w1 w3 := (bl_alloc (o := .cells #[.int .i64 qx, .int .i64 qy] 43) HZ.out.1.2).grown hgrow (by have := HZ.out.1.2.size; simp; omega) (fun k' hk' => (HZ.out.1.1.lt k' hk').1)
                    have hP3b : P3 w3 gc (x, y, kk) := (HZ.out.2.1.grown (bl_grown (bl_alloc (bl_refl _))) (by simp)).grown hgrow HZ.out.2.2.1
                    have hgcg : gc ≠ g := by
                      rcases hat with h | h
                      · exact fun e => HZ.out.2.2.1 (by rw [e]; exact h.symm)
                      · intro e
                        have := HZ.out.2.2.2
                        omega
                    have HN3 : Hid (w3.ownsRow w1.heap.size 43 2 (.slice (some ⟨g, 0, none⟩) (ps.length + 1) cap') (ps.length + 1) (flatP (sh ps (qx, qy) ps.length)) ∧ Below w1.heap.size w1 w3 ∧ P3 w3 gc (x, y, kk)) := ⟨hown2, hb3, hP3b⟩
                    have hg1 : w1.heap.size ≤ g := (hown2.lt g rfl).1
                    clear hown hgrow hat hlt3 hown2 hb3 hP3b
                    go_wp2
                    go_loopg [9] (ps.length - n) (fun gk s9 wx => ∃ j : Nat, n ≤ j ∧ j ≤ ps.length ∧ gk = j - n ∧ s9 = .int .i64 (j : Int) ∧ wx.ownsRow w1.heap.size 43 2 (.slice (some ⟨g, 0, none⟩) (ps.length + 1) cap') (ps.length + 1) (flatP (sh ps (qx, qy) j)) ∧ Below w1.heap.size w1 wx ∧ P3 wx gc (x, y, kk))
                    case atStart => exact ⟨ps.length, by omega, by omega, rfl, by go_num, HN3.out⟩
                    case round =>
                      clear HN3
                      obtain ⟨j, hnj, hjl, rfl, rfl, ho, hb, hP⟩ := hrel
                      have HO : Hid (wr.ownsRow w1.heap.size 43 2 (.slice (some ⟨g, 0, none⟩) (ps.length + 1) cap') (ps.length + 1) (flatP (sh ps (qx, qy) j)) ∧ Below w1.heap.size w1 wr ∧ P3 wr gc (x, y, kk)) := ⟨ho, hb, hP⟩
                      clear ho hb hP
                      by_cases hj1 : n < j
                      · obtain ⟨j', rfl⟩ : ∃ j', j = j' + 1 := ⟨j - 1, by omega⟩
                        have hjp : j' < ps.length := by omega
                        obtain ⟨u, hu⟩ : ∃ u, u = ps[j'] := ⟨_, rfl⟩
                        obtain ⟨ux, uy⟩ := u
                        have HU : Hid ((ux, uy) = ps[j']) := hu
                        have hsl := sh_len (c := (qx, qy)) hjl
                        have hget : (sh ps (qx, qy) (j' + 1))[j']'(by omega) = (ux, uy) := by
                          rw [sh_low hjl (by omega) (by omega) (by simp; omega), List.getElem_append_left hjp]
                          exact hu.symm
                        have f9 := flatP_at (sh ps (qx, qy) (j' + 1)) j' (by omega)
                        rw [hget] at f9
                        have f8 := flatP_at (sh ps (qx, qy) (j' + 1)) (j' + 1) (by omega)
                        have c0 : wr.cell? ⟨g, j' * 2, none⟩ = some (.int .i64 ux) := (HO.out.1.cellAt _ (by omega)).trans f9.1
                        have c1 : wr.cell? ⟨g, j' * 2 + 1, none⟩ = some (.int .i64 uy) := (HO.out.1.cellAt _ (by omega)).trans f9.2
                        have d0 := (HO.out.1.cellAt ((j' + 1) * 2) (by omega)).trans f8.1
                        have d1 := (HO.out.1.cellAt ((j' + 1) * 2 + 1) (by omega)).trans f8.2
                        have g0 := HO.out.1.frozenAt ((j' + 1) * 2)
                        have g1 := HO.out.1.frozenAt ((j' + 1) * 2 + 1)
                        have zg : g < wr.heap.size := World.block_lt_of_cell? _ _ c0
                        obtain ⟨du, hdu⟩ : ∃ d, d = (sh ps (qx, qy) (j' + 1))[j' + 1]'(by omega) := ⟨_, rfl⟩
                        rw [← hdu] at d0 d1
                        obtain ⟨dx', dy'⟩ := du
                        dsimp only at d0 d1
                        have ij1 : (n : Int) < (j' : Int) + 1 := by omega
                        have ij2 : (j' : Int) + 1 < (ps.length : Int) + 1 := by omega
                        have ij3 : (j' : Int) < (ps.length : Int) + 1 := by omega
                        have ij0 : (0 : Int) ≤ (j' : Int) := by omega
                        clear hu hget f9 f8 hdu hsl
                        go_wp2
                        go_roundg (j' - n)
                        case measure => omega
                        case rel =>
                          have h9 := own_put HO.out.1 (j' + 1) ux uy
                          rw [HU.out, sh_step (by omega)] at h9
                          refine ⟨j', by omega, by omega, rfl, rfl, ?_, HO.out.2.1.grown (own_put HO.out.1 (j' + 1) ux uy).2 HO.out.2.1.size (fun k' hk' => by simp at hk'; omega), HO.out.2.2.grown (own_put HO.out.1 (j' + 1) ux uy).2 (by simpa using hgcg)⟩
                          exact h9.1
                      · obtain rfl : j = n := by omega
                        have hsl := sh_len (c := (qx, qy)) hjl
                        have f8 := flatP_at (sh ps (qx, qy) j) j (by omega)
                        have d0 := (HO.out.1.cellAt (j * 2) (by omega)).trans f8.1
                        have d1 := (HO.out.1.cellAt (j * 2 + 1) (by omega)).trans f8.2
                        have g0 := HO.out.1.frozenAt (j * 2)
                        have g1 := HO.out.1.frozenAt (j * 2 + 1)
                        have zg : g < wr.heap.size := World.block_lt_of_cell? _ _ d0
                        obtain ⟨du, hdu⟩ : ∃ d, d = (sh ps (qx, qy) j)[j]'(by omega) := ⟨_, rfl⟩
                        rw [← hdu] at d0 d1
                        obtain ⟨dx', dy'⟩ := du
                        dsimp only at d0 d1
                        obtain ⟨n0, n1⟩ := HO.out.2.2 k hk3
                        rw [← HQ.out] at n0 n1
                        dsimp only at n0 n1
                        have zgc : gc < wr.heap.size := World.block_lt_of_cell? _ _ n0
                        have ij1 : ¬ (j : Int) < (j : Int) := by omega
                        have ij2 : (j : Int) < (ps.length : Int) + 1 := by omega
                        have ij0 : (0 : Int) ≤ (j : Int) := by omega
                        clear f8 hdu hsl
                        go_wp2
                        go_roundg (3 - (k + 1))
                        case measure => omega
                        case rel =>
                          have h9 := own_put HO.out.1 j qx qy
                          rw [sh_end hjl] at h9
                          have hl9 : (ps.take j ++ (qx, qy) :: ps.drop j).length = ps.length + 1 := by
                            rw [List.length_append, List.length_take, List.length_cons, List.length_drop]
                            omega
                          refine ⟨k + 1, ps.take j ++ (qx, qy) :: ps.drop j, by omega, rfl, by go_num, ?_, by rw [hl9]; have := HS.out.2.1; omega, ⟨by rw [hl9]; exact h9.1, HO.out.2.1.grown h9.2 HO.out.2.1.size (fun k' hk' => by simp at hk'; omega)⟩, HO.out.2.2.grown h9.2 (by simpa using hgcg), by simpa [Value.ownBlock] using hgcg⟩
                          rw [List.take_succ_eq_append_getElem hk3, ← List.append_assoc, ← HQ.out]
                          exact HS.out.1.put hjl HA.out.1 HNL.out
              · have CLP : Hid (∀ W' : World, Calls Tryd.prog 57 #[.agg #[.int .i64 px, .int .i64 py], .agg #[.int .i64 qx, .int .i64 qy]] W' fun e w' => e = .returned (.bool true) ∧ Below W'.heap.size W' w') := fun W' => hls ▸ lessPoint_kin px py qx qy W'
                have HLT : Hid (ltP ps[n] (qx, qy)) := by
                  have : ltP ps[n] (qx, qy) := by rw [← HPP.out]; exact (lessB_iff px py qx qy).1 hls
                  exact this
                go_wp2
                refine wp_region_kin (by kernel_rfl) (by kernel_rfl) ?_
                repeat (go_big_quiet_step ((go_at_call 57; exact kin_of (CLP.out _))))
                refine wpQuiet_nil ?_
                intro wq hw'
                obtain ⟨nq, hw''⟩ := hw'
                have hq : Below wr.heap.size wr wq := hw'' ▸ nq.h
                have HQQ : Hid (Below WB.heap.size WB wq) := bl_via HA.out.2 hq
                clear hw'' nq hq kc kn
                go_wp2
                go_roundg (ps.length - (n + 1))
                case measure => omega
                case rel =>
                  refine ⟨n + 1, by omega, rfl, by go_num, fun m hm hmn => ?_, HQQ.out⟩
                  by_cases e : m = n
                  · subst e
                    exact HLT.out
                  · exact HA.out.1 m hm (by omega)
            · have in1 : ¬ (n : Int) < (ps.length : Int) := by omega
              have HNL : Hid (∀ hm : n < ps.length, ¬ ltP ps[n] (qx, qy) ∧ ps[n] ≠ (qx, qy)) := fun hm => absurd hm h2
              go_wp2
              refine wp_region_kin (by kernel_rfl) (by kernel_rfl) ?_
              repeat (go_big_quiet_step (fail))
              refine wpQuiet_nil ?_
              intro wq hw'
              obtain ⟨nq, hw''⟩ := hw'
              have hq : Below wr.heap.size wr wq := hw'' ▸ nq.h
              have HQQ : Hid (Below WB.heap.size WB wq) := bl_via HA.out.2 hq
              replace m0 := cl_kept hq m0
              replace m1 := cl_kept hq m1
              have zc2 : gc < wq.heap.size := World.block_lt_of_cell? _ _ m0
              clear hw'' nq hq kc kn zc
              go_wp2
              go_quiet (fail)
              generalize hwd : World.drewN wq _ = wd
              have hbd9 : Below WB.heap.size WB wd := by rw [← hwd]; exact bl_drewN HQQ.out
              have HZ : Hid (RP w1 wd (.slice pa ps.length pc) ps ∧ P3 wd gc (x, y, kk) ∧ some gc ≠ (Value.slice pa ps.length pc).ownBlock ∧ gc < wd.heap.size) := ⟨HS.out.2.2.1.kept hbd9, HS.out.2.2.2.1.grown (bl_grown hbd9) (by simp), HS.out.2.2.2.2, by rw [← hwd]; exact zc2⟩
              replace m0 : wd.cell? ⟨gc, k * 2, none⟩ = some (.int .i64 qx) := by rw [← hwd]; exact m0
              replace m1 : wd.cell? ⟨gc, k * 2 + 1, none⟩ = some (.int .i64 qy) := by rw [← hwd]; exact m1
              have zc3 : gc < wd.heap.size := World.block_lt_of_cell? _ _ m0
              clear hwd hbd9 zc2 HQQ
              obtain ⟨n', hn'⟩ : ∃ m, m = ps.length := ⟨_, rfl⟩
              go_wp2_with (at_builtin; refine wpList_append_lies _ rfl (.tmp 59) (.tmp 64) 82 rfl w1.heap.size 43 i2 (.agg #[.int .i64 0, .int .i64 0]) 2 16 Tryd.underlying82 HI.out.1 HI.out.2.1 HI.out.2.2.1 HI.out.2.2.2 rfl (by decide) _ ps.length (flatP ps) rfl ?own ⟨wd.heap.size, 0, none⟩ 1 1 [.int .i64 qx, .int .i64 qy] rfl rfl ?c1 ?c2 (by decide) ?b1 ?b2 ?b3 (wd.heap.size + 1) ?b4 ?grow)
              case own => exact own_below HZ.out.1.1 (bl_alloc (bl_refl _))
              case c1 => exact cell_two_pt _ _ _ _
              case c2 =>
                intro u hu
                simp at hu
                rcases hu with rfl | rfl <;> rfl
              case b1 =>
                unfold maxLen
                omega
              case b2 => omega
              case b3 =>
                have := HZ.out.1.2.size
                simp
                omega
              case b4 => simp
              case grow =>
                intro g cap' w3 hown hgrow hat hlt3
                have hown2 : w3.ownsRow w1.heap.size 43 2 (.slice (some ⟨g, 0, none⟩) (ps.length + 1) cap') (ps.length + 1) (flatP (sh ps (qx, qy) ps.length)) := by
                  rw [sh_start, flatP_add]
                  simpa [flatP] using hown
                have hb3 : Below w1.heap.size w1 w3 := (bl_alloc (o := .cells #[.int .i64 qx, .int .i64 qy] 43) HZ.out.1.2).grown hgrow (by have := HZ.out.1.2.size; simp; omega) (fun k' hk' => (HZ.out.1.1.lt k' hk').1)
                have hP3b : P3 w3 gc (x, y, kk) := (HZ.out.2.1.grown (bl_grown (bl_alloc (bl_refl _))) (by simp)).grown hgrow HZ.out.2.2.1
                have hgcg : gc ≠ g := by
                  rcases hat with h | h
                  · exact fun e => HZ.out.2.2.1 (by rw [e]; exact h.symm)
                  · intro e
                    have := HZ.out.2.2.2
                    omega
                have HN3 : Hid (w3.ownsRow w1.heap.size 43 2 (.slice (some ⟨g, 0, none⟩) (ps.length + 1) cap') (ps.length + 1) (flatP (sh ps (qx, qy) ps.length)) ∧ Below w1.heap.size w1 w3 ∧ P3 w3 gc (x, y, kk)) := ⟨hown2, hb3, hP3b⟩
                have hg1 : w1.heap.size ≤ g := (hown2.lt g rfl).1
                clear hown hgrow hat hlt3 hown2 hb3 hP3b
                go_wp2
                go_loopg [9] (ps.length - n) (fun gk s9 wx => ∃ j : Nat, n ≤ j ∧ j ≤ ps.length ∧ gk = j - n ∧ s9 = .int .i64 (j : Int) ∧ wx.ownsRow w1.heap.size 43 2 (.slice (some ⟨g, 0, none⟩) (ps.length + 1) cap') (ps.length + 1) (flatP (sh ps (qx, qy) j)) ∧ Below w1.heap.size w1 wx ∧ P3 wx gc (x, y, kk))
                case atStart => exact ⟨ps.length, by omega, by omega, rfl, by go_num, HN3.out⟩
                case round =>
                  clear HN3
                  obtain ⟨j, hnj, hjl, rfl, rfl, ho, hb, hP⟩ := hrel
                  have HO : Hid (wr.ownsRow w1.heap.size 43 2 (.slice (some ⟨g, 0, none⟩) (ps.length + 1) cap') (ps.length + 1) (flatP (sh ps (qx, qy) j)) ∧ Below w1.heap.size w1 wr ∧ P3 wr gc (x, y, kk)) := ⟨ho, hb, hP⟩
                  clear ho hb hP
                  by_cases hj1 : n < j
                  · exfalso
                    omega
                  · obtain rfl : j = n := by omega
                    have hsl := sh_len (c := (qx, qy)) hjl
                    have f8 := flatP_at (sh ps (qx, qy) j) j (by omega)
                    have d0 := (HO.out.1.cellAt (j * 2) (by omega)).trans f8.1
                    have d1 := (HO.out.1.cellAt (j * 2 + 1) (by omega)).trans f8.2
                    have g0 := HO.out.1.frozenAt (j * 2)
                    have g1 := HO.out.1.frozenAt (j * 2 + 1)
                    have zg : g < wr.heap.size := World.block_lt_of_cell? _ _ d0
                    obtain ⟨du, hdu⟩ : ∃ d, d = (sh ps (qx, qy) j)[j]'(by omega) := ⟨_, rfl⟩
                    rw [← hdu] at d0 d1
                    obtain ⟨dx', dy'⟩ := du
                    dsimp only at d0 d1
                    obtain ⟨n0, n1⟩ := HO.out.2.2 k hk3
                    rw [← HQ.out] at n0 n1
                    dsimp only at n0 n1
                    have zgc : gc < wr.heap.size := World.block_lt_of_cell? _ _ n0
                    have ij1 : ¬ (j : Int) < (j : Int) := by omega
                    have ij2 : (j : Int) < (ps.length : Int) + 1 := by omega
                    have ij0 : (0 : Int) ≤ (j : Int) := by omega
                    clear f8 hdu hsl
                    go_wp2
                    go_roundg (3 - (k + 1))
                    case measure => omega
                    case rel =>
                      have h9 := own_put HO.out.1 j qx qy
                      rw [sh_end hjl] at h9
                      have hl9 : (ps.take j ++ (qx, qy) :: ps.drop j).length = ps.length + 1 := by
                        rw [List.length_append, List.length_take, List.length_cons, List.length_drop]
                        omega
                      refine ⟨k + 1, ps.take j ++ (qx, qy) :: ps.drop j, by omega, rfl, by go_num, ?_, by rw [hl9]; have := HS.out.2.1; omega, ⟨by rw [hl9]; exact h9.1, HO.out.2.1.grown h9.2 HO.out.2.1.size (fun k' hk' => by simp at hk'; omega)⟩, HO.out.2.2.grown h9.2 (by simpa using hgcg), by simpa [Value.ownBlock] using hgcg⟩
                      rw [List.take_succ_eq_append_getElem hk3, ← List.append_assoc, ← HQ.out]
                      exact HS.out.1.put hjl HA.out.1 HNL.out
        · have ik : ¬ (k : Int) < 3 := by omega
          obtain rfl : k = 3 := by omega
          go_wp2
          go_roundg (L.length - (i + 1))
          case measure => omega
          case rel =>
            refine ⟨i + 1, ps, by omega, rfl, by go_num, ?_, by have := HS.out.2.1; omega, HS.out.2.2.1⟩
            have h9 := HS.out.1
            rw [List.take_succ_eq_append_getElem h1, List.flatMap_append, ← HT.out]
            simpa [cnr] using h9
    · have i1 : ¬ (i : Int) < (L.length : Int) := by omega
      obtain rfl : i = L.length := by omega
      go_wp2
      go_ret
      have h9 := HS.out
      rw [List.take_length] at h9
      exact ⟨vA, rfl, pts, ⟨h9.2.2.1.1, (by
        rcases h9.2.2.1.2 with h | ⟨g, cap', cur, h2, h3, h4⟩
        · exact .inl h
        · exact .inr ⟨g, cap', cur, h2, Nat.le_trans HW.out.2.size h3, h4⟩)⟩, h9.1, h9.2.1, bl_via HW.out.2 h9.2.2.2⟩
end Go.Proofs.YtoedcefbmbfnhabDoor
