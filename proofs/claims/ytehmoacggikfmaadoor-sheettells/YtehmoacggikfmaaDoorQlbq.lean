/- The number of a part is spread over all that belong to it. -/
import Derived.Test.YtehmoacggikfmaaDoorQlbp
namespace Go.Proofs.YtehmoacggikfmaaDoor
open Go.RowKit Go.ChangeMaps

/-- A list of places as numbers in memory. -/
def rowN (R : List Nat) : List Value := R.map fun (i : Nat) => Value.int .i64 (i : Int)
/-- What the search keeps in memory: the labels, the list of what was found, the paper's box. -/
def SpM (wE wx w : World) (g : Nat) (ad : Option Addr) (cc ra rk : Nat) (L : List (Int × Int × Int)) (part : Nat → Int) (num : Int) (R : List Nat) (v : Value) : Prop :=
  ZRow wx g L.length (lab part num R) ∧ wx.ownsRow (w.heap.size + 1) 3 1 v R.length (rowN R) ∧ Below wE.heap.size wE wx ∧ (wx.cell? ⟨w.heap.size, 0, none⟩ = some (.slice ad L.length cc) ∧ wx.cell? ⟨w.heap.size, 1, none⟩ = some (.map (some ra)) ∧ wx.cell? ⟨w.heap.size, 2, none⟩ = some (.map (some rk))) ∧ w.heap.size + 1 ≤ wx.heap.size
theorem SpM.kept {wE wx w w' : World} {g cc ra rk : Nat} {ad : Option Addr} {L : List (Int × Int × Int)} {part : Nat → Int} {num : Int} {R : List Nat} {v : Value} (h : SpM wE wx w g ad cc ra rk L part num R v) (hb : Below wx.heap.size wx w') : SpM wE w' w g ad cc ra rk L part num R v :=
  ⟨h.1.kept hb, own_below h.2.1 hb, bl_via h.2.2.1 hb, ⟨cl_kept hb h.2.2.2.1.1, cl_kept hb h.2.2.2.1.2.1, cl_kept hb h.2.2.2.1.2.2⟩, Nat.le_trans h.2.2.2.2 hb.size⟩
theorem rowN_at (R : List Nat) (i : Nat) (h : i < R.length) : (rowN R)[i]? = some (.int .i64 ((R[i] : Nat) : Int)) := by simp [rowN, h]
theorem SpM.slice {wE wx w : World} {g cc ra rk : Nat} {ad : Option Addr} {L : List (Int × Int × Int)} {part : Nat → Int} {num : Int} {R : List Nat} {v : Value} (h : SpM wE wx w g ad cc ra rk L part num R v) (hn : 0 < R.length) : ∃ b cap, v = .slice (some ⟨b, 0, none⟩) R.length cap ∧ w.heap.size + 1 ≤ b ∧ ∀ i (hi : i < R.length), wx.cell? ⟨b, i, none⟩ = some (.int .i64 ((R[i] : Nat) : Int)) := by
  rcases h.2.1.2 with ⟨_, h0⟩ | ⟨b, cap, cur, hv, h2, h3⟩
  · omega
  · refine ⟨b, cap, hv, h2, fun i hi => ?_⟩
    subst hv
    have := h.2.1.cellAt i (by omega)
    rw [this, rowN_at R i hi]

/-- A label is written, and its place put on the list. -/
theorem SpM.more {wE wx w w2 w3 : World} {g cc ra rk j : Nat} {ad : Option Addr} {L : List (Int × Int × Int)} {part : Nat → Int} {num : Int} {R : List Nat} {v v' : Value} (h : SpM wE wx w g ad cc ra rk L part num R v) (hgw : g < w.heap.size) (hgE : wE.heap.size ≤ g) (hj : j < L.length)
    (hb : Below (wx.setCell ⟨g, j, none⟩ (.int .i64 num)).heap.size (wx.setCell ⟨g, j, none⟩ (.int .i64 num)) w2) (hg : w2.grownBy w3 v.ownBlock) (hown : w3.ownsRow (w.heap.size + 1) 3 1 v' (R.length + 1) (rowN R ++ [.int .i64 (j : Int)])) :
    SpM wE w3 w g ad cc ra rk L part num (R ++ [j]) v' := by
  obtain ⟨h1, h2, h3, ⟨p0, p1, p2⟩, h5⟩ := h
  have hrow : ∀ k, v.ownBlock = some k → w.heap.size + 1 ≤ k := fun k hk => (h2.lt k hk).1
  have hgv : some g ≠ v.ownBlock := fun e => by
    have := hrow g e.symm
    omega
  have hbv : some w.heap.size ≠ v.ownBlock := fun e => by
    have := hrow _ e.symm
    omega
  have z1 := ((h1.set num hj).kept hb).grown hg hgv
  have q : ∀ {o : Nat} {u : Value}, wx.cell? ⟨w.heap.size, o, none⟩ = some u → w3.cell? ⟨w.heap.size, o, none⟩ = some u := fun {o u} hu => by
    refine hg.cell (cl_kept hb ?_) hbv
    rw [World.cell?_setCell_other _ _ _ _ (by simp <;> omega)]
    exact hu
  refine ⟨?_, ?_, ?_, ⟨q p0, q p1, q p2⟩, ?_⟩
  · rw [lab_found]
    exact z1
  · rw [List.length_append, List.length_singleton]
    have : rowN (R ++ [j]) = rowN R ++ [.int .i64 (j : Int)] := by simp [rowN]
    rw [this]
    exact hown
  · have k1 : Below wE.heap.size wE (wx.setCell ⟨g, j, none⟩ (.int .i64 num)) := h3.setCell hgE _
    have k2 := k1.trans (hb.mono k1.size)
    have := h3.size
    exact k2.grown hg k2.size (fun k hk => by
      have := hrow k hk
      have := World.block_lt_of_cell? _ _ p0
      omega)
  · have q1 := hb.size
    have q2 := hg.size
    rw [World.size_setCell] at q1
    omega

theorem owns_one (w : World) (base : Nat) (v : Value) (h : base ≤ w.heap.size) : (w.alloc (.cells #[v] 3)).ownsRow base 3 1 (.slice (some ⟨w.heap.size, 0, none⟩) 1 1) 1 [v] :=
  ⟨by simp, .inr ⟨w.heap.size, 1, #[v], rfl, h, heap_alloc_new w _, Nat.le_refl _, by unfold maxLen; omega, by simp, by simp⟩⟩
/-- All joints of a triangle that may be crossed have been looked at. -/
theorem DoneT.joints {cr : Int × Int × Int × Int → Bool} {L : List (Int × Int × Int)} {part : Nat → Int} {R : List Nat} {t : Int × Int × Int} {i : Nat} (hi : i ∈ R) (h : ∀ m (hm : m < (jl L t i 3).length), ∀ j : Nat, (jl L t i 3)[m].2 = (j : Int) → cr (jl L t i 3)[m].1 = true → j ∈ R ∨ 0 ≤ part j) : DoneT cr L part R t 3 := fun k hk hc j hj ht => by
  by_cases e : j = i
  · subst e
    exact Or.inl hi
  · have hm : (edg t k, (j : Int)) ∈ jl L t i 3 := jl_mem.2 ⟨k, hk, rfl, j, hj, rfl, e, ht⟩
    obtain ⟨m, hm, e1⟩ := List.getElem_of_mem hm
    exact h m hm j (by rw [e1]) (by rw [e1]; exact hc)

set_option maxRecDepth 100000 in
set_option maxHeartbeats 6400000 in
theorem spread_all (wE w : World) (g cc ra rk f : Nat) (ad : Option Addr) (L : List (Int × Int × Int)) (part : Nat → Int) (num : Int) (cr : Int × Int × Int × Int → Bool) (hs : Steps wE) (hPA : PA wE ad ra L) (hB : Below wE.heap.size wE w) (hgE : wE.heap.size ≤ g) (hZ : ZRow w g L.length part) (hf : f < L.length) (hp : part f < 0) (hnum : 0 ≤ num ∧ num ≤ 1000) (hL : L.length ≤ 300) (hnd : L.Nodup) (hbd : ∀ t ∈ L, (0 ≤ t.1 ∧ t.1 ≤ 8) ∧ (0 ≤ t.2.1 ∧ t.2.1 ≤ 8) ∧ (0 ≤ t.2.2 ∧ t.2.2 ≤ 3))
    (hCL : ∀ (nr q0 q1 q2 q3 qt : Int) (W' : World), Below wE.heap.size wE W' → Calls Tryd.prog 36 #[.int .i64 nr, .agg #[.int .i64 q0, .int .i64 q1, .int .i64 q2, .int .i64 q3, .int .i64 qt]] W' fun e w' => e = .returned (.bool (cr (q0, q1, q2, q3))) ∧ Below W'.heap.size W' w') :
    Calls Tryd.prog 49 #[.agg #[.slice ad L.length cc, .map (some ra), .map (some rk)], .slice (some ⟨g, 0, none⟩) L.length L.length, .int .i64 (f : Int), .int .i64 num, .func (.func 36) #[] #[]] w fun e w' => e = .returned (.tuple #[]) ∧ ∃ R, Sp cr L part f R ∧ ZRow w' g L.length (lab part num R) ∧ (∀ i ∈ R, ∀ h : i < L.length, DoneT cr L part R L[i] 3) ∧ Below wE.heap.size wE w' := by
  have HCL : Hid (∀ (nr q0 q1 q2 q3 qt : Int) (W' : World), Below wE.heap.size wE W' → Calls Tryd.prog 36 #[.int .i64 nr, .agg #[.int .i64 q0, .int .i64 q1, .int .i64 q2, .int .i64 q3, .int .i64 qt]] W' fun e w' => e = .returned (.bool (cr (q0, q1, q2, q3))) ∧ Below W'.heap.size W' w') := hCL
  have HJN : Hid (∀ (W' : World) (i : Nat) (hi : i < L.length), Below wE.heap.size wE W' → Calls Tryd.prog 59 #[.agg #[.slice ad L.length cc, .map (some ra), .map (some rk)], .int .i64 (i : Int)] W' fun e w' => ∃ v, e = .returned v ∧ w'.ownsRow (W'.heap.size + 1) 77 5 v (jl L L[i] i 3).length (flatJ (jl L L[i] i 3)) ∧ Below W'.heap.size W' w') := fun W' i hi hW' => joints_any W' cc ra rk i ad L L[i].1 L[i].2.1 L[i].2.2 (hs.kept hW') (hPA.kept hW') hi rfl hL (hbd _ (List.getElem_mem hi))
  have HND : Hid (L.Nodup) := hnd
  obtain ⟨z0, zf⟩ := hZ f hf
  have hgw : g < w.heap.size := World.block_lt_of_cell? _ _ z0
  have HZ : Hid (ZRow w g L.length part ∧ Below wE.heap.size wE w) := ⟨hZ, hB⟩
  have HS0 : Hid (Sp cr L part f [f]) := ⟨by simp, by simp, fun i hi => by
    simp at hi
    subst hi
    exact ⟨hf, hp, hf, .here (List.getElem_mem hf)⟩⟩
  obtain ⟨i3, hi3, hz30, hz31, hz32⟩ := info_parts inf3
  have HI : Hid (Tryd.prog.info? 3 = some i3 ∧ i3.zero = some (.int .i64 0) ∧ i3.size = 1 ∧ i3.bytes = 8) := ⟨hi3, hz30, hz31, hz32⟩
  obtain ⟨n0, n1⟩ := hnum
  have if1 : (f : Int) < (L.length : Int) := by omega
  have if0 : (0 : Int) ≤ (f : Int) := by omega
  clear hs hPA hbd hnd hZ hB hi3 hz30 hz31 hz32 hp hCL
  go_enter Tryd.func49, Tryd.ntmps49
  go_wp2
  go_loopg [10, 11] L.length (fun gk s10 s11 wx => ∃ (n : Nat) (R : List Nat), n ≤ R.length ∧ L.length - n ≤ gk ∧ s11 = .int .i64 (n : Int) ∧ Sp cr L part f R ∧ (∀ m (hm : m < R.length), m < n → ∀ h : R[m] < L.length, DoneT cr L part R L[R[m]] 3) ∧ SpM wE wx w g ad cc ra rk L part num R s10)
  case atStart =>
    refine ⟨0, [f], by simp, by omega, rfl, HS0.out, fun m _ h => by omega, ?_⟩
    refine ⟨?_, ?_, ?_, ⟨?_, ?_, ?_⟩, ?_⟩
    · have hz := (HZ.out.1.set num hf).kept (bl_alloc (o := .cells #[.int .i64 (f : Int)] 3) (bl_alloc (o := .cells #[.slice ad L.length cc, .map (some ra), .map (some rk)] 40) (bl_refl _)))
      have e : lab part num [f] = fun j => if j = f then num else part j := by
        funext j
        simp [lab]
      rw [e]
      exact hz
    · have := owns_one ((w.setCell ⟨g, f, none⟩ (.int .i64 num)).alloc (.cells #[.slice ad L.length cc, .map (some ra), .map (some rk)] 40)) (w.heap.size + 1) (.int .i64 (f : Int)) (by simp)
      simpa [rowN] using this
    · have hb0 : Below wE.heap.size wE (w.setCell ⟨g, f, none⟩ (.int .i64 num)) := HZ.out.2.setCell (p := ⟨g, f, none⟩) hgE _
      exact bl_alloc (bl_alloc hb0)
    · simp [go_sem]
    · simp [go_sem]
    · simp [go_sem]
    · simp
  case round =>
    clear HS0 HZ z0 zf
    obtain ⟨n, R, hn, hgk, rfl, hSp, hD, hM⟩ := hrel
    obtain ⟨vA, hvA⟩ : ∃ u, u = u10 := ⟨_, rfl⟩
    subst hvA
    have hRp : 0 < R.length := List.length_pos_of_mem hSp.1
    obtain ⟨rb, rc, rfl, hrb, hrc⟩ := hM.slice hRp
    have hRL := hSp.len
    have HSP : Hid (Sp cr L part f R ∧ ∀ m (hm : m < R.length), m < n → ∀ h : R[m] < L.length, DoneT cr L part R L[R[m]] 3) := ⟨hSp, hD⟩
    have HM : Hid (SpM wE wr w g ad cc ra rk L part num R (.slice (some ⟨rb, 0, none⟩) R.length rc)) := hM
    obtain ⟨p0, p1, p2⟩ := hM.2.2.2.1
    have zp : w.heap.size < wr.heap.size := World.block_lt_of_cell? _ _ p0
    by_cases h1 : n < R.length
    · have rcn := hrc n h1
      have zr : rb < wr.heap.size := World.block_lt_of_cell? _ _ rcn
      have hRn : R[n] ∈ R := List.getElem_mem h1
      obtain ⟨hi, _⟩ := hSp.2.2 R[n] hRn
      obtain ⟨i, hie⟩ : ∃ i, i = R[n] := ⟨_, rfl⟩
      rw [← hie] at rcn hi
      have HIE : Hid (i = R[n]) := hie
      have HIR : Hid (i ∈ R) := by rw [hie]; exact hRn
      clear hSp hD hM hrc hie hRn
      have i1 : (n : Int) < (R.length : Int) := by omega
      have i0 : (0 : Int) ≤ (n : Int) := by omega
      obtain ⟨J, hJ⟩ : ∃ J, J = jl L L[i] i 3 := ⟨_, rfl⟩
      have hJl : J.length ≤ 900 := by
        have := jl_len L L[i] i 3
        rw [hJ]
        omega
      have CJ : Hid (∀ W' : World, Below wr.heap.size wr W' → Calls Tryd.prog 59 #[.agg #[.slice ad L.length cc, .map (some ra), .map (some rk)], .int .i64 (i : Int)] W' fun e w' => ∃ v, e = .returned v ∧ w'.ownsRow (W'.heap.size + 1) 77 5 v J.length (flatJ J) ∧ Below W'.heap.size W' w') := fun W' hW' => by
        rw [hJ]
        exact HJN.out W' i hi (bl_via HM.out.2.2.1 hW')
      have HJ : Hid (J = jl L L[i] i 3) := hJ
      clear hJ
      go_wp2
      go_cut [31, 32, 33] (fun s31 s32 s33 wx => ∃ ja jc, s31 = .slice ja J.length jc ∧ s32 = .int .i64 (J.length : Int) ∧ s33 = .int .i64 0 ∧ JW wx (w.heap.size + 1) ja J ∧ Below wr.heap.size wr wx)
      case first =>
        go_region_held3 (fun w' => w'.cell? ⟨w.heap.size, 0, none⟩ = some (.slice ad L.length cc) ∧ w'.cell? ⟨w.heap.size, 1, none⟩ = some (.map (some ra)) ∧ w'.cell? ⟨w.heap.size, 2, none⟩ = some (.map (some rk)) ∧ w'.cell? ⟨rb, n, none⟩ = some (.int .i64 (i : Int)))
          ((refine ⟨?_, ?_, ?_, ?_⟩ <;> (first | (with_reducible (repeat (first | assumption | refine al_old ?_ | refine dr_old ?_)); done) | (simp [go_sem]; done))))
          ((go_at_call 59; refine (CJ.out _ (by with_reducible repeat (first | exact bl_refl _ | refine bl_drew ?_))).mono ?_; rintro e w8 ⟨v8, rfl, hown, hb⟩; obtain ⟨ja, jc, rfl, hjr⟩ := own_jw hown; have hq8 : Below wr.heap.size wr w8 := bl_via (by with_reducible repeat (first | exact bl_refl _ | refine bl_drew ?_)) hb; have HQ : Hid (JW w8 wr.heap.size ja J ∧ Below wr.heap.size wr w8) := ⟨hjr.mono (by simp), hq8⟩; have p0_8 := cl_kept hq8 p0; have p1_8 := cl_kept hq8 p1; have p2_8 := cl_kept hq8 p2; have rc_8 := cl_kept hq8 rcn; clear hown hjr hb hq8))
        all_goals
          go_wp2
          go_meet
          case rel => exact ⟨_, _, rfl, rfl, rfl, (HQ.out.1.mono (by omega)).kept (by with_reducible repeat (first | exact bl_refl _ | refine bl_drew ?_)), by with_reducible repeat (first | exact HQ.out.2 | refine bl_drew ?_)⟩
      case rest =>
        obtain ⟨ja, jc, rfl, rfl, rfl, hjr, hBc⟩ := hcut
        have HJR : Hid (JW wc (w.heap.size + 1) ja J) := hjr
        have HWC : Hid (Below wc.heap.size wc wc) := bl_refl _
        have HMQ : Hid (SpM wE wc w g ad cc ra rk L part num R (.slice (some ⟨rb, 0, none⟩) R.length rc)) := HM.out.kept hBc
        obtain ⟨WC, hWC⟩ : ∃ W, W = wc := ⟨_, rfl⟩
        rw [← hWC] at HJR HMQ HWC
        clear hjr hBc p0 p1 p2 zp hrb zr rcn CJ HM
        have HWC' : Hid (Below WC.heap.size WC wc ∧ w.heap.size + 1 ≤ WC.heap.size) := ⟨by rw [hWC]; exact bl_refl _, HMQ.out.2.2.2.2⟩
        have HMR : Hid (SpM wE wc w g ad cc ra rk L part num R (.slice (some ⟨rb, 0, none⟩) R.length rc)) := by rw [← hWC]; exact HMQ.out
        clear HWC HMQ hWC
        go_wp2
        go_loopg [10, 33] J.length (fun gk s10 s33 wx => ∃ (m : Nat) (Y : List Nat), m ≤ J.length ∧ gk = J.length - m ∧ s33 = .int .i64 (m : Int) ∧ Sp cr L part f (R ++ Y) ∧ (∀ m' (h : m' < J.length), m' < m → ∀ j : Nat, J[m'].2 = (j : Int) → cr J[m'].1 = true → j ∈ R ++ Y ∨ 0 ≤ part j) ∧ SpM wE wx w g ad cc ra rk L part num (R ++ Y) s10 ∧ JW wx (w.heap.size + 1) ja J)
        case atStart => exact ⟨0, [], by omega, rfl, rfl, by simpa using HSP.out.1, fun m' _ h => by omega, by simpa using HMR.out, HJR.out.kept HWC'.out.1⟩
        case round =>
          clear HMR HWC'
          obtain ⟨m, Y, hm, rfl, rfl, hSp, hE, hM, hjr⟩ := hrel
          obtain ⟨vC, hvC⟩ : ∃ u, u = u10 := ⟨_, rfl⟩
          subst hvC
          have HS3 : Hid (Sp cr L part f (R ++ Y) ∧ (∀ m' (h : m' < J.length), m' < m → ∀ j : Nat, J[m'].2 = (j : Int) → cr J[m'].1 = true → j ∈ R ++ Y ∨ 0 ≤ part j)) := ⟨hSp, hE⟩
          have HM : Hid (SpM wE wr w g ad cc ra rk L part num (R ++ Y) vC) := hM
          have HR : Hid (JW wr (w.heap.size + 1) ja J) := hjr
          clear hSp hE hM hjr
          by_cases hm1 : m < J.length
          · have im : (m : Int) < (J.length : Int) := by omega
            have im0 : (0 : Int) ≤ (m : Int) := by omega
            obtain ⟨jb, rfl, c0, c1, c2, c3, c4⟩ := HR.out.1 m hm1
            have zjb : jb < wr.heap.size := World.block_lt_of_cell? _ _ c0
            obtain ⟨q, hq⟩ : ∃ q, q = J[m] := ⟨_, rfl⟩
            obtain ⟨⟨q0, q1, q2, q3⟩, qj⟩ := q
            rw [← hq] at c0 c1 c2 c3 c4
            dsimp only at c0 c1 c2 c3 c4
            have HQ : Hid (((q0, q1, q2, q3), qj) = J[m]) := hq
            have hmem : ((q0, q1, q2, q3), qj) ∈ jl L L[i] i 3 := by rw [← HJ.out, hq]; exact List.getElem_mem hm1
            obtain ⟨k, hk, hke, j, hj, rfl, hji, hjt⟩ := jl_mem.1 hmem
            have HJ2 : Hid ((q0, q1, q2, q3) = edg L[i] k ∧ hasT L[j] (q0, q1, q2, q3) = true) := ⟨hke, hjt⟩
            obtain ⟨lc, lf⟩ := HM.out.1 j hj
            have zg : g < wr.heap.size := World.block_lt_of_cell? _ _ lc
            have zg1 : g < wr.heap.size + 1 := by omega
            have ij : (j : Int) < (L.length : Int) := by omega
            have ij0 : (0 : Int) ≤ (j : Int) := by omega
            clear hmem hke hjt hq
            by_cases hlt : lab part num (R ++ Y) j < 0
            · have hjR : j ∉ R ++ Y := fun hh => by
                simp only [lab, if_pos hh] at hlt
                omega
              obtain ⟨sb, sc, rfl, hsb, hsc⟩ := HM.out.slice (by rw [List.length_append]; omega)
              have hnY : n < (R ++ Y).length := by rw [List.length_append]; omega
              have sn := hsc n hnY
              rw [show (R ++ Y)[n] = i by rw [List.getElem_append_left h1]; exact HIE.out.symm] at sn
              have zsb : sb < wr.heap.size := World.block_lt_of_cell? _ _ sn
              have inY : (n : Int) < ((R ++ Y).length : Int) := by omega
              clear hsc
              have hpj : part j < 0 := by simpa [lab, hjR] using hlt
              obtain ⟨lv, hlv⟩ : ∃ lv, lv = lab part num (R ++ Y) j := ⟨_, rfl⟩
              rw [← hlv] at lc hlt
              have HLV : Hid (lv = lab part num (R ++ Y) j) := hlv
              clear hlv
              cases hcr : cr (q0, q1, q2, q3)
              · have CC : Hid (∀ W' : World, Below wr.heap.size wr W' → Calls Tryd.prog 36 #[.int .i64 (i : Int), .agg #[.int .i64 q0, .int .i64 q1, .int .i64 q2, .int .i64 q3, .int .i64 (j : Int)]] W' fun e w' => e = .returned (.bool false) ∧ Below W'.heap.size W' w') := fun W' hW' => hcr ▸ HCL.out (i : Int) q0 q1 q2 q3 (j : Int) W' (bl_via HM.out.2.2.1 hW')
                go_wp2
                refine wp_named (fun W1 hW1 => ?_)
                have hbW : Below wr.heap.size wr W1 := by rw [hW1]; exact bl_alloc (bl_refl _)
                have d0 : W1.cell? ⟨wr.heap.size, 0, none⟩ = some (.int .i64 q0) := by rw [hW1]; simp [go_sem]
                have d1 : W1.cell? ⟨wr.heap.size, 1, none⟩ = some (.int .i64 q1) := by rw [hW1]; simp [go_sem]
                have d2 : W1.cell? ⟨wr.heap.size, 2, none⟩ = some (.int .i64 q2) := by rw [hW1]; simp [go_sem]
                have d3 : W1.cell? ⟨wr.heap.size, 3, none⟩ = some (.int .i64 q3) := by rw [hW1]; simp [go_sem]
                have d4 : W1.cell? ⟨wr.heap.size, 4, none⟩ = some (.int .i64 (j : Int)) := by rw [hW1]; simp [go_sem]
                have lc1 := cl_kept hbW lc
                have zn : wr.heap.size < W1.heap.size := World.block_lt_of_cell? _ _ d0
                have zg2 : g < W1.heap.size := World.block_lt_of_cell? _ _ lc1
                have sn1 := cl_kept hbW sn
                have zs1 : sb < W1.heap.size := World.block_lt_of_cell? _ _ sn1
                have HM1 : Hid (SpM wE W1 w g ad cc ra rk L part num (R ++ Y) (.slice (some ⟨sb, 0, none⟩) (R ++ Y).length sc) ∧ JW W1 (w.heap.size + 1) (some ⟨jb, 0, none⟩) J) := ⟨HM.out.kept hbW, HR.out.kept hbW⟩
                have hqd : decide (lv < 0) = true := decide_eq_true hlt
                have C1 : Hid (∀ W' : World, Below W1.heap.size W1 W' → Calls Tryd.prog 36 #[.int .i64 (i : Int), .agg #[.int .i64 q0, .int .i64 q1, .int .i64 q2, .int .i64 q3, .int .i64 (j : Int)]] W' fun e w' => e = .returned (.bool false) ∧ Below W'.heap.size W' w') := fun W' hW' => CC.out W' (bl_via hbW hW')
                clear hW1 hbW c0 c1 c2 c3 c4 lc lf sn
                have kc := Kin.cells W1
                have kn : Nonempty (Kin W1) := ⟨⟨W1, bl_refl _⟩⟩
                refine wp_region_kin (by kernel_rfl) (by kernel_rfl) ?_
                repeat (go_big_quiet_step ((go_at_call 36; exact kin_of (C1.out _ (Kin.h _)))))
                refine wpQuiet_nil ?_
                intro w5 hw'
                obtain ⟨nq, hw''⟩ := hw'
                have hq : Below W1.heap.size W1 w5 := hw'' ▸ nq.h
                clear hw'' nq kc kn
                have HM5 : Hid (SpM wE w5 w g ad cc ra rk L part num (R ++ Y) (.slice (some ⟨sb, 0, none⟩) (R ++ Y).length sc) ∧ JW w5 (w.heap.size + 1) (some ⟨jb, 0, none⟩) J) := ⟨HM1.out.1.kept hq, HM1.out.2.kept hq⟩
                go_wp2
                go_roundg (J.length - (m + 1))
                case measure => omega
                case rel =>
                  refine ⟨m + 1, Y, by omega, rfl, by go_num, HS3.out.1, fun m' h' hm' j' hj' hc' => ?_, HM5.out.1, HM5.out.2⟩
                  by_cases em : m' = m
                  · subst em
                    rw [← HQ.out] at hc'
                    simp only at hc'
                    rw [hcr] at hc'
                    exact absurd hc' (by simp)
                  · exact HS3.out.2 m' h' (by omega) j' hj' hc'
              · have CC : Hid (∀ W' : World, Below wr.heap.size wr W' → Calls Tryd.prog 36 #[.int .i64 (i : Int), .agg #[.int .i64 q0, .int .i64 q1, .int .i64 q2, .int .i64 q3, .int .i64 (j : Int)]] W' fun e w' => e = .returned (.bool true) ∧ Below W'.heap.size W' w') := fun W' hW' => hcr ▸ HCL.out (i : Int) q0 q1 q2 q3 (j : Int) W' (bl_via HM.out.2.2.1 hW')
                have HF : Hid (Sp cr L part f (R ++ (Y ++ [j]))) := by
                  have := HS3.out.1.found HND.out (i := i) (j := j) (List.mem_append_left _ HIR.out) hj hjR hpj (e := (q0, q1, q2, q3)) hcr (fun hi' => by
                    rw [HJ2.out.1]
                    exact edg_own _ _) HJ2.out.2
                  rwa [List.append_assoc] at this
                have hlen : (R ++ Y).length + 1 ≤ 1000 := by
                  have := HS3.out.1.len
                  omega
                go_wp2
                refine wp_named (fun W1 hW1 => ?_)
                have hbW : Below wr.heap.size wr W1 := by rw [hW1]; exact bl_alloc (bl_refl _)
                have d0 : W1.cell? ⟨wr.heap.size, 0, none⟩ = some (.int .i64 q0) := by rw [hW1]; simp [go_sem]
                have d1 : W1.cell? ⟨wr.heap.size, 1, none⟩ = some (.int .i64 q1) := by rw [hW1]; simp [go_sem]
                have d2 : W1.cell? ⟨wr.heap.size, 2, none⟩ = some (.int .i64 q2) := by rw [hW1]; simp [go_sem]
                have d3 : W1.cell? ⟨wr.heap.size, 3, none⟩ = some (.int .i64 q3) := by rw [hW1]; simp [go_sem]
                have d4 : W1.cell? ⟨wr.heap.size, 4, none⟩ = some (.int .i64 (j : Int)) := by rw [hW1]; simp [go_sem]
                have lc1 := cl_kept hbW lc
                have zn : wr.heap.size < W1.heap.size := World.block_lt_of_cell? _ _ d0
                have zg2 : g < W1.heap.size := World.block_lt_of_cell? _ _ lc1
                have sn1 := cl_kept hbW sn
                have zs1 : sb < W1.heap.size := World.block_lt_of_cell? _ _ sn1
                have HM1 : Hid (SpM wE W1 w g ad cc ra rk L part num (R ++ Y) (.slice (some ⟨sb, 0, none⟩) (R ++ Y).length sc) ∧ JW W1 (w.heap.size + 1) (some ⟨jb, 0, none⟩) J) := ⟨HM.out.kept hbW, HR.out.kept hbW⟩
                have hqd : decide (lv < 0) = true := decide_eq_true hlt
                have C1 : Hid (∀ W' : World, Below W1.heap.size W1 W' → Calls Tryd.prog 36 #[.int .i64 (i : Int), .agg #[.int .i64 q0, .int .i64 q1, .int .i64 q2, .int .i64 q3, .int .i64 (j : Int)]] W' fun e w' => e = .returned (.bool true) ∧ Below W'.heap.size W' w') := fun W' hW' => CC.out W' (bl_via hbW hW')
                clear hW1 hbW c0 c1 c2 c3 c4 lc lf sn
                have kc := Kin.cells W1
                have kn : Nonempty (Kin W1) := ⟨⟨W1, bl_refl _⟩⟩
                refine wp_region_kin (by kernel_rfl) (by kernel_rfl) ?_
                repeat (go_big_quiet_step ((go_at_call 36; exact kin_of (C1.out _ (Kin.h _)))))
                refine wpQuiet_nil ?_
                intro w5 hw'
                obtain ⟨nq, hw''⟩ := hw'
                have hq : Below W1.heap.size W1 w5 := hw'' ▸ nq.h
                clear hw'' nq kc kn
                have HM5 : Hid (SpM wE w5 w g ad cc ra rk L part num (R ++ Y) (.slice (some ⟨sb, 0, none⟩) (R ++ Y).length sc) ∧ JW w5 (w.heap.size + 1) (some ⟨jb, 0, none⟩) J) := ⟨HM1.out.1.kept hq, HM1.out.2.kept hq⟩
                have d5 := cl_kept hq d4
                have zn5 : wr.heap.size < w5.heap.size := World.block_lt_of_cell? _ _ d5
                obtain ⟨lc5, lf5⟩ := HM5.out.1.1 j hj
                have zg5 : g < w5.heap.size := World.block_lt_of_cell? _ _ lc5
                clear hq
                go_wp2_with (at_builtin; refine wpList_append_own _ rfl (.tmp 57) (.tmp 60) 22 rfl (w.heap.size + 1) 3 i3 (.int .i64 0) 1 8 Tryd.underlying22 HI.out.1 HI.out.2.1 HI.out.2.2.1 HI.out.2.2.2 rfl (by decide) (.slice (some ⟨sb, 0, none⟩) (R ++ Y).length sc) (R ++ Y).length (rowN (R ++ Y)) rfl ?own ⟨w5.heap.size, 0, none⟩ 1 1 [.int .i64 (j : Int)] rfl rfl ?c1 ?c2 ?b1 ?b2 ?b3 ?grow)
                case own =>
                  try rw [← List.length_append]
                  exact (HM5.out.1.2.1.kept (grown_cell _ g j _) (by
                    cases hu : (Value.slice (some ⟨sb, 0, none⟩) (R ++ Y).length sc).ownBlock with
                    | none => exact Or.inl rfl
                    | some q =>
                      refine Or.inr (fun e1 => ?_)
                      have := (HM5.out.1.2.1.lt q hu).1
                      simp at e1
                      omega)).alloc _
                case c1 => exact cell_one _ (by simp [go_sem])
                case c2 => exact one_cell _
                case b1 =>
                  unfold maxLen
                  first | omega | (rw [List.length_append] at hlen; omega)
                case b2 => first | omega | (rw [List.length_append] at hlen; omega)
                case b3 =>
                  have := HM5.out.1.2.2.2.2
                  simp
                  omega
                case grow =>
                  intro v' w3 hown hgrow _
                  rw [← List.length_append] at hown
                  try rw [← List.length_append] at hgrow
                  have HM3 : Hid (SpM wE w3 w g ad cc ra rk L part num (R ++ (Y ++ [j])) v') := by
                    have := HM5.out.1.more hgw hgE hj (bl_alloc (bl_refl _)) hgrow hown
                    rwa [List.append_assoc] at this
                  have HR3 : Hid (JW w3 (w.heap.size + 1) (some ⟨jb, 0, none⟩) J) := by
                    have h0 := HM5.out.2.grown (grown_cell w5 g j (.int .i64 num)) (fun g' hg' e1 => by
                      have h2 := (HM5.out.2.2 g' e1).1
                      simp at hg'
                      omega)
                    have h1 : JW w3 (w.heap.size + 1) (some ⟨jb, 0, none⟩) J := (h0.kept (bl_alloc (bl_refl _))).grown hgrow (HM5.out.2.not_row HM5.out.1.2.1)
                    exact h1
                  clear hown hgrow
                  go_wp2
                  go_roundg (J.length - (m + 1))
                  case measure => omega
                  case rel =>
                    have hsub : ∀ q ∈ R ++ Y, q ∈ R ++ (Y ++ [j]) := fun q hq => by
                      rw [← List.append_assoc]
                      exact List.mem_append_left _ hq
                    refine ⟨m + 1, Y ++ [j], by omega, rfl, by go_num, HF.out, fun m' h' hm' j' hj' hc' => ?_, HM3.out, HR3.out⟩
                    by_cases em : m' = m
                    · subst em
                      rw [← HQ.out] at hj'
                      simp only at hj'
                      have : j' = j := by omega
                      subst this
                      exact Or.inl (by simp)
                    · exact (HS3.out.2 m' h' (by omega) j' hj' hc').imp (hsub j') id
            · have hdone : Hid (j ∈ R ++ Y ∨ 0 ≤ part j) := by
                by_cases hh : j ∈ R ++ Y
                · exact Or.inl hh
                · exact Or.inr (by simp only [lab, if_neg hh] at hlt; omega)
              obtain ⟨lv, hlv⟩ : ∃ lv, lv = lab part num (R ++ Y) j := ⟨_, rfl⟩
              rw [← hlv] at lc hlt
              clear hlv
              go_wp2
              refine wp_named (fun W1 hW1 => ?_)
              have hbW : Below wr.heap.size wr W1 := by rw [hW1]; exact bl_alloc (bl_refl _)
              have d0 : W1.cell? ⟨wr.heap.size, 0, none⟩ = some (.int .i64 q0) := by rw [hW1]; simp [go_sem]
              have d1 : W1.cell? ⟨wr.heap.size, 1, none⟩ = some (.int .i64 q1) := by rw [hW1]; simp [go_sem]
              have d2 : W1.cell? ⟨wr.heap.size, 2, none⟩ = some (.int .i64 q2) := by rw [hW1]; simp [go_sem]
              have d3 : W1.cell? ⟨wr.heap.size, 3, none⟩ = some (.int .i64 q3) := by rw [hW1]; simp [go_sem]
              have d4 : W1.cell? ⟨wr.heap.size, 4, none⟩ = some (.int .i64 (j : Int)) := by rw [hW1]; simp [go_sem]
              have lc1 := cl_kept hbW lc
              have zn : wr.heap.size < W1.heap.size := World.block_lt_of_cell? _ _ d0
              have zg2 : g < W1.heap.size := World.block_lt_of_cell? _ _ lc1
              have HM1 : Hid (SpM wE W1 w g ad cc ra rk L part num (R ++ Y) vC ∧ JW W1 (w.heap.size + 1) (some ⟨jb, 0, none⟩) J) := ⟨HM.out.kept hbW, HR.out.kept hbW⟩
              have hqd : decide (lv < 0) = false := decide_eq_false (by omega)
              clear hW1 hbW c0 c1 c2 c3 c4 lc lf
              have kc := Kin.cells W1
              have kn : Nonempty (Kin W1) := ⟨⟨W1, bl_refl _⟩⟩
              refine wp_region_kin (by kernel_rfl) (by kernel_rfl) ?_
              repeat (go_big_quiet_step (fail))
              refine wpQuiet_nil ?_
              intro w5 hw'
              obtain ⟨nq, hw''⟩ := hw'
              have hq : Below W1.heap.size W1 w5 := hw'' ▸ nq.h
              clear hw'' nq kc kn
              have HM5 : Hid (SpM wE w5 w g ad cc ra rk L part num (R ++ Y) vC ∧ JW w5 (w.heap.size + 1) (some ⟨jb, 0, none⟩) J) := ⟨HM1.out.1.kept hq, HM1.out.2.kept hq⟩
              go_wp2
              go_roundg (J.length - (m + 1))
              case measure => omega
              case rel =>
                refine ⟨m + 1, Y, by omega, rfl, by go_num, HS3.out.1, fun m' h' hm' j' hj' hc' => ?_, HM5.out.1, HM5.out.2⟩
                by_cases em : m' = m
                · subst em
                  rw [← HQ.out] at hj'
                  simp only at hj'
                  have : j' = j := by omega
                  subst this
                  exact hdone.out
                · exact HS3.out.2 m' h' (by omega) j' hj' hc'
          · have im : ¬ (m : Int) < (J.length : Int) := by omega
            obtain rfl : m = J.length := by omega
            go_wp2
            go_roundg (L.length - (n + 1))
            case measure => omega
            case rel =>
              have hsub : ∀ q ∈ R, q ∈ R ++ Y := fun q hq => List.mem_append_left _ hq
              refine ⟨n + 1, R ++ Y, by rw [List.length_append]; omega, by omega, by go_num, HS3.out.1, fun m hm hmn hmL => ?_, HM.out⟩
              by_cases em : m = n
              · subst em
                have e1 : (R ++ Y)[m] = i := by rw [List.getElem_append_left h1]; exact HIE.out.symm
                simp only [e1]
                refine DoneT.joints (i := i) (List.mem_append_left _ HIR.out) (fun m' hm' j' hj' hc' => ?_)
                have h8 := HS3.out.2
                rw [HJ.out] at h8
                exact h8 m' hm' hm' j' hj' hc'
              · have hmR : m < R.length := by omega
                have e1 : (R ++ Y)[m] = R[m] := List.getElem_append_left hmR
                have h7 := (HSP.out.2 m hmR (by omega) (by rw [← e1]; exact hmL)).mono hsub
                simp only [e1]
                exact h7
    · have i1 : ¬ (n : Int) < (R.length : Int) := by omega
      clear hM hSp hD hrc
      go_wp2
      go_end0
      refine ⟨rfl, R, HSP.out.1, HM.out.1, fun i hi h => ?_, HM.out.2.2.1⟩
      obtain ⟨m, hm, he⟩ := List.getElem_of_mem hi
      subst he
      exact HSP.out.2 m hm (by omega) h
end Go.Proofs.YtehmoacggikfmaaDoor
