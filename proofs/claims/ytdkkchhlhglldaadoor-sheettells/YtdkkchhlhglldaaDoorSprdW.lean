/- The number of a part is spread over all that belong to it. -/
import Derived.Test.YtdkkchhlhglldaaDoorPkeW
import Derived.Test.YtdkkchhlhglldaaDoorOfppW
namespace Go.Proofs.YtdkkchhlhglldaaDoor
open Go.RowKit Go.ChangeMaps

/-- A list of places as numbers in memory. -/
def rowN (R : List Nat) : List Value := R.map fun (i : Nat) => Value.int .i64 (i : Int)
/-- What the search keeps in memory: the labels, the list of what was found, the paper's box. -/
def SpM (wE wx w : World) (g : Nat) (ad : Option Addr) (cc ra rk : Nat) (L : List (Int × Int × Int)) (part : Nat → Int) (num : Int) (R : List Nat) (v : Value) : Prop :=
  ZRow wx g L.length (lab part num R) ∧ wx.ownsRow (w.heap.size + 1) 3 1 v R.length (rowN R) ∧ Below wE.heap.size wE wx ∧ (wx.cell? ⟨w.heap.size, 0, none⟩ = some (.slice ad L.length cc) ∧ wx.cell? ⟨w.heap.size, 1, none⟩ = some (.map (some ra)) ∧ wx.cell? ⟨w.heap.size, 2, none⟩ = some (.map (some rk))) ∧ w.heap.size + 1 ≤ wx.heap.size
theorem SpM.kept {wE wx w w' : World} {g cc ra rk : Nat} {ad : Option Addr} {L : List (Int × Int × Int)} {part : Nat → Int} {num : Int} {R : List Nat} {v : Value} (h : SpM wE wx w g ad cc ra rk L part num R v) (hb : Below wx.heap.size wx w') : SpM wE w' w g ad cc ra rk L part num R v :=
  ⟨h.1.kept hb, own_below h.2.1 hb, bl_via h.2.2.1 hb, ⟨cl_kept hb h.2.2.2.1.1, cl_kept hb h.2.2.2.1.2.1, cl_kept hb h.2.2.2.1.2.2⟩, Nat.le_trans h.2.2.2.2 hb.size⟩
theorem rowN_at (R : List Nat) (i : Nat) (h : i < R.length) : (rowN R)[i]? = some (.int .i64 ((R[i] : Nat) : Int)) := by simp [rowN, h]
theorem SpM.slice {wE wx w : World} {g cc ra rk : Nat} {ad : Option Addr} {L : List (Int × Int × Int)} {part : Nat → Int} {num : Int} {R : List Nat} {v : Value} (h : SpM wE wx w g ad cc ra rk L part num R v) (hn : 0 < R.length) : ∃ b cap, v = .slice (some ⟨b, 0, none⟩) R.length cap ∧ w.heap.size + 1 ≤ b ∧ ∀ i (hi : i < R.length), wx.cell? ⟨b, i, none⟩ = some (.int .i64 ((R[i] : Nat) : Int)) := by
  rcases h.2.1.2 with ⟨_, h0⟩ | ⟨b, cap, cur, hv, h2, h3⟩
  · omega
  · refine ⟨b, cap, hv, h2, fun i hi => ?_⟩
    subst hv
    have := h.2.1.cellAt i (by omega)
    rw [this, rowN_at R i hi]

/-- A label is written, and its place put on the list. -/
theorem SpM.more {wE wx w w2 w3 : World} {g cc ra rk j : Nat} {ad : Option Addr} {L : List (Int × Int × Int)} {part : Nat → Int} {num : Int} {R : List Nat} {v v' : Value} (h : SpM wE wx w g ad cc ra rk L part num R v) (hgw : g < w.heap.size) (hgE : wE.heap.size ≤ g) (hj : j < L.length)
    (hb : Below (wx.setCell ⟨g, j, none⟩ (.int .i64 num)).heap.size (wx.setCell ⟨g, j, none⟩ (.int .i64 num)) w2) (hg : w2.grownBy w3 v.ownBlock) (hown : w3.ownsRow (w.heap.size + 1) 3 1 v' (R.length + 1) (rowN R ++ [.int .i64 (j : Int)])) :
    SpM wE w3 w g ad cc ra rk L part num (R ++ [j]) v' := by
  obtain ⟨h1, h2, h3, ⟨p0, p1, p2⟩, h5⟩ := h
  have hrow : ∀ k, v.ownBlock = some k → w.heap.size + 1 ≤ k := fun k hk => (h2.lt k hk).1
  have hgv : some g ≠ v.ownBlock := fun e => by
    have := hrow g e.symm
    omega
  have hbv : some w.heap.size ≠ v.ownBlock := fun e => by
    have := hrow _ e.symm
    omega
  have z1 := ((h1.set num hj).kept hb).grown hg hgv
  have q : ∀ {o : Nat} {u : Value}, wx.cell? ⟨w.heap.size, o, none⟩ = some u → w3.cell? ⟨w.heap.size, o, none⟩ = some u := fun {o u} hu => by
    refine hg.cell (cl_kept hb ?_) hbv
    rw [World.cell?_setCell_other _ _ _ _ (by simp <;> omega)]
    exact hu
  refine ⟨?_, ?_, ?_, ⟨q p0, q p1, q p2⟩, ?_⟩
  · rw [lab_found]
    exact z1
  · rw [List.length_append, List.length_singleton]
    have : rowN (R ++ [j]) = rowN R ++ [.int .i64 (j : Int)] := by simp [rowN]
    rw [this]
    exact hown
  · have k1 : Below wE.heap.size wE (wx.setCell ⟨g, j, none⟩ (.int .i64 num)) := h3.setCell hgE _
    have k2 := k1.trans (hb.mono k1.size)
    have := h3.size
    exact k2.grown hg k2.size (fun k hk => by
      have := hrow k hk
      have := World.block_lt_of_cell? _ _ p0
      omega)
  · have q1 := hb.size
    have q2 := hg.size
    rw [World.size_setCell] at q1
    omega

theorem joined1_any (a b c d : Int) (w : World) : Calls Tryd.prog 105 #[.agg #[.int .i64 a, .int .i64 b, .int .i64 c, .int .i64 d]] w fun e w' => e = .returned (.bool true) ∧ Below w.heap.size w w' := by
  go_enter Tryd.func105, Tryd.ntmps105
  go_wp2
  go_ret
  exact ⟨rfl, bl_alloc (bl_refl _)⟩
theorem owns_one (w : World) (base : Nat) (v : Value) (h : base ≤ w.heap.size) : (w.alloc (.cells #[v] 3)).ownsRow base 3 1 (.slice (some ⟨w.heap.size, 0, none⟩) 1 1) 1 [v] :=
  ⟨by simp, .inr ⟨w.heap.size, 1, #[v], rfl, h, heap_alloc_new w _, Nat.le_refl _, by unfold maxLen; omega, by simp, by simp⟩⟩

set_option maxRecDepth 100000 in
set_option maxHeartbeats 6400000 in
theorem spread_105 (wE w : World) (g cc ra rk f : Nat) (ad : Option Addr) (L : List (Int × Int × Int)) (part : Nat → Int) (num : Int) (hs : Steps wE) (hPA : PA wE ad ra L) (hB : Below wE.heap.size wE w) (hgE : wE.heap.size ≤ g) (hZ : ZRow w g L.length part) (hf : f < L.length) (hp : part f < 0) (hnum : 0 ≤ num ∧ num ≤ 1000) (hL : L.length ≤ 300) (hnd : L.Nodup) (hbd : ∀ t ∈ L, (0 ≤ t.1 ∧ t.1 ≤ 8) ∧ (0 ≤ t.2.1 ∧ t.2.1 ≤ 8) ∧ (0 ≤ t.2.2 ∧ t.2.2 ≤ 3)) :
    Calls Tryd.prog 115 #[.agg #[.slice ad L.length cc, .map (some ra), .map (some rk)], .slice (some ⟨g, 0, none⟩) L.length L.length, .int .i64 (f : Int), .int .i64 num, (.func (.func 105) #[] #[])] w fun e w' => e = .returned (.tuple #[]) ∧ ∃ R, Sp (fun _ => true) L part f R ∧ ZRow w' g L.length (lab part num R) ∧ (∀ i ∈ R, ∀ h : i < L.length, DoneT (fun _ => true) L part R L[i] 3) ∧ Below wE.heap.size wE w' := by
  have HST : Hid (Steps wE) := hs
  have HPA : Hid (PA wE ad ra L) := hPA
  have HBD : Hid (∀ t ∈ L, (0 ≤ t.1 ∧ t.1 ≤ 8) ∧ (0 ≤ t.2.1 ∧ t.2.1 ≤ 8) ∧ (0 ≤ t.2.2 ∧ t.2.2 ≤ 3)) := hbd
  have HND : Hid (L.Nodup) := hnd
  obtain ⟨z0, zf⟩ := hZ f hf
  have hgw : g < w.heap.size := World.block_lt_of_cell? _ _ z0
  have HZ : Hid (ZRow w g L.length part ∧ Below wE.heap.size wE w) := ⟨hZ, hB⟩
  have HS0 : Hid (Sp (fun _ => true) L part f [f]) := ⟨by simp, by simp, fun i hi => by
    simp at hi
    subst hi
    exact ⟨hf, hp, hf, .here (List.getElem_mem hf)⟩⟩
  obtain ⟨i3, hi3, hz30, hz31, hz32⟩ := info_parts inf3
  have HI : Hid (Tryd.prog.info? 3 = some i3 ∧ i3.zero = some (.int .i64 0) ∧ i3.size = 1 ∧ i3.bytes = 8) := ⟨hi3, hz30, hz31, hz32⟩
  obtain ⟨n0, n1⟩ := hnum
  have if1 : (f : Int) < (L.length : Int) := by omega
  have if0 : (0 : Int) ≤ (f : Int) := by omega
  clear hs hPA hbd hnd hZ hB hi3 hz30 hz31 hz32 hp
  go_enter Tryd.func115, Tryd.ntmps115
  go_wp2
  go_loopg [10, 11] L.length (fun gk s10 s11 wx => ∃ (n : Nat) (R : List Nat), n ≤ R.length ∧ L.length - n ≤ gk ∧ s11 = .int .i64 (n : Int) ∧ Sp (fun _ => true) L part f R ∧ (∀ m (hm : m < R.length), m < n → ∀ h : R[m] < L.length, DoneT (fun _ => true) L part R L[R[m]] 3) ∧ SpM wE wx w g ad cc ra rk L part num R s10)
  case atStart =>
    refine ⟨0, [f], by simp, by omega, rfl, HS0.out, fun m _ h => by omega, ?_⟩
    refine ⟨?_, ?_, ?_, ⟨?_, ?_, ?_⟩, ?_⟩
    · have hz := (HZ.out.1.set num hf).kept (bl_alloc (o := .cells #[.int .i64 (f : Int)] 3) (bl_alloc (o := .cells #[.slice ad L.length cc, .map (some ra), .map (some rk)] 106) (bl_refl _)))
      have e : lab part num [f] = fun j => if j = f then num else part j := by
        funext j
        simp [lab]
      rw [e]
      exact hz
    · have := owns_one ((w.setCell ⟨g, f, none⟩ (.int .i64 num)).alloc (.cells #[.slice ad L.length cc, .map (some ra), .map (some rk)] 106)) (w.heap.size + 1) (.int .i64 (f : Int)) (by simp)
      simpa [rowN] using this
    · have hb0 : Below wE.heap.size wE (w.setCell ⟨g, f, none⟩ (.int .i64 num)) := HZ.out.2.setCell (p := ⟨g, f, none⟩) hgE _
      exact bl_alloc (bl_alloc hb0)
    · simp [go_sem]
    · simp [go_sem]
    · simp [go_sem]
    · simp
  case round =>
    clear HS0 HZ z0 zf
    obtain ⟨n, R, hn, hgk, rfl, hSp, hD, hM⟩ := hrel
    obtain ⟨vA, hvA⟩ : ∃ u, u = u10 := ⟨_, rfl⟩
    subst hvA
    have hRp : 0 < R.length := List.length_pos_of_mem hSp.1
    obtain ⟨rb, rc, rfl, hrb, hrc⟩ := hM.slice hRp
    have hRL := hSp.len
    have HSP : Hid (Sp (fun _ => true) L part f R ∧ ∀ m (hm : m < R.length), m < n → ∀ h : R[m] < L.length, DoneT (fun _ => true) L part R L[R[m]] 3) := ⟨hSp, hD⟩
    have HM : Hid (SpM wE wr w g ad cc ra rk L part num R (.slice (some ⟨rb, 0, none⟩) R.length rc)) := hM
    obtain ⟨p0, p1, p2⟩ := hM.2.2.2.1
    have zp : w.heap.size < wr.heap.size := World.block_lt_of_cell? _ _ p0
    by_cases h1 : n < R.length
    · have rcn := hrc n h1
      have zr : rb < wr.heap.size := World.block_lt_of_cell? _ _ rcn
      have hRn : R[n] ∈ R := List.getElem_mem h1
      obtain ⟨hi, _⟩ := hSp.2.2 R[n] hRn
      obtain ⟨i, hie⟩ : ∃ i, i = R[n] := ⟨_, rfl⟩
      rw [← hie] at rcn hi
      have HIE : Hid (i = R[n]) := hie
      have HIR : Hid (i ∈ R) := by rw [hie]; exact hRn
      have hbd := HBD.out _ (List.getElem_mem hi)
      obtain ⟨tg, rfl, t0, t1, t2⟩ := (HPA.out.1.kept hM.2.2.1) i hi
      have zt : tg < wr.heap.size := World.block_lt_of_cell? _ _ t0
      obtain ⟨t, ht⟩ : ∃ t, t = L[i] := ⟨_, rfl⟩
      obtain ⟨x, y, k⟩ := t
      rw [← ht] at t0 t1 t2 hbd
      dsimp only at t0 t1 t2 hbd
      have HT : Hid ((x, y, k) = L[i]) := ht
      have htri : triB x y k = true := by simp [triB]; omega
      have HKD : Hid (Kd (x, y, k)) := ⟨hbd.2.2.1, hbd.2.2.2⟩
      clear hSp hD hM hrc hie hRn ht hbd
      have i1 : (n : Int) < (R.length : Int) := by omega
      have i0 : (0 : Int) ≤ (n : Int) := by omega
      have j1 : (i : Int) < (L.length : Int) := by omega
      have j0 : (0 : Int) ≤ (i : Int) := by omega
      have kc := Kin.cells wr
      have kn : Nonempty (Kin wr) := ⟨⟨wr, bl_refl _⟩⟩
      have HTRI : Hid (triB x y k = true) := htri
      clear htri
      go_wp2
      refine wp_region_kin (by kernel_rfl) (by kernel_rfl) ?_
      repeat (go_big_quiet_step ((go_at_call 113; exact kin_of (paperEdges_any _ _ _ _ HTRI.out (HST.out.kept (bl_via HM.out.2.2.1 (Kin.h _)))))))
      refine wpQuiet_nil ?_
      intro wq hw'
      obtain ⟨nq, hw''⟩ := hw'
      have hq : Below wr.heap.size wr wq := hw'' ▸ nq.h
      have HMQ : Hid (SpM wE wq w g (some ⟨tg, 0, none⟩) cc ra rk L part num R (.slice (some ⟨rb, 0, none⟩) R.length rc)) := HM.out.kept hq
      clear hw'' nq hq kc kn t0 t1 t2 zt rcn zr p0 p1 p2 zp hrb
      go_wp2
      go_loopg [10, 37] 3 (fun gk s10 s37 wx => ∃ (e : Nat) (X : List Nat), e ≤ 3 ∧ gk = 3 - e ∧ s37 = .int .i64 (e : Int) ∧ Sp (fun _ => true) L part f (R ++ X) ∧ DoneT (fun _ => true) L part (R ++ X) (x, y, k) e ∧ SpM wE wx w g (some ⟨tg, 0, none⟩) cc ra rk L part num (R ++ X) s10)
      case atStart => exact ⟨0, [], by omega, rfl, rfl, by simpa using HSP.out.1, fun k' h => by omega, by simpa using HMQ.out⟩
      case round =>
        clear HM HMQ
        obtain ⟨e, X, he, rfl, rfl, hSp, hD, hM⟩ := hrel
        obtain ⟨vB, hvB⟩ : ∃ u, u = u10 := ⟨_, rfl⟩
        subst hvB
        have HS2 : Hid (Sp (fun _ => true) L part f (R ++ X) ∧ DoneT (fun _ => true) L part (R ++ X) (x, y, k) e) := ⟨hSp, hD⟩
        have HM : Hid (SpM wE wr w g (some ⟨tg, 0, none⟩) cc ra rk L part num (R ++ X) vB) := hM
        obtain ⟨p0, p1, p2⟩ := hM.2.2.2.1
        have zp : w.heap.size < wr.heap.size := World.block_lt_of_cell? _ _ p0
        have zp1 : w.heap.size < wr.heap.size + 1 := by omega
        clear hSp hD hM
        by_cases he1 : e < 3
        · have ie : (e : Int) < 3 := by omega
          obtain ⟨q0, q1, q2, q3, hq⟩ : ∃ q0 q1 q2 q3, edg (x, y, k) e = (q0, q1, q2, q3) := ⟨_, _, _, _, rfl⟩
          have hx : (Instr.index 32 (.agg #[.int .i64 (ue0 x y k), .int .i64 (ue1 x y k), .int .i64 (ue2 x y k), .int .i64 (ue3 x y k), .int .i64 (ue4 x y k), .int .i64 (ue5 x y k), .int .i64 (ue6 x y k), .int .i64 (ue7 x y k), .int .i64 (ue8 x y k), .int .i64 (ue9 x y k), .int .i64 (ue10 x y k), .int .i64 (ue11 x y k)]) (.int .i64 (e : Int))).run Tryd.prog wr = .ok (.agg #[.int .i64 q0, .int .i64 q1, .int .i64 q2, .int .i64 q3]) wr := by
            obtain ⟨a0, a1, a2⟩ := idx32 (ue0 x y k) (ue1 x y k) (ue2 x y k) (ue3 x y k) (ue4 x y k) (ue5 x y k) (ue6 x y k) (ue7 x y k) (ue8 x y k) (ue9 x y k) (ue10 x y k) (ue11 x y k) wr
            have h3 : e = 0 ∨ e = 1 ∨ e = 2 := by omega
            rcases h3 with rfl | rfl | rfl
            · simp only [edg, if_true, Prod.mk.injEq] at hq
              obtain ⟨rfl, rfl, rfl, rfl⟩ := hq
              exact a0
            · simp only [edg, if_true, if_false, Nat.one_ne_zero, Prod.mk.injEq] at hq
              obtain ⟨rfl, rfl, rfl, rfl⟩ := hq
              exact a1
            · simp only [edg, if_false, show ¬ (2 : Nat) = 0 by omega, show ¬ (2 : Nat) = 1 by omega, Prod.mk.injEq] at hq
              obtain ⟨rfl, rfl, rfl, rfl⟩ := hq
              exact a2
          have HQ : Hid (edg (x, y, k) e = (q0, q1, q2, q3)) := hq
          clear hq
          obtain ⟨ga, gc, hgr, hlook⟩ := HPA.out.2 (q0, q1, q2, q3)
          have HGR : Hid (Row wE ga (gix L (q0, q1, q2, q3))) := hgr
          have HLK : Hid (∀ wx : World, Below wE.heap.size wE wx → (Instr.lookup 103 (.map (some ra)) (.agg #[.int .i64 q0, .int .i64 q1, .int .i64 q2, .int .i64 q3]) false).run Tryd.prog wx = .ok (.slice ga (gix L (q0, q1, q2, q3)).length gc) wx) := hlook
          clear hgr hlook
          have HCE : Hid ((fun _ : Int × Int × Int × Int => true) (q0, q1, q2, q3) = true) := rfl
          go_wp2_with (go_at_call 105; refine (joined1_any _ _ _ _ _).mono ?_; rintro e5 w5 ⟨rfl, hb5⟩; have hB5 : Below wr.heap.size wr w5 := bl_via (bl_alloc (bl_refl _)) hb5; have HM2 : Hid (SpM wE w5 w g (some ⟨tg, 0, none⟩) cc ra rk L part num (R ++ X) vB) := HM.out.kept hB5; have r1 : w5.cell? ⟨w.heap.size, 1, none⟩ = some (.map (some ra)) := HM2.out.2.2.2.1.2.1; have d0 : w5.cell? ⟨wr.heap.size, 0, none⟩ = some (.int .i64 q0) := cl_kept hb5 (by simp [go_sem]); have d1 : w5.cell? ⟨wr.heap.size, 1, none⟩ = some (.int .i64 q1) := cl_kept hb5 (by simp [go_sem]); have d2 : w5.cell? ⟨wr.heap.size, 2, none⟩ = some (.int .i64 q2) := cl_kept hb5 (by simp [go_sem]); have d3 : w5.cell? ⟨wr.heap.size, 3, none⟩ = some (.int .i64 q3) := cl_kept hb5 (by simp [go_sem]); have lk5 := HLK.out w5 HM2.out.2.2.1; clear hb5 hB5)
          obtain ⟨G, hG⟩ : ∃ G, G = gix L (q0, q1, q2, q3) := ⟨_, rfl⟩
          have HG : Hid (G = gix L (q0, q1, q2, q3)) := hG
          rw [← hG] at HGR
          have hGl : G.length ≤ 300 := by rw [hG]; exact Nat.le_trans (gix_len _ _) hL
          rw [← hG]
          clear hG HLK
          go_loopg [10, 49] G.length (fun gk s10 s49 wx => ∃ (m : Nat) (Y : List Nat), m ≤ G.length ∧ gk = G.length - m ∧ s49 = .int .i64 (m : Int) ∧ Sp (fun _ => true) L part f (R ++ Y) ∧ DoneT (fun _ => true) L part (R ++ Y) (x, y, k) e ∧ (∀ m' (h : m' < G.length), m' < m → ∀ j : Nat, G[m'] = (j : Int) → j ∈ R ++ Y ∨ 0 ≤ part j) ∧ SpM wE wx w g (some ⟨tg, 0, none⟩) cc ra rk L part num (R ++ Y) s10)
          case atStart => exact ⟨0, X, by omega, rfl, rfl, HS2.out.1, HS2.out.2, fun m' _ h => by omega, HM2.out⟩
          case round =>
            clear HM HM2 HS2
            obtain ⟨m, Y, hm, rfl, rfl, hSp, hD, hE, hM⟩ := hrel
            obtain ⟨vC, hvC⟩ : ∃ u, u = u10 := ⟨_, rfl⟩
            subst hvC
            have HS3 : Hid (Sp (fun _ => true) L part f (R ++ Y) ∧ DoneT (fun _ => true) L part (R ++ Y) (x, y, k) e ∧ (∀ m' (h : m' < G.length), m' < m → ∀ j : Nat, G[m'] = (j : Int) → j ∈ R ++ Y ∨ 0 ≤ part j)) := ⟨hSp, hD, hE⟩
            have HM : Hid (SpM wE wr w g (some ⟨tg, 0, none⟩) cc ra rk L part num (R ++ Y) vC) := hM
            clear hSp hD hE hM
            by_cases hm1 : m < G.length
            · have im : (m : Int) < (G.length : Int) := by omega
              have im0 : (0 : Int) ≤ (m : Int) := by omega
              obtain ⟨gb, go, rfl, gcell⟩ := (HGR.out.kept HM.out.2.2.1) m hm1
              have zgb : gb < wr.heap.size := World.block_lt_of_cell? _ _ gcell
              have hmem : G[m] ∈ gix L (q0, q1, q2, q3) := by rw [← HG.out]; exact List.getElem_mem hm1
              obtain ⟨j, hj, hje, hjt⟩ := gix_mem.1 hmem
              have HJ : Hid (G[m] = (j : Int) ∧ hasT L[j] (q0, q1, q2, q3) = true) := ⟨hje, hjt⟩
              rw [hje] at gcell
              obtain ⟨lc, lf⟩ := HM.out.1 j hj
              have zg : g < wr.heap.size := World.block_lt_of_cell? _ _ lc
              have ij : (j : Int) < (L.length : Int) := by omega
              have ij0 : (0 : Int) ≤ (j : Int) := by omega
              clear hmem hje hjt
              by_cases hlt : lab part num (R ++ Y) j < 0
              · have hjR : j ∉ R ++ Y := fun hh => by
                  simp only [lab, if_pos hh] at hlt
                  omega
                have hpj : part j < 0 := by simpa [lab, hjR] using hlt
                have HF : Hid (Sp (fun _ => true) L part f (R ++ (Y ++ [j]))) := by
                  have := HS3.out.1.found HND.out (i := i) (j := j) (List.mem_append_left _ HIR.out) hj hjR hpj (e := (q0, q1, q2, q3)) (by first | rfl | exact HCE.out) (fun hi' => by
                    have h5 := edg_own (x, y, k) e
                    rw [HQ.out, HT.out] at h5
                    exact h5) HJ.out.2
                  rwa [List.append_assoc] at this
                have hlen : (R ++ Y).length + 1 ≤ 1000 := by
                  have := HS3.out.1.len
                  omega
                have hwz := HM.out.2.2.2.2
                obtain ⟨lv, hlv⟩ : ∃ lv, lv = lab part num (R ++ Y) j := ⟨_, rfl⟩
                rw [← hlv] at lc hlt
                clear hlv
                go_wp2_with (at_builtin; refine wpList_append_own _ rfl (.tmp 62) (.tmp 64) 70 rfl (w.heap.size + 1) 3 i3 (.int .i64 0) 1 8 Tryd.underlying70 HI.out.1 HI.out.2.1 HI.out.2.2.1 HI.out.2.2.2 rfl (by decide) vC (R ++ Y).length (rowN (R ++ Y)) rfl ?own ⟨wr.heap.size, 0, none⟩ 1 1 [.int .i64 (j : Int)] rfl rfl ?c1 ?c2 ?b1 ?b2 ?b3 ?grow)
                case own =>
                  rw [← List.length_append]
                  exact (HM.out.2.1.kept (grown_cell _ g j _) (by
                    cases hu : vC.ownBlock with
                    | none => exact Or.inl rfl
                    | some q =>
                      refine Or.inr (fun e1 => ?_)
                      have := (HM.out.2.1.lt q hu).1
                      simp at e1
                      omega)).alloc _
                case c2 => rfl
                case b1 =>
                  rw [List.length_append] at hlen
                  unfold maxLen
                  omega
                case b2 =>
                  rw [List.length_append] at hlen
                  omega
                case b3 => omega
                case grow =>
                  intro v' w3 hown hgrow _
                  rw [← List.length_append] at hown
                  have HM3 : Hid (SpM wE w3 w g (some ⟨tg, 0, none⟩) cc ra rk L part num (R ++ (Y ++ [j])) v') := by
                    have := HM.out.more hgw hgE hj (bl_alloc (bl_refl _)) hgrow hown
                    rwa [List.append_assoc] at this
                  clear hown hgrow
                  go_wp2
                  go_roundg (G.length - (m + 1))
                  case measure => omega
                  case rel =>
                    have hsub : ∀ q ∈ R ++ Y, q ∈ R ++ (Y ++ [j]) := fun q hq => by
                      rw [← List.append_assoc]
                      exact List.mem_append_left _ hq
                    refine ⟨m + 1, Y ++ [j], by omega, rfl, by go_num, HF.out, HS3.out.2.1.mono hsub, fun m' h' hm' j' hj' => ?_, HM3.out⟩
                    by_cases em : m' = m
                    · subst em
                      have : j' = j := by
                        have := hj'.symm.trans HJ.out.1
                        omega
                      subst this
                      exact Or.inl (by simp)
                    · exact (HS3.out.2.2 m' h' (by omega) j' hj').imp (hsub j') id
              · have hdone : Hid (j ∈ R ++ Y ∨ 0 ≤ part j) := by
                  by_cases hh : j ∈ R ++ Y
                  · exact Or.inl hh
                  · exact Or.inr (by simp only [lab, if_neg hh] at hlt; omega)
                obtain ⟨lv, hlv⟩ : ∃ lv, lv = lab part num (R ++ Y) j := ⟨_, rfl⟩
                rw [← hlv] at lc hlt
                clear hlv
                go_wp2
                go_roundg (G.length - (m + 1))
                case measure => omega
                case rel =>
                  refine ⟨m + 1, Y, by omega, rfl, by go_num, HS3.out.1, HS3.out.2.1, fun m' h' hm' j' hj' => ?_, HM.out⟩
                  by_cases em : m' = m
                  · subst em
                    have : j' = j := by
                      have := hj'.symm.trans HJ.out.1
                      omega
                    subst this
                    exact hdone.out
                  · exact HS3.out.2.2 m' h' (by omega) j' hj'
            · have im : ¬ (m : Int) < (G.length : Int) := by omega
              go_wp2
              go_roundg (3 - (e + 1))
              case measure => omega
              case rel =>
                refine ⟨e + 1, Y, by omega, rfl, by go_num, HS3.out.1, HS3.out.2.1.step (fun _ j hj ht => ?_), HM.out⟩
                rw [HQ.out] at ht
                have hmem : (j : Int) ∈ gix L (q0, q1, q2, q3) := gix_mem.2 ⟨j, hj, rfl, ht⟩
                rw [← HG.out] at hmem
                obtain ⟨m', hm', hg'⟩ := List.getElem_of_mem hmem
                exact HS3.out.2.2 m' hm' (by omega) j hg'
        · have ie : ¬ (e : Int) < 3 := by omega
          obtain rfl : e = 3 := by omega
          go_wp2
          go_roundg (L.length - (n + 1))
          case measure => omega
          case rel =>
            have hsub : ∀ q ∈ R, q ∈ R ++ X := fun q hq => List.mem_append_left _ hq
            refine ⟨n + 1, R ++ X, by rw [List.length_append]; omega, by omega, by go_num, HS2.out.1, fun m hm hmn hmL => ?_, HM.out⟩
            by_cases em : m = n
            · subst em
              have e1 : (R ++ X)[m] = i := by rw [List.getElem_append_left h1]; exact HIE.out.symm
              have e2 : L[(R ++ X)[m]] = (x, y, k) := by
                simp only [e1]
                exact HT.out.symm
              rw [e2]
              exact HS2.out.2
            · have hmR : m < R.length := by omega
              have e1 : (R ++ X)[m] = R[m] := List.getElem_append_left hmR
              have h7 := (HSP.out.2 m hmR (by omega) (by rw [← e1]; exact hmL)).mono hsub
              simp only [e1]
              exact h7
    · have i1 : ¬ (n : Int) < (R.length : Int) := by omega
      clear hM hSp hD hrc
      go_wp2
      go_end0
      refine ⟨rfl, R, HSP.out.1, HM.out.1, fun i hi h => ?_, HM.out.2.2.1⟩
      obtain ⟨m, hm, he⟩ := List.getElem_of_mem hi
      subst he
      exact HSP.out.2 m hm (by omega) h
end Go.Proofs.YtdkkchhlhglldaaDoor
