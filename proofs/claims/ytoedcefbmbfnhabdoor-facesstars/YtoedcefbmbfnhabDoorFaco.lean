/- Faces: the code's way. -/
import Derived.Test.YtoedcefbmbfnhabDoorFacm
import Derived.Maps.AppendAt
namespace Go.Proofs.YtoedcefbmbfnhabDoor
open Go.RowKit

theorem infS : (Tryd.prog.info? 37).map (fun i => (i.zero, i.size, i.bytes)) = some (some (.slice none 0 0), 1, 24) := by kernel_rfl
theorem infT : (Tryd.prog.info? 79).map (fun i => (i.zero, i.size, i.bytes)) = some (some (.agg #[.int .i64 0, .int .i64 0, .int .i64 0]), 3, 24) := by kernel_rfl
/-- What is known while the lists grow. -/
def FW (w1 wx : World) (v : Value) (F : List (List (Int × Int × Int))) : Prop := Nest wx w1.heap.size v F ∧ Below w1.heap.size w1 wx
theorem FW.kept {w1 wx w' : World} {v : Value} {F : List (List (Int × Int × Int))} (h : FW w1 wx v F) (hb : Below wx.heap.size wx w') : FW w1 w' v F := by
  obtain ⟨⟨vs, h1⟩, h2⟩ := h
  exact ⟨⟨vs, h1.kept hb⟩, bl_via h2 hb⟩
theorem wp_append_run {P : Program} {o : Oper} {a : Act} {w : World} {K : Act → World → Prop} {Q : Exit → Act → World → Prop} (s x : Operand) (t : TypeId) (ho : o.op = .call { callee := .builtin .append, args := #[s, x], argTypes := #[t, t] }) (vs vx v' : Value) (w' : World) (hs : a.eval s = vs) (hx : a.eval x = vx) (hr : (Builtin.append_ #[t, t] o.type #[vs, vx]).run P w = .ok v' w') (hK : K (a.put o.dst v') w') : Oper.wp P o a w K Q := by
  unfold Oper.wp execOp
  simp only [ho, resolve, invoke, builtin, Sem.run_bind, Sem.run_pure, Result.andThen_ok, List.map_toArray, List.map_cons, List.map_nil, hs, hx, hr]
  exact hK
theorem Nest.mono {w : World} {base base' : Nat} {v : Value} {F : List (List (Int × Int × Int))} (h : Nest w base v F) (hb : base' ≤ base) : Nest w base' v F := by
  have le : ∀ {e : TypeId} {size n : Nat} {v : Value} {xs : List Value}, w.ownsRow base e size v n xs → w.ownsRow base' e size v n xs := fun h => by
    refine ⟨h.1, h.2.imp id ?_⟩
    rintro ⟨g, cap, cur, h1, h2, h3⟩
    exact ⟨g, cap, cur, h1, Nat.le_trans hb h2, h3⟩
  obtain ⟨vs, h1, h2, h3, h4⟩ := h
  exact ⟨vs, h1, le h2, fun n q1 q2 => le (h3 n q1 q2), h4⟩
theorem own_form {w : World} {base size n : Nat} {e : TypeId} {v : Value} {xs : List Value} (h : w.ownsRow base e size v n xs) : ∃ a cap, v = .slice a n cap ∧ (0 < n → ∃ g, a = some ⟨g, 0, none⟩) := by
  rcases h.2 with ⟨rfl, rfl⟩ | ⟨g, cap, cur, rfl, _⟩
  · exact ⟨none, 0, rfl, fun h => by omega⟩
  · exact ⟨_, cap, rfl, fun _ => ⟨g, rfl⟩⟩

set_option maxRecDepth 100000 in
set_option maxHeartbeats 3200000 in
theorem pfaces_any (w : World) (cc ra rk : Nat) (ad : Option Addr) (L : List (Int × Int × Int)) (kd : Int × Int × Int × Int → Int) (hs : Steps w) (hPA : PA w ad ra L) (hK : KL w rk kd) (hL : L.length ≤ 300) (hnd : L.Nodup) (hbd : ∀ t ∈ L, (0 ≤ t.1 ∧ t.1 ≤ 8) ∧ (0 ≤ t.2.1 ∧ t.2.1 ≤ 8) ∧ (0 ≤ t.2.2 ∧ t.2.2 ≤ 3)) :
    Calls Tryd.prog 52 #[.agg #[.slice ad L.length cc, .map (some ra), .map (some rk)]] w fun e w' => ∃ g part, e = .returned (.slice (some ⟨g, 0, none⟩) L.length L.length) ∧ ZRow w' g L.length part ∧ PartsOk (fun e => decide (kd e = 0)) L part ∧ w.heap.size ≤ g ∧ Below w.heap.size w w' := by
  have CP : Hid (∀ W' : World, Below w.heap.size w W' → W'.cell? ⟨w.heap.size, 0, none⟩ = some (.slice ad L.length cc) → W'.cell? ⟨w.heap.size, 1, none⟩ = some (.map (some ra)) → W'.cell? ⟨w.heap.size, 2, none⟩ = some (.map (some rk)) → Calls Tryd.prog 71 #[.agg #[.slice ad L.length cc, .map (some ra), .map (some rk)], .func (.func 76) #[] #[.pointer (some ⟨w.heap.size, 0, none⟩)]] W' fun e w' => ∃ g part, e = .returned (.slice (some ⟨g, 0, none⟩) L.length L.length) ∧ ZRow w' g L.length part ∧ PartsOk (fun e => decide (kd e = 0)) L part ∧ W'.heap.size ≤ g ∧ Below W'.heap.size W' w') := fun W' hW' p0 p1 p2 =>
    parts_faces W' cc ra rk ad L w.heap.size _ (hs.kept hW') (hPA.kept hW') hL hnd hbd (fun q0 q1 q2 q3 W2 h2 => facesCl_any W2 w.heap.size L.length cc ra rk ad kd q0 q1 q2 q3 (hK.kept (bl_via hW' h2)) (cl_kept h2 p0) (cl_kept h2 p1) (cl_kept h2 p2))
  clear hs hPA hK hnd hbd
  go_enter Tryd.func52, Tryd.ntmps52
  go_wp2_with (go_at_call 71; refine (CP.out _ (by with_reducible exact bl_alloc (bl_refl _)) (by simp [go_sem]) (by simp [go_sem]) (by simp [go_sem])).mono ?_; rintro e w1 ⟨g, part, rfl, hZ, hPO, hg, hb⟩; have HW : Hid (ZRow w1 g L.length part ∧ PartsOk (fun e => decide (kd e = 0)) L part ∧ w.heap.size ≤ g ∧ Below w.heap.size w w1) := ⟨hZ, hPO, Nat.le_trans (by simp) hg, bl_via (bl_alloc (bl_refl _)) hb⟩; clear hZ hPO hg hb)
  go_ret
  exact ⟨g, part, rfl, HW.out.1, HW.out.2.1, HW.out.2.2.1, HW.out.2.2.2⟩

set_option maxRecDepth 100000 in
set_option maxHeartbeats 12800000 in
theorem facesOf_any (w : World) (cc ra rk : Nat) (ad : Option Addr) (L : List (Int × Int × Int)) (kd : Int × Int × Int × Int → Int) (hs : Steps w) (hPA : PA w ad ra L) (hK : KL w rk kd) (hL : L.length ≤ 300) (hnd : L.Nodup) (hbd : ∀ t ∈ L, (0 ≤ t.1 ∧ t.1 ≤ 8) ∧ (0 ≤ t.2.1 ∧ t.2.1 ≤ 8) ∧ (0 ≤ t.2.2 ∧ t.2.2 ≤ 3)) :
    Calls Tryd.prog 22 #[.agg #[.slice ad L.length cc, .map (some ra), .map (some rk)]] w fun e w' => ∃ v part, e = .returned v ∧ PartsOk (fun e => decide (kd e = 0)) L part ∧ Nest w' w.heap.size v (fcs L part L.length) ∧ Below w.heap.size w w' := by
  have CP : Hid (∀ W' : World, Below w.heap.size w W' → Calls Tryd.prog 52 #[.agg #[.slice ad L.length cc, .map (some ra), .map (some rk)]] W' fun e w' => ∃ g part, e = .returned (.slice (some ⟨g, 0, none⟩) L.length L.length) ∧ ZRow w' g L.length part ∧ PartsOk (fun e => decide (kd e = 0)) L part ∧ W'.heap.size ≤ g ∧ Below W'.heap.size W' w') := fun W' hW' => pfaces_any W' cc ra rk ad L kd (hs.kept hW') (hPA.kept hW') (hK.kept hW') hL hnd hbd
  have HT : Hid (TRow w ad L) := hPA.1
  obtain ⟨iS, hi1, hz10, hz11, hz12⟩ := info_parts infS
  have HI1 : Hid (Tryd.prog.info? 37 = some iS ∧ iS.zero = some (.slice none 0 0) ∧ iS.size = 1 ∧ iS.bytes = 24) := ⟨hi1, hz10, hz11, hz12⟩
  obtain ⟨iT, hi2, hz20, hz21, hz22⟩ := info_parts infT
  have HI2 : Hid (Tryd.prog.info? 79 = some iT ∧ iT.zero = some (.agg #[.int .i64 0, .int .i64 0, .int .i64 0]) ∧ iT.size = 3 ∧ iT.bytes = 24) := ⟨hi2, hz20, hz21, hz22⟩
  clear hs hPA hK hnd hbd hi1 hz10 hz11 hz12 hi2 hz20 hz21 hz22
  go_enter Tryd.func22, Tryd.ntmps22
  go_wp2_with (go_at_call 52; refine (CP.out _ (by with_reducible exact bl_alloc (bl_refl _))).mono ?_; rintro e w1 ⟨g, part, rfl, hZ, hPO, hg, hb⟩; have HW : Hid (ZRow w1 g L.length part ∧ PartsOk (fun e => decide (kd e = 0)) L part ∧ Below w.heap.size w w1 ∧ w1.cell? ⟨w.heap.size, 0, none⟩ = some (.slice ad L.length cc) ∧ w.heap.size < w1.heap.size) := ⟨hZ, hPO, bl_via (bl_alloc (bl_refl _)) hb, cl_kept hb (by simp [go_sem]), Nat.lt_of_lt_of_le (by simp) hb.size⟩; clear hZ hPO hg hb)
  obtain ⟨pb, hpb⟩ : ∃ p, p = w.heap.size := ⟨_, rfl⟩
  have HPB : Hid (pb = w.heap.size) := hpb
  have HPC : Hid (w1.cell? ⟨pb, 0, none⟩ = some (.slice ad L.length cc)) := by
    have : w1.cell? ⟨pb, 0, none⟩ = some (.slice ad L.length cc) := by rw [hpb]; exact HW.out.2.2.2.1
    exact this
  rw [← hpb]
  clear hpb
  go_loopg [3, 9] L.length (fun gk s3 s9 wx => ∃ i : Nat, i ≤ L.length ∧ gk = L.length - i ∧ s9 = .int .i64 (i : Int) ∧ FW w1 wx s3 (fcs L part i))
  case atStart => exact ⟨0, by omega, rfl, rfl, nest_nil _ _, bl_refl _⟩
  case round =>
    obtain ⟨i, hi, rfl, rfl, hF⟩ := hrel
    obtain ⟨vA, hvA⟩ : ∃ u, u = u3 := ⟨_, rfl⟩
    subst hvA
    have HF : Hid (FW w1 wr vA (fcs L part i)) := hF
    clear hF
    by_cases h1 : i < L.length
    · have i1 : (i : Int) < (L.length : Int) := by omega
      have i0 : (0 : Int) ≤ (i : Int) := by omega
      have hnum := fcs_has L part HW.out.2.1.num i hi
      have hp0 := HW.out.2.1.1 i h1
      have hle := fcs_le L part i
      obtain ⟨p, hp⟩ : ∃ p : Nat, part i = (p : Int) := ⟨(part i).toNat, by omega⟩
      have hpF : p ≤ (fcs L part i).length := by have := hnum.2 h1; omega
      have HN : Hid (fcs L part (i + 1) = putF (fcs L part i) p L[i]) := by
        have : fcs L part (i + 1) = putF (fcs L part i) p L[i] := by
          rw [fcs, hp, List.getD_eq_getElem?_getD, List.getElem?_eq_getElem h1]
          rfl
        exact this
      have HRW : Hid (∀ f ∈ fcs L part i, f.length ≤ i) := fcs_row L part i
      clear hnum hp0
      obtain ⟨F, hFe⟩ : ∃ F, F = fcs L part i := ⟨_, rfl⟩
      rw [← hFe] at HF HN hpF hle HRW
      clear hFe
      obtain ⟨vs0, hN0⟩ := HF.out.1
      obtain ⟨a4, c4, rfl, hg4⟩ := own_form hN0.2.1
      have HA4 : Hid (0 < F.length → ∃ g, a4 = some ⟨g, 0, none⟩) := hg4
      clear hg4
      have z0 := cl_kept HF.out.2 (HW.out.1 i h1).1
      rw [hp] at z0
      have zz : g < wr.heap.size := World.block_lt_of_cell? _ _ z0
      have HN0 : Hid (NestV wr w1.heap.size (.slice a4 F.length c4) F vs0) := hN0
      clear hN0
      have hgl : (grwF F p).length ≤ i + 1 := by
        rw [grwF_len]
        split <;> omega
      have hpl : p < (grwF F p).length := by
        rw [grwF_len]
        split <;> omega
      by_cases he : p = F.length
      · have he2 : ((F.length : Int) = (p : Int)) := by omega
        have HG : Hid (grwF F p = F ++ [[]]) := by
          have : grwF F p = F ++ [[]] := by simp [grwF, he]
          exact this
        go_wp2_with (at_builtin; refine wpList_append_own_at _ rfl (.tmp 18) (.tmp 19) 26 rfl w1.heap.size 37 iS (.slice none 0 0) 1 24 Tryd.underlying26 HI1.out.1 HI1.out.2.1 HI1.out.2.2.1 HI1.out.2.2.2 rfl (by decide) (.slice a4 F.length c4) F.length vs0 rfl ?own ⟨wr.heap.size, 0, none⟩ 1 1 [.slice none 0 0] rfl rfl ?c1 ?c2 ?b1 ?b2 ?b3 ?grow)
        case own => exact own_below HN0.out.2.1 (bl_alloc (bl_refl _))
        case c1 =>
          intro j u hu
          match j, hu with
          | 0, hu => simp at hu; subst hu; simp [go_sem, Addr.add]
        case c2 =>
          intro u hu
          simp at hu
          subst hu
          rfl
        case b1 =>
          unfold maxLen
          omega
        case b2 => omega
        case b3 =>
          have := HF.out.2.size
          simp
          omega
        case grow =>
          intro v' w3 hown hgrow hnil hob
          have hNX : NestV w3 w1.heap.size v' (grwF F p) (vs0 ++ [.slice none 0 0]) := by
            rw [HG.out]
            exact (HN0.out.kept (bl_alloc (bl_refl _))).more hown hgrow
          have hBX : Below w1.heap.size w1 w3 := (bl_alloc HF.out.2).grown hgrow (by have := HF.out.2.size; simp; omega) (own_base HN0.out.2.1)
          clear hown hgrow hnil hob HN0 HF HG he he2 z0 zz
          obtain ⟨G, hG⟩ : ∃ G, G = grwF F p := ⟨_, rfl⟩
          have HRG : Hid (∀ f ∈ grwF F p, f.length ≤ i) := grwF_row HRW.out
          rw [← hG] at hNX hgl hpl HRG
          obtain ⟨a5, c5, rfl, hg5⟩ := own_form hNX.2.1
          obtain ⟨g4, rfl⟩ := hg5 (by omega)
          obtain ⟨VS, HNX⟩ : ∃ VS, Hid (NestV w3 w1.heap.size (.slice (some ⟨g4, 0, none⟩) G.length c5) G VS) := ⟨_, hNX⟩
          have HBX : Hid (Below w1.heap.size w1 w3) := hBX
          have HGG : Hid (fcs L part (i + 1) = G.set p (G.getD p [] ++ [L[i]])) := by
            have : fcs L part (i + 1) = G.set p (G.getD p [] ++ [L[i]]) := by rw [HN.out, hG]; rfl
            exact this
          clear hNX hBX hG HN
          go_wp2
          have hpi : (p : Int) < (G.length : Int) := by omega
          have hp0 : (0 : Int) ≤ (p : Int) := by omega
          have hpv : p < VS.length := by rw [HNX.out.1]; exact hpl
          have hin := HNX.out.2.2.1 p hpv hpl
          obtain ⟨a6, c6, hv6, hg6⟩ := own_form hin
          obtain ⟨n6, hn6⟩ : ∃ n, n = G[p].length := ⟨_, rfl⟩
          rw [← hn6] at hv6
          have hn6b : n6 ≤ i := by rw [hn6]; exact HRG.out _ (List.getElem_mem hpl)
          have e0 : w3.cell? ⟨g4, p, none⟩ = some (.slice a6 n6 c6) := by
            rw [HNX.out.2.1.cellAt p (by omega), List.getElem?_eq_getElem hpv, hv6]
          have hTw := (HT.out.kept HW.out.2.2.1) i h1
          obtain ⟨ga, rfl, t0, t1, t2⟩ := hTw
          obtain ⟨t, ht⟩ : ∃ t, t = L[i] := ⟨_, rfl⟩
          obtain ⟨x, y, kk⟩ := t
          rw [← ht] at t0 t1 t2 HGG
          dsimp only at t0 t1 t2
          have HS1 : Hid (w1.cell? ⟨pb, 0, none⟩ = some (.slice (some ⟨ga, 0, none⟩) L.length cc) ∧ w1.cell? ⟨ga, i * 3, none⟩ = some (.int .i64 x) ∧ w1.cell? ⟨ga, i * 3 + 1, none⟩ = some (.int .i64 y) ∧ w1.cell? ⟨ga, i * 3 + 2, none⟩ = some (.int .i64 kk)) := ⟨HPC.out, t0, t1, t2⟩
          have HSX : Hid (∀ wx : World, Below w1.heap.size w1 wx → wx.cell? ⟨pb, 0, none⟩ = some (.slice (some ⟨ga, 0, none⟩) L.length cc) ∧ wx.cell? ⟨ga, i * 3, none⟩ = some (.int .i64 x) ∧ wx.cell? ⟨ga, i * 3 + 1, none⟩ = some (.int .i64 y) ∧ wx.cell? ⟨ga, i * 3 + 2, none⟩ = some (.int .i64 kk)) := fun wx hx => ⟨cl_kept hx HS1.out.1, cl_kept hx HS1.out.2.1, cl_kept hx HS1.out.2.2.1, cl_kept hx HS1.out.2.2.2⟩
          clear ht t0 t1 t2
          have hBA : Below w1.heap.size w1 ((w3.alloc (.cells #[.int .i64 x, .int .i64 y, .int .i64 kk] 79)).drew) := bl_drew (bl_alloc HBX.out)
          have hNA : NestV ((w3.alloc (.cells #[.int .i64 x, .int .i64 y, .int .i64 kk] 79)).drew) w1.heap.size (.slice (some ⟨g4, 0, none⟩) G.length c5) G VS := HNX.out.kept (bl_drew (bl_alloc (bl_refl _)))
          have hinA := hNA.2.2.1 p hpv hpl
          rw [hv6, ← hn6] at hinA
          obtain ⟨u, w5, hr, ho5, hg5, hn5, hob5⟩ := run_append_own_at (P := Tryd.prog) ((w3.alloc (.cells #[.int .i64 x, .int .i64 y, .int .i64 kk] 79)).drew) w1.heap.size 37 37 79 iT (.agg #[.int .i64 0, .int .i64 0, .int .i64 0]) 3 24 Tryd.underlying37 HI2.out.1 HI2.out.2.1 HI2.out.2.2.1 HI2.out.2.2.2 rfl (by decide) (.slice a6 n6 c6) n6 (flatV G[p]) hinA ⟨w3.heap.size, 0, none⟩ 1 1 [.int .i64 x, .int .i64 y, .int .i64 kk] rfl (cell_three_new _ _ _ _) (by intro u hu; simp at hu; rcases hu with rfl | rfl | rfl <;> rfl) (by unfold maxLen; omega) (by omega) (by have := hBA.size; exact this)
          obtain ⟨a7, c7, rfl, hg7⟩ := own_form ho5
          have hB5 : Below w1.heap.size w1 w5 := hBA.grown hg5 hBA.size (own_base hinA)
          have hP := hNA.put hpv hpl (t := (x, y, kk)) (by rw [← hn6]; exact ho5) (by rw [hv6]; exact hg5) (by rw [hv6]; simpa using hob5)
          have hv5 := hNA.outer hpv (by rw [hv6]; exact hg5)
          have hg4 : w1.heap.size ≤ g4 := own_base HNX.out.2.1 g4 rfl
          have q0 : w5.cell? ⟨g4, p, none⟩ = some (.slice a6 n6 c6) := by
            rw [hv5.cellAt p (by omega), List.getElem?_eq_getElem hpv, hv6]
          have q1 : w5.frozen? ⟨g4, p, none⟩ = false := hv5.frozenAt p
          have HP : Hid (NestV (w5.setCell ⟨g4, p, none⟩ (.slice a7 (n6 + 1) c7)) w1.heap.size (.slice (some ⟨g4, 0, none⟩) G.length c5) (G.set p (G[p] ++ [(x, y, kk)])) (VS.set p (.slice a7 (n6 + 1) c7))) := hP
          have HB5 : Hid (Below w1.heap.size w1 w5 ∧ Below w1.heap.size w1 (w5.setCell ⟨g4, p, none⟩ (.slice a7 (n6 + 1) c7))) := ⟨hB5, bl_set hB5 hg4⟩
          have e0a : (w3.alloc (.cells #[.int .i64 x, .int .i64 y, .int .i64 kk] 79)).cell? ⟨g4, p, none⟩ = some (.slice a6 n6 c6) := al_old e0
          have HSA := HSX.out _ hBA
          have HAL : Hid (Below w1.heap.size w1 (w3.alloc (.cells #[.int .i64 x, .int .i64 y, .int .i64 kk] 79)).drew) := hBA
          clear hBA hNA hinA ho5 hg5 hn5 hob5 hB5 hP hv5 hin hv6 hg6 hg7 hn6 HSA
          refine wp_region_held_drew (S := fun w' => w'.cell? ⟨pb, 0, none⟩ = some (.slice (some ⟨ga, 0, none⟩) L.length cc) ∧ w'.cell? ⟨ga, i * 3, none⟩ = some (.int .i64 x) ∧ w'.cell? ⟨ga, i * 3 + 1, none⟩ = some (.int .i64 y) ∧ w'.cell? ⟨ga, i * 3 + 2, none⟩ = some (.int .i64 kk)) (by kernel_rfl) (HSX.out _ (bl_drew HBX.out)) (fun hHeld => ?_)
          refine wpAnyH_take (i := 0) (v := .slice (some ⟨g4, 0, none⟩) G.length c5) rfl (by kernel_rfl) (by kernel_rfl) (by kernel_rfl) (fun _ _ _ h => h) (Or.inl ⟨by rfl, ?hyy⟩) (by assumption) ?_
          case hyy => (intro w' hSw; (try dsimp only at hSw); go_simp)
          try simp only [Act.put, List.getElem_toArray, List.getElem_cons_zero, List.setIfInBounds_toArray, List.set_cons_zero, List.set_cons_succ]
          refine wpAnyH_take (i := 1) (v := .int .i64 (p : Int)) rfl (by kernel_rfl) (by kernel_rfl) (by kernel_rfl) (fun _ _ _ h => h) (Or.inl ⟨by rfl, ?hyy⟩) (by assumption) ?_
          case hyy => (intro w' hSw; (try dsimp only at hSw); go_simp)
          try simp only [Act.put, List.getElem_toArray, List.getElem_cons_succ, List.getElem_cons_zero, List.setIfInBounds_toArray, List.set_cons_zero, List.set_cons_succ]
          refine wpAnyH_take (i := 2) (v := .slice (some ⟨g4, 0, none⟩) G.length c5) rfl (by kernel_rfl) (by kernel_rfl) (by kernel_rfl) (fun _ _ _ h => h) (Or.inl ⟨by rfl, ?hyy⟩) (by assumption) ?_
          case hyy => (intro w' hSw; (try dsimp only at hSw); go_simp)
          try simp only [Act.put, List.getElem_toArray, List.getElem_cons_succ, List.getElem_cons_zero, List.setIfInBounds_toArray, List.set_cons_zero, List.set_cons_succ]
          refine wpAnyH_take (i := 3) (v := .int .i64 (p : Int)) rfl (by kernel_rfl) (by kernel_rfl) (by kernel_rfl) (fun _ _ _ h => h) (Or.inl ⟨by rfl, ?hyy⟩) (by assumption) ?_
          case hyy => (intro w' hSw; (try dsimp only at hSw); go_simp)
          try simp only [Act.put, List.getElem_toArray, List.getElem_cons_succ, List.getElem_cons_zero, List.setIfInBounds_toArray, List.set_cons_zero, List.set_cons_succ]
          refine wpAnyH_take (i := 4) (v := .pointer (some ⟨g4, p, none⟩)) rfl (by kernel_rfl) (by kernel_rfl) (by kernel_rfl) (fun _ _ _ h => h) (Or.inl ⟨by rfl, ?hyy⟩) (by assumption) ?_
          case hyy => (intro w' hSw; (try dsimp only at hSw); go_simp)
          try simp only [Act.put, List.getElem_toArray, List.getElem_cons_succ, List.getElem_cons_zero, List.setIfInBounds_toArray, List.set_cons_zero, List.set_cons_succ]
          refine wpAnyH_take (i := 6) (v := .pointer (some ⟨pb, 0, none⟩)) rfl (by kernel_rfl) (by kernel_rfl) (by kernel_rfl) (fun _ _ _ h => h) (Or.inl ⟨by rfl, ?hyy⟩) (by assumption) ?_
          case hyy => (intro w' hSw; (try dsimp only at hSw); go_simp)
          try simp only [Act.put, List.getElem_toArray, List.getElem_cons_succ, List.getElem_cons_zero, List.setIfInBounds_toArray, List.set_cons_zero, List.set_cons_succ]
          refine wpAnyH_take (i := 7) (v := .slice (some ⟨ga, 0, none⟩) L.length cc) rfl (by kernel_rfl) (by kernel_rfl) (by kernel_rfl) (fun _ _ _ h => h) (Or.inl ⟨by rfl, ?hyy⟩) (by assumption) ?_
          case hyy => (intro w' hSw; (try dsimp only at hSw); go_simp)
          try simp only [Act.put, List.getElem_toArray, List.getElem_cons_succ, List.getElem_cons_zero, List.setIfInBounds_toArray, List.set_cons_zero, List.set_cons_succ]
          refine wpAnyH_take (i := 8) (v := .int .i64 (i : Int)) rfl (by kernel_rfl) (by kernel_rfl) (by kernel_rfl) (fun _ _ _ h => h) (Or.inl ⟨by rfl, ?hyy⟩) (by assumption) ?_
          case hyy => (intro w' hSw; (try dsimp only at hSw); go_simp)
          try simp only [Act.put, List.getElem_toArray, List.getElem_cons_succ, List.getElem_cons_zero, List.setIfInBounds_toArray, List.set_cons_zero, List.set_cons_succ]
          refine wpAnyH_take (i := 9) (v := .pointer (some ⟨ga, i * 3, none⟩)) rfl (by kernel_rfl) (by kernel_rfl) (by kernel_rfl) (fun _ _ _ h => h) (Or.inl ⟨by rfl, ?hyy⟩) (by assumption) ?_
          case hyy => (intro w' hSw; (try dsimp only at hSw); go_simp)
          try simp only [Act.put, List.getElem_toArray, List.getElem_cons_succ, List.getElem_cons_zero, List.setIfInBounds_toArray, List.set_cons_zero, List.set_cons_succ]
          refine wpAnyH_take (i := 10) (v := .agg #[.int .i64 x, .int .i64 y, .int .i64 kk]) rfl (by kernel_rfl) (by kernel_rfl) (by kernel_rfl) (fun _ _ _ h => h) (Or.inl ⟨by rfl, ?hyy⟩) (by assumption) ?_
          case hyy => (intro w' hSw; (try dsimp only at hSw); go_simp)
          try simp only [Act.put, List.getElem_toArray, List.getElem_cons_succ, List.getElem_cons_zero, List.setIfInBounds_toArray, List.set_cons_zero, List.set_cons_succ]
          refine wpAnyH_ready (rs := [5, 11]) (by kernel_rfl) (by simp) ?_
          refine AllReadyH.cons rfl (fun K hK => ?_) (AllReadyH.cons rfl (fun K hK => ?_) AllReadyH.nil)
          · go_simp
            refine hK.out _ _ (HSX.out _ (bl_drew HBX.out)) (fun hHd => ?_)
            clear hK K
            try simp only [Act.put, List.getElem_toArray, List.getElem_cons_succ, List.getElem_cons_zero, List.setIfInBounds_toArray, List.set_cons_zero, List.set_cons_succ]
            refine wpAnyH_ready (rs := [11]) (by kernel_rfl) (by simp) ?_
            refine AllReadyH.cons rfl (fun K hK => ?_) AllReadyH.nil
            go_simp
            refine hK.out _ _ (HSX.out _ HAL.out) (fun hHd => ?_)
            clear hK K
            try simp only [Act.put, List.getElem_toArray, List.getElem_cons_succ, List.getElem_cons_zero, List.setIfInBounds_toArray, List.set_cons_zero, List.set_cons_succ]
            refine wpAnyH_ready (rs := [12]) (by kernel_rfl) (by simp) ?_
            refine AllReadyH.cons rfl (fun K hK => ?_) AllReadyH.nil
            rw [if_pos (by rfl)]
            refine wp_append_run (.tmp 26) (.tmp 32) 37 rfl _ _ (.slice a7 (n6 + 1) c7) w5 rfl rfl hr ?_
            refine hK.out _ _ (HSX.out _ HB5.out.1) (fun hHd => ?_)
            clear hK K
            try simp only [Act.put, List.getElem_toArray, List.getElem_cons_succ, List.getElem_cons_zero, List.setIfInBounds_toArray, List.set_cons_zero, List.set_cons_succ]
            refine wpAnyH_take (i := 13) (v := .pointer (some ⟨g4, p, none⟩)) rfl (by kernel_rfl) (by kernel_rfl) (by kernel_rfl) (fun _ _ _ h => h) (Or.inl ⟨by rfl, ?hyy⟩) (by assumption) ?_
            case hyy => (intro w' hSw; (try dsimp only at hSw); go_simp)
            try simp only [Act.put, List.getElem_toArray, List.getElem_cons_succ, List.getElem_cons_zero, List.setIfInBounds_toArray, List.set_cons_zero, List.set_cons_succ]
            refine wpAnyH_ready (rs := [14]) (by kernel_rfl) (by simp) ?_
            refine AllReadyH.cons rfl (fun K hK => ?_) AllReadyH.nil
            go_simp
            refine hK.out _ _ (HSX.out _ HB5.out.2) (fun hHd => ?_)
            clear hK K
            try simp only [Act.put, List.getElem_toArray, List.getElem_cons_succ, List.getElem_cons_zero, List.setIfInBounds_toArray, List.set_cons_zero, List.set_cons_succ]
            refine wpAnyH_done (by kernel_rfl) ?_ _
            go_wp2
            go_roundg (L.length - (i + 1))
            case measure => omega
            case rel => exact ⟨i + 1, by omega, rfl, by go_num, ⟨_, by rw [HGG.out, List.getD_eq_getElem?_getD, List.getElem?_eq_getElem hpl]; simpa using HP.out⟩, HB5.out.2⟩
          · go_simp
            refine hK.out _ _ (HSX.out _ HAL.out) (fun hHd => ?_)
            clear hK K
            try simp only [Act.put, List.getElem_toArray, List.getElem_cons_succ, List.getElem_cons_zero, List.setIfInBounds_toArray, List.set_cons_zero, List.set_cons_succ]
            refine wpAnyH_ready (rs := [5]) (by kernel_rfl) (by simp) ?_
            refine AllReadyH.cons rfl (fun K hK => ?_) AllReadyH.nil
            go_simp
            refine hK.out _ _ (HSX.out _ HAL.out) (fun hHd => ?_)
            clear hK K
            try simp only [Act.put, List.getElem_toArray, List.getElem_cons_succ, List.getElem_cons_zero, List.setIfInBounds_toArray, List.set_cons_zero, List.set_cons_succ]
            refine wpAnyH_ready (rs := [12]) (by kernel_rfl) (by simp) ?_
            refine AllReadyH.cons rfl (fun K hK => ?_) AllReadyH.nil
            rw [if_pos (by rfl)]
            refine wp_append_run (.tmp 26) (.tmp 32) 37 rfl _ _ (.slice a7 (n6 + 1) c7) w5 rfl rfl hr ?_
            refine hK.out _ _ (HSX.out _ HB5.out.1) (fun hHd => ?_)
            clear hK K
            try simp only [Act.put, List.getElem_toArray, List.getElem_cons_succ, List.getElem_cons_zero, List.setIfInBounds_toArray, List.set_cons_zero, List.set_cons_succ]
            refine wpAnyH_take (i := 13) (v := .pointer (some ⟨g4, p, none⟩)) rfl (by kernel_rfl) (by kernel_rfl) (by kernel_rfl) (fun _ _ _ h => h) (Or.inl ⟨by rfl, ?hyy⟩) (by assumption) ?_
            case hyy => (intro w' hSw; (try dsimp only at hSw); go_simp)
            try simp only [Act.put, List.getElem_toArray, List.getElem_cons_succ, List.getElem_cons_zero, List.setIfInBounds_toArray, List.set_cons_zero, List.set_cons_succ]
            refine wpAnyH_ready (rs := [14]) (by kernel_rfl) (by simp) ?_
            refine AllReadyH.cons rfl (fun K hK => ?_) AllReadyH.nil
            go_simp
            refine hK.out _ _ (HSX.out _ HB5.out.2) (fun hHd => ?_)
            clear hK K
            try simp only [Act.put, List.getElem_toArray, List.getElem_cons_succ, List.getElem_cons_zero, List.setIfInBounds_toArray, List.set_cons_zero, List.set_cons_succ]
            refine wpAnyH_done (by kernel_rfl) ?_ _
            go_wp2
            go_roundg (L.length - (i + 1))
            case measure => omega
            case rel => exact ⟨i + 1, by omega, rfl, by go_num, ⟨_, by rw [HGG.out, List.getD_eq_getElem?_getD, List.getElem?_eq_getElem hpl]; simpa using HP.out⟩, HB5.out.2⟩
      · have he2 : ¬ ((p : Int) = (F.length : Int)) := by omega
        have hpF2 : p < F.length := by omega
        obtain ⟨g4, rfl⟩ := HA4.out (by omega)
        obtain ⟨VS, HNX⟩ : ∃ VS, Hid (NestV wr w1.heap.size (.slice (some ⟨g4, 0, none⟩) F.length c4) F VS) := ⟨vs0, HN0.out⟩
        have HBX : Hid (Below w1.heap.size w1 wr) := HF.out.2
        have HGG : Hid (fcs L part (i + 1) = F.set p (F.getD p [] ++ [L[i]])) := by
          have hg : grwF F p = F := by simp [grwF, he]
          have : fcs L part (i + 1) = F.set p (F.getD p [] ++ [L[i]]) := by rw [HN.out, putF, hg]
          exact this
        clear HN0 HF HN
        go_wp2
        clear he he2 z0 zz hgl hpl
        have hpi : (p : Int) < (F.length : Int) := by omega
        have hp0 : (0 : Int) ≤ (p : Int) := by omega
        have hpv : p < VS.length := by rw [HNX.out.1]; exact hpF2
        have hin := HNX.out.2.2.1 p hpv hpF2
        obtain ⟨a6, c6, hv6, hg6⟩ := own_form hin
        obtain ⟨n6, hn6⟩ : ∃ n, n = F[p].length := ⟨_, rfl⟩
        rw [← hn6] at hv6
        have hn6b : n6 ≤ i := by rw [hn6]; exact HRW.out _ (List.getElem_mem hpF2)
        have e0 : wr.cell? ⟨g4, p, none⟩ = some (.slice a6 n6 c6) := by
          rw [HNX.out.2.1.cellAt p (by omega), List.getElem?_eq_getElem hpv, hv6]
        have hTw := (HT.out.kept HW.out.2.2.1) i h1
        obtain ⟨ga, rfl, t0, t1, t2⟩ := hTw
        obtain ⟨t, ht⟩ : ∃ t, t = L[i] := ⟨_, rfl⟩
        obtain ⟨x, y, kk⟩ := t
        rw [← ht] at t0 t1 t2 HGG
        dsimp only at t0 t1 t2
        have HS1 : Hid (w1.cell? ⟨pb, 0, none⟩ = some (.slice (some ⟨ga, 0, none⟩) L.length cc) ∧ w1.cell? ⟨ga, i * 3, none⟩ = some (.int .i64 x) ∧ w1.cell? ⟨ga, i * 3 + 1, none⟩ = some (.int .i64 y) ∧ w1.cell? ⟨ga, i * 3 + 2, none⟩ = some (.int .i64 kk)) := ⟨HPC.out, t0, t1, t2⟩
        have HSX : Hid (∀ wx : World, Below w1.heap.size w1 wx → wx.cell? ⟨pb, 0, none⟩ = some (.slice (some ⟨ga, 0, none⟩) L.length cc) ∧ wx.cell? ⟨ga, i * 3, none⟩ = some (.int .i64 x) ∧ wx.cell? ⟨ga, i * 3 + 1, none⟩ = some (.int .i64 y) ∧ wx.cell? ⟨ga, i * 3 + 2, none⟩ = some (.int .i64 kk)) := fun wx hx => ⟨cl_kept hx HS1.out.1, cl_kept hx HS1.out.2.1, cl_kept hx HS1.out.2.2.1, cl_kept hx HS1.out.2.2.2⟩
        clear ht t0 t1 t2
        have hBA : Below w1.heap.size w1 ((wr.alloc (.cells #[.int .i64 x, .int .i64 y, .int .i64 kk] 79)).drew) := bl_drew (bl_alloc HBX.out)
        have hNA : NestV ((wr.alloc (.cells #[.int .i64 x, .int .i64 y, .int .i64 kk] 79)).drew) w1.heap.size (.slice (some ⟨g4, 0, none⟩) F.length c4) F VS := HNX.out.kept (bl_drew (bl_alloc (bl_refl _)))
        have hinA := hNA.2.2.1 p hpv hpF2
        rw [hv6, ← hn6] at hinA
        obtain ⟨u, w5, hr, ho5, hg5, hn5, hob5⟩ := run_append_own_at (P := Tryd.prog) ((wr.alloc (.cells #[.int .i64 x, .int .i64 y, .int .i64 kk] 79)).drew) w1.heap.size 37 37 79 iT (.agg #[.int .i64 0, .int .i64 0, .int .i64 0]) 3 24 Tryd.underlying37 HI2.out.1 HI2.out.2.1 HI2.out.2.2.1 HI2.out.2.2.2 rfl (by decide) (.slice a6 n6 c6) n6 (flatV F[p]) hinA ⟨wr.heap.size, 0, none⟩ 1 1 [.int .i64 x, .int .i64 y, .int .i64 kk] rfl (cell_three_new _ _ _ _) (by intro u hu; simp at hu; rcases hu with rfl | rfl | rfl <;> rfl) (by unfold maxLen; omega) (by omega) (by have := hBA.size; exact this)
        obtain ⟨a7, c7, rfl, hg7⟩ := own_form ho5
        have hB5 : Below w1.heap.size w1 w5 := hBA.grown hg5 hBA.size (own_base hinA)
        have hP := hNA.put hpv hpF2 (t := (x, y, kk)) (by rw [← hn6]; exact ho5) (by rw [hv6]; exact hg5) (by rw [hv6]; simpa using hob5)
        have hv5 := hNA.outer hpv (by rw [hv6]; exact hg5)
        have hg4 : w1.heap.size ≤ g4 := own_base HNX.out.2.1 g4 rfl
        have q0 : w5.cell? ⟨g4, p, none⟩ = some (.slice a6 n6 c6) := by
          rw [hv5.cellAt p (by omega), List.getElem?_eq_getElem hpv, hv6]
        have q1 : w5.frozen? ⟨g4, p, none⟩ = false := hv5.frozenAt p
        have HP : Hid (NestV (w5.setCell ⟨g4, p, none⟩ (.slice a7 (n6 + 1) c7)) w1.heap.size (.slice (some ⟨g4, 0, none⟩) F.length c4) (F.set p (F[p] ++ [(x, y, kk)])) (VS.set p (.slice a7 (n6 + 1) c7))) := hP
        have HB5 : Hid (Below w1.heap.size w1 w5 ∧ Below w1.heap.size w1 (w5.setCell ⟨g4, p, none⟩ (.slice a7 (n6 + 1) c7))) := ⟨hB5, bl_set hB5 hg4⟩
        have e0a : (wr.alloc (.cells #[.int .i64 x, .int .i64 y, .int .i64 kk] 79)).cell? ⟨g4, p, none⟩ = some (.slice a6 n6 c6) := al_old e0
        have HSA := HSX.out _ hBA
        have HAL : Hid (Below w1.heap.size w1 (wr.alloc (.cells #[.int .i64 x, .int .i64 y, .int .i64 kk] 79)).drew) := hBA
        clear hBA hNA hinA ho5 hg5 hn5 hob5 hB5 hP hv5 hin hv6 hg6 hg7 hn6 HSA
        refine wp_region_held_drew (S := fun w' => w'.cell? ⟨pb, 0, none⟩ = some (.slice (some ⟨ga, 0, none⟩) L.length cc) ∧ w'.cell? ⟨ga, i * 3, none⟩ = some (.int .i64 x) ∧ w'.cell? ⟨ga, i * 3 + 1, none⟩ = some (.int .i64 y) ∧ w'.cell? ⟨ga, i * 3 + 2, none⟩ = some (.int .i64 kk)) (by kernel_rfl) (HSX.out _ (bl_drew HBX.out)) (fun hHeld => ?_)
        refine wpAnyH_take (i := 0) (v := .slice (some ⟨g4, 0, none⟩) F.length c4) rfl (by kernel_rfl) (by kernel_rfl) (by kernel_rfl) (fun _ _ _ h => h) (Or.inl ⟨by rfl, ?hyy⟩) (by assumption) ?_
        case hyy => (intro w' hSw; (try dsimp only at hSw); go_simp)
        try simp only [Act.put, List.getElem_toArray, List.getElem_cons_zero, List.setIfInBounds_toArray, List.set_cons_zero, List.set_cons_succ]
        refine wpAnyH_take (i := 1) (v := .int .i64 (p : Int)) rfl (by kernel_rfl) (by kernel_rfl) (by kernel_rfl) (fun _ _ _ h => h) (Or.inl ⟨by rfl, ?hyy⟩) (by assumption) ?_
        case hyy => (intro w' hSw; (try dsimp only at hSw); go_simp)
        try simp only [Act.put, List.getElem_toArray, List.getElem_cons_succ, List.getElem_cons_zero, List.setIfInBounds_toArray, List.set_cons_zero, List.set_cons_succ]
        refine wpAnyH_take (i := 2) (v := .slice (some ⟨g4, 0, none⟩) F.length c4) rfl (by kernel_rfl) (by kernel_rfl) (by kernel_rfl) (fun _ _ _ h => h) (Or.inl ⟨by rfl, ?hyy⟩) (by assumption) ?_
        case hyy => (intro w' hSw; (try dsimp only at hSw); go_simp)
        try simp only [Act.put, List.getElem_toArray, List.getElem_cons_succ, List.getElem_cons_zero, List.setIfInBounds_toArray, List.set_cons_zero, List.set_cons_succ]
        refine wpAnyH_take (i := 3) (v := .int .i64 (p : Int)) rfl (by kernel_rfl) (by kernel_rfl) (by kernel_rfl) (fun _ _ _ h => h) (Or.inl ⟨by rfl, ?hyy⟩) (by assumption) ?_
        case hyy => (intro w' hSw; (try dsimp only at hSw); go_simp)
        try simp only [Act.put, List.getElem_toArray, List.getElem_cons_succ, List.getElem_cons_zero, List.setIfInBounds_toArray, List.set_cons_zero, List.set_cons_succ]
        refine wpAnyH_take (i := 4) (v := .pointer (some ⟨g4, p, none⟩)) rfl (by kernel_rfl) (by kernel_rfl) (by kernel_rfl) (fun _ _ _ h => h) (Or.inl ⟨by rfl, ?hyy⟩) (by assumption) ?_
        case hyy => (intro w' hSw; (try dsimp only at hSw); go_simp)
        try simp only [Act.put, List.getElem_toArray, List.getElem_cons_succ, List.getElem_cons_zero, List.setIfInBounds_toArray, List.set_cons_zero, List.set_cons_succ]
        refine wpAnyH_take (i := 6) (v := .pointer (some ⟨pb, 0, none⟩)) rfl (by kernel_rfl) (by kernel_rfl) (by kernel_rfl) (fun _ _ _ h => h) (Or.inl ⟨by rfl, ?hyy⟩) (by assumption) ?_
        case hyy => (intro w' hSw; (try dsimp only at hSw); go_simp)
        try simp only [Act.put, List.getElem_toArray, List.getElem_cons_succ, List.getElem_cons_zero, List.setIfInBounds_toArray, List.set_cons_zero, List.set_cons_succ]
        refine wpAnyH_take (i := 7) (v := .slice (some ⟨ga, 0, none⟩) L.length cc) rfl (by kernel_rfl) (by kernel_rfl) (by kernel_rfl) (fun _ _ _ h => h) (Or.inl ⟨by rfl, ?hyy⟩) (by assumption) ?_
        case hyy => (intro w' hSw; (try dsimp only at hSw); go_simp)
        try simp only [Act.put, List.getElem_toArray, List.getElem_cons_succ, List.getElem_cons_zero, List.setIfInBounds_toArray, List.set_cons_zero, List.set_cons_succ]
        refine wpAnyH_take (i := 8) (v := .int .i64 (i : Int)) rfl (by kernel_rfl) (by kernel_rfl) (by kernel_rfl) (fun _ _ _ h => h) (Or.inl ⟨by rfl, ?hyy⟩) (by assumption) ?_
        case hyy => (intro w' hSw; (try dsimp only at hSw); go_simp)
        try simp only [Act.put, List.getElem_toArray, List.getElem_cons_succ, List.getElem_cons_zero, List.setIfInBounds_toArray, List.set_cons_zero, List.set_cons_succ]
        refine wpAnyH_take (i := 9) (v := .pointer (some ⟨ga, i * 3, none⟩)) rfl (by kernel_rfl) (by kernel_rfl) (by kernel_rfl) (fun _ _ _ h => h) (Or.inl ⟨by rfl, ?hyy⟩) (by assumption) ?_
        case hyy => (intro w' hSw; (try dsimp only at hSw); go_simp)
        try simp only [Act.put, List.getElem_toArray, List.getElem_cons_succ, List.getElem_cons_zero, List.setIfInBounds_toArray, List.set_cons_zero, List.set_cons_succ]
        refine wpAnyH_take (i := 10) (v := .agg #[.int .i64 x, .int .i64 y, .int .i64 kk]) rfl (by kernel_rfl) (by kernel_rfl) (by kernel_rfl) (fun _ _ _ h => h) (Or.inl ⟨by rfl, ?hyy⟩) (by assumption) ?_
        case hyy => (intro w' hSw; (try dsimp only at hSw); go_simp)
        try simp only [Act.put, List.getElem_toArray, List.getElem_cons_succ, List.getElem_cons_zero, List.setIfInBounds_toArray, List.set_cons_zero, List.set_cons_succ]
        refine wpAnyH_ready (rs := [5, 11]) (by kernel_rfl) (by simp) ?_
        refine AllReadyH.cons rfl (fun K hK => ?_) (AllReadyH.cons rfl (fun K hK => ?_) AllReadyH.nil)
        · go_simp
          refine hK.out _ _ (HSX.out _ (bl_drew HBX.out)) (fun hHd => ?_)
          clear hK K
          try simp only [Act.put, List.getElem_toArray, List.getElem_cons_succ, List.getElem_cons_zero, List.setIfInBounds_toArray, List.set_cons_zero, List.set_cons_succ]
          refine wpAnyH_ready (rs := [11]) (by kernel_rfl) (by simp) ?_
          refine AllReadyH.cons rfl (fun K hK => ?_) AllReadyH.nil
          go_simp
          refine hK.out _ _ (HSX.out _ HAL.out) (fun hHd => ?_)
          clear hK K
          try simp only [Act.put, List.getElem_toArray, List.getElem_cons_succ, List.getElem_cons_zero, List.setIfInBounds_toArray, List.set_cons_zero, List.set_cons_succ]
          refine wpAnyH_ready (rs := [12]) (by kernel_rfl) (by simp) ?_
          refine AllReadyH.cons rfl (fun K hK => ?_) AllReadyH.nil
          rw [if_pos (by rfl)]
          refine wp_append_run (.tmp 26) (.tmp 32) 37 rfl _ _ (.slice a7 (n6 + 1) c7) w5 rfl rfl hr ?_
          refine hK.out _ _ (HSX.out _ HB5.out.1) (fun hHd => ?_)
          clear hK K
          try simp only [Act.put, List.getElem_toArray, List.getElem_cons_succ, List.getElem_cons_zero, List.setIfInBounds_toArray, List.set_cons_zero, List.set_cons_succ]
          refine wpAnyH_take (i := 13) (v := .pointer (some ⟨g4, p, none⟩)) rfl (by kernel_rfl) (by kernel_rfl) (by kernel_rfl) (fun _ _ _ h => h) (Or.inl ⟨by rfl, ?hyy⟩) (by assumption) ?_
          case hyy => (intro w' hSw; (try dsimp only at hSw); go_simp)
          try simp only [Act.put, List.getElem_toArray, List.getElem_cons_succ, List.getElem_cons_zero, List.setIfInBounds_toArray, List.set_cons_zero, List.set_cons_succ]
          refine wpAnyH_ready (rs := [14]) (by kernel_rfl) (by simp) ?_
          refine AllReadyH.cons rfl (fun K hK => ?_) AllReadyH.nil
          go_simp
          refine hK.out _ _ (HSX.out _ HB5.out.2) (fun hHd => ?_)
          clear hK K
          try simp only [Act.put, List.getElem_toArray, List.getElem_cons_succ, List.getElem_cons_zero, List.setIfInBounds_toArray, List.set_cons_zero, List.set_cons_succ]
          refine wpAnyH_done (by kernel_rfl) ?_ _
          go_wp2
          go_roundg (L.length - (i + 1))
          case measure => omega
          case rel => exact ⟨i + 1, by omega, rfl, by go_num, ⟨_, by rw [HGG.out, List.getD_eq_getElem?_getD, List.getElem?_eq_getElem hpF2]; simpa using HP.out⟩, HB5.out.2⟩
        · go_simp
          refine hK.out _ _ (HSX.out _ HAL.out) (fun hHd => ?_)
          clear hK K
          try simp only [Act.put, List.getElem_toArray, List.getElem_cons_succ, List.getElem_cons_zero, List.setIfInBounds_toArray, List.set_cons_zero, List.set_cons_succ]
          refine wpAnyH_ready (rs := [5]) (by kernel_rfl) (by simp) ?_
          refine AllReadyH.cons rfl (fun K hK => ?_) AllReadyH.nil
          go_simp
          refine hK.out _ _ (HSX.out _ HAL.out) (fun hHd => ?_)
          clear hK K
          try simp only [Act.put, List.getElem_toArray, List.getElem_cons_succ, List.getElem_cons_zero, List.setIfInBounds_toArray, List.set_cons_zero, List.set_cons_succ]
          refine wpAnyH_ready (rs := [12]) (by kernel_rfl) (by simp) ?_
          refine AllReadyH.cons rfl (fun K hK => ?_) AllReadyH.nil
          rw [if_pos (by rfl)]
          refine wp_append_run (.tmp 26) (.tmp 32) 37 rfl _ _ (.slice a7 (n6 + 1) c7) w5 rfl rfl hr ?_
          refine hK.out _ _ (HSX.out _ HB5.out.1) (fun hHd => ?_)
          clear hK K
          try simp only [Act.put, List.getElem_toArray, List.getElem_cons_succ, List.getElem_cons_zero, List.setIfInBounds_toArray, List.set_cons_zero, List.set_cons_succ]
          refine wpAnyH_take (i := 13) (v := .pointer (some ⟨g4, p, none⟩)) rfl (by kernel_rfl) (by kernel_rfl) (by kernel_rfl) (fun _ _ _ h => h) (Or.inl ⟨by rfl, ?hyy⟩) (by assumption) ?_
          case hyy => (intro w' hSw; (try dsimp only at hSw); go_simp)
          try simp only [Act.put, List.getElem_toArray, List.getElem_cons_succ, List.getElem_cons_zero, List.setIfInBounds_toArray, List.set_cons_zero, List.set_cons_succ]
          refine wpAnyH_ready (rs := [14]) (by kernel_rfl) (by simp) ?_
          refine AllReadyH.cons rfl (fun K hK => ?_) AllReadyH.nil
          go_simp
          refine hK.out _ _ (HSX.out _ HB5.out.2) (fun hHd => ?_)
          clear hK K
          try simp only [Act.put, List.getElem_toArray, List.getElem_cons_succ, List.getElem_cons_zero, List.setIfInBounds_toArray, List.set_cons_zero, List.set_cons_succ]
          refine wpAnyH_done (by kernel_rfl) ?_ _
          go_wp2
          go_roundg (L.length - (i + 1))
          case measure => omega
          case rel => exact ⟨i + 1, by omega, rfl, by go_num, ⟨_, by rw [HGG.out, List.getD_eq_getElem?_getD, List.getElem?_eq_getElem hpF2]; simpa using HP.out⟩, HB5.out.2⟩
    · have i1 : ¬ (i : Int) < (L.length : Int) := by omega
      obtain rfl : i = L.length := by omega
      go_wp2
      exact bodyPost_ret (v := vA) (by simp [results, Tryd.results22, go_sem]) rfl ⟨vA, rfl, part, HW.out.2.1, HF.out.1.mono HW.out.2.2.1.size, bl_via HW.out.2.2.1 HF.out.2⟩
end Go.Proofs.YtoedcefbmbfnhabDoor
