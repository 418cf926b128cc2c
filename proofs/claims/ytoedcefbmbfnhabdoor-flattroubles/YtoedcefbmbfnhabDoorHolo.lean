/- Holes: the code's way and the reference's. -/
import Derived.Test.YtoedcefbmbfnhabDoorHolm
import Derived.Test.YtoedcefbmbfnhabDoorPntf
import Derived.Test.YtoedcefbmbfnhabDoorRpts
import Derived.Test.YtoedcefbmbfnhabDoorPkao
import Derived.Test.YtoedcefbmbfnhabDoorPkam
namespace Go.Proofs.YtoedcefbmbfnhabDoor
open Go.RowKit Go.ChangeMaps

theorem wpAnyH_turn {P : Program} {md : Region.Mode} {ops : Array Oper} {Q : Exit → Act → World → Prop} {S S' : World → Prop} (hS : ∀ w, S' w → S w) : ∀ (fuel : Nat) (listed : Array Bool) (a : Act) (w : World), wpAnyH P md ops Q S' fuel listed a w → wpAnyH P md ops Q S fuel listed a w
  | 0, _, _, _, h => h
  | fuel + 1, _, _, _, h => ⟨h.1, fun i hi => wpOp_mono (fun a' w' h' => ⟨hS w' h'.1, wpAnyH_turn hS fuel _ a' w' h'.2⟩) (h.2 i hi)⟩

theorem three_len (L : List (Int × Int × Int)) : (L.flatMap fun t => [edg t 0, edg t 1, edg t 2]).length = 3 * L.length := by
  induction L with
  | nil => rfl
  | cons a l ih =>
    rw [List.flatMap_cons, List.length_append, ih, List.length_cons]
    simp
    omega
theorem edges_le {L : List (Int × Int × Int)} {E : List (Int × Int × Int × Int)} (hes : EdgeSet L E) : E.length ≤ 3 * L.length := by
  rw [← three_len]
  exact sub_len _ _ hes.1 (fun e he => by
    obtain ⟨t, ht, hh⟩ := (hes.2 e).1 he
    obtain ⟨i, hi, rfl⟩ := hasT_edg hh
    refine List.mem_flatMap.2 ⟨t, ht, ?_⟩
    have : i = 0 ∨ i = 1 ∨ i = 2 := by omega
    rcases this with rfl | rfl | rfl <;> simp)

set_option maxRecDepth 100000 in
theorem edgesLen_any (w : World) (ad : Option Addr) (n cc ra rk : Nat) (ls : List ((Int × Int × Int × Int) × Value × Nat)) (c : Nat) (h : EM w ra ls c) :
    Calls Tryd.prog 24 #[.agg #[.slice ad n cc, .map (some ra), .map (some rk)]] w fun e w' => e = .returned (.int .i64 (ls.length : Int)) ∧ Below w.heap.size w w' := by
  have h1 := h.grown (bl_grown (bl_alloc (o := .cells #[.slice ad n cc, .map (some ra), .map (some rk)] 63) (bl_refl w))) (by simp)
  unfold EM at h1
  have hln : (Builtin.len_ #[60] 3 #[.map (some ra)]).run Tryd.prog (w.alloc (.cells #[.slice ad n cc, .map (some ra), .map (some rk)] 63)) = .ok (.int .i64 (ls.length : Int)) (w.alloc (.cells #[.slice ad n cc, .map (some ra), .map (some rk)] 63)) := by
    have h2 := run_len_map (P := Tryd.prog) _ 60 3 ra _ c (by kernel_rfl) h1
    simpa [goInt] using h2
  clear h h1
  go_enter Tryd.func24, Tryd.ntmps24
  go_wp2
  go_ret
  exact ⟨rfl, bl_alloc (bl_refl _)⟩

theorem Holes_no (W H : Int) (a c : Option Addr) (n1 n2 ca cc : Nat) (w : World) (hcall : ∀ W' : World, Below w.heap.size w W' → Calls Tryd.prog 21 #[.agg #[.int .i64 W, .int .i64 H, .slice a n1 ca, .slice c n2 cc]] W' fun e w' => e = .returned (.tuple #[.agg #[.slice none 0 0, .map none, .map none], .bool false]) ∧ Below W'.heap.size W' w') :
    Calls Tryd.prog 9 #[.agg #[.int .i64 W, .int .i64 H, .slice a n1 ca, .slice c n2 cc]] w fun e w' => e = .returned (.tuple #[.int .i64 0, .int .i64 10]) ∧ Below w.heap.size w w' := by
  have HC : Hid (∀ W' : World, Below w.heap.size w W' → Calls Tryd.prog 21 #[.agg #[.int .i64 W, .int .i64 H, .slice a n1 ca, .slice c n2 cc]] W' fun e w' => e = .returned (.tuple #[.agg #[.slice none 0 0, .map none, .map none], .bool false]) ∧ Below W'.heap.size W' w') := hcall
  clear hcall
  go_enter Tryd.func9, Tryd.ntmps9
  go_wp2_with (go_at_call 21; refine (HC.out _ (by with_reducible exact bl_alloc (bl_refl _))).mono ?_; rintro e w2 ⟨rfl, hb⟩; have HB : Hid (Below w.heap.size w w2) := bl_via (bl_alloc (bl_refl _)) hb; clear hb)
  exact bodyPost_ret (v := .tuple #[.int .i64 0, .int .i64 10]) (by simp [results, Tryd.results9, go_sem]) rfl ⟨rfl, by with_reducible repeat (first | exact HB.out | refine bl_alloc ?_)⟩

set_option maxRecDepth 100000 in
set_option maxHeartbeats 3200000 in
theorem Holes_yes (W H b off cap n ccap : Nat) (cb : Option Addr) (zs ks : List Int) (w : World) (hr : Row w (some ⟨b, off, none⟩) zs) (hW : 1 ≤ W ∧ W ≤ 8) (hH : 1 ≤ H ∧ H ≤ 8) (hl : zs.length = W * H) (hm : maskB zs = true) (hk : Row w cb ks) (hn : ks.length = n * 5) (hn2 : n ≤ 3518437208883) (hs : Steps w) (hJ : Joined (ty zs W H)) (hC : ∀ i, i < n → CrOk (ty zs W H) ks i) (pts : List (Int × Int)) (hpts : SPt pts ((ty zs W H).flatMap cnr)) (hpl : pts.length ≤ 3 * (ty zs W H).length) :
    Calls Tryd.prog 9 #[.agg #[.int .i64 (W : Int), .int .i64 (H : Int), .slice (some ⟨b, off, none⟩) zs.length cap, .slice cb n ccap]] w fun e w' => ∃ E, EdgeSet (ty zs W H) E ∧ E.length ≤ 3 * (ty zs W H).length ∧ e = .returned (.tuple #[.int .i64 (1 - (pts.length : Int) + (E.length : Int) - ((ty zs W H).length : Int)), .int .i64 0]) ∧ Below w.heap.size w w' := by
  have CL : Hid (∀ W' : World, Below w.heap.size w W' → Calls Tryd.prog 21 #[.agg #[.int .i64 (W : Int), .int .i64 (H : Int), .slice (some ⟨b, off, none⟩) zs.length cap, .slice cb n ccap]] W' fun e w' => ∃ ad cc base ra rk, e = .returned (.tuple #[.agg #[.slice ad (ty zs W H).length cc, .map (some ra), .map (some rk)], .bool true]) ∧ PK W' w' base ra rk (.slice ad (ty zs W H).length cc) (ty zs W H) (gix (ty zs W H)) (kf ks n)) := fun W' hW' => lay_yes W H b off cap n ccap cb zs ks W' (hr.kept hW') hW hH hl hm (hk.kept hW') hn hn2 (hs.kept hW') hJ hC
  have hlen : (ty zs W H).length ≤ 256 := by have := ty_len zs W H hW.2; omega
  have CP : Hid (∀ (W' : World) (ad : Option Addr) (cc ra rk : Nat), Below w.heap.size w W' → TRow W' ad (ty zs W H) → Calls Tryd.prog 23 #[.agg #[.slice ad (ty zs W H).length cc, .map (some ra), .map (some rk)]] W' fun e w' => ∃ rm, e = .returned (.map (some rm)) ∧ PtM W' w' rm ((ty zs W H).flatMap tps)) := fun W' ad cc ra rk hW' hT => pointsOf_any W' cc ra rk ad _ (hs.kept hW') hT (by omega) (ty_bd hW.2 hH.2)
  have HPT : Hid (SPt pts ((ty zs W H).flatMap cnr)) := hpts
  obtain ⟨L, hL⟩ : ∃ L, L = ty zs W H := ⟨_, rfl⟩
  rw [← hL] at CL CP hlen HPT hpl
  rw [← hL]
  clear hr hk hl hm hW hH hn hs hJ hC hL hpts
  go_enter Tryd.func9, Tryd.ntmps9
  go_wp2_with (go_at_call 21; refine (CL.out _ (by with_reducible exact bl_alloc (bl_refl _))).mono ?_; rintro e w2 ⟨ad, cc, base, ra, rk, rfl, hpk⟩; have HB : Hid (Below w.heap.size w w2) := bl_via (bl_alloc (bl_refl _)) hpk.2.2.2.2; have HPK : Hid (TRow w2 ad L ∧ ∃ ls c, EM w2 ra ls c ∧ EdgeSet L (ls.map (fun x => x.1))) := ⟨hpk.pa.1, hpk.edges⟩; clear hpk)
  refine wp_named (fun W0 hW0 => ?_)
  obtain ⟨pb, hpb⟩ : ∃ p, p = w2.heap.size := ⟨_, rfl⟩
  obtain ⟨ls, c, hem, hes⟩ := HPK.out.2
  have hB0 : Below w2.heap.size w2 W0 := by rw [hW0]; exact bl_alloc (bl_refl _)
  have HE0 : Hid (Below w.heap.size w W0 ∧ TRow W0 ad L ∧ EM W0 ra ls c ∧ EdgeSet L (ls.map (fun x => x.1))) := ⟨bl_via HB.out hB0, HPK.out.1.kept hB0, hem.grown (bl_grown hB0) (by simp), hes⟩
  have p0 : W0.cell? ⟨pb, 0, none⟩ = some (.slice ad L.length cc) := by rw [hW0, hpb]; simp [go_sem]
  have p1 : W0.cell? ⟨pb, 1, none⟩ = some (.map (some ra)) := by rw [hW0, hpb]; simp [go_sem]
  have p2 : W0.cell? ⟨pb, 2, none⟩ = some (.map (some rk)) := by rw [hW0, hpb]; simp [go_sem]
  have zp : pb < W0.heap.size := World.block_lt_of_cell? _ _ p0
  have HEL : Hid (ls.length ≤ 3 * L.length) := by
    have h1 := edges_le hes
    rw [List.length_map] at h1
    exact h1
  have hel : ls.length ≤ 768 := by have := HEL.out; omega
  have hpl2 : pts.length ≤ 768 := by omega
  rw [← hpb]
  clear hW0 hpb hem hes hB0 HPK
  obtain ⟨N, hN⟩ : ∃ N, N = pts.length := ⟨_, rfl⟩
  have CE : Hid (∀ W' : World, Below W0.heap.size W0 W' → Calls Tryd.prog 24 #[.agg #[.slice ad L.length cc, .map (some ra), .map (some rk)]] W' fun e w' => e = .returned (.int .i64 (ls.length : Int)) ∧ Below W'.heap.size W' w') := fun W' hW' => edgesLen_any W' ad L.length cc ra rk ls c (HE0.out.2.2.1.grown (bl_grown hW') (by simp))
  have CPT : Hid (∀ W' : World, Below W0.heap.size W0 W' → Calls Tryd.prog 23 #[.agg #[.slice ad L.length cc, .map (some ra), .map (some rk)]] W' fun e w' => ∃ rm, e = .returned (.map (some rm)) ∧ (∀ wx : World, Below w'.heap.size w' wx → (Builtin.len_ #[67] 3 #[.map (some rm)]).run Tryd.prog wx = .ok (.int .i64 (pts.length : Int)) wx) ∧ Below W'.heap.size W' w') := fun W' hW' => (CP.out W' ad cc ra rk (bl_via HE0.out.1 hW') (HE0.out.2.1.kept hW')).mono fun e w' ⟨rm, he, hpt⟩ => ⟨rm, he, fun wx hx => by
    obtain ⟨ls2, c2, h1, h2⟩ := points_len hpt HPT.out
    have h3 := run_len_map (P := Tryd.prog) wx 67 3 rm _ c2 (by kernel_rfl) (h1.grown (bl_grown hx) (by simp))
    simpa [goInt, h2] using h3, hpt.2.1⟩
  clear hN CP CL
  go_cut [2, 3] (fun s2 s3 wx => s2 = .int .i64 (1 - (pts.length : Int) + (ls.length : Int) - (L.length : Int)) ∧ s3 = .int .i64 0 ∧ Below W0.heap.size W0 wx)
  case first =>
    have x1 : IntKind.i64.wrap (1 - (pts.length : Int)) = 1 - (pts.length : Int) := by rw [IntKind.wrap_i64]; omega
    have x2 : IntKind.i64.wrap (1 - (pts.length : Int) + (ls.length : Int)) = 1 - (pts.length : Int) + (ls.length : Int) := by rw [IntKind.wrap_i64]; omega
    have x3 : IntKind.i64.wrap (1 - (pts.length : Int) + (ls.length : Int) - (L.length : Int)) = 1 - (pts.length : Int) + (ls.length : Int) - (L.length : Int) := by rw [IntKind.wrap_i64]; omega
    refine wp_region_held_drew (S := (fun w' => w'.cell? ⟨pb, 0, none⟩ = some (.slice ad L.length cc) ∧ w'.cell? ⟨pb, 1, none⟩ = some (.map (some ra)) ∧ w'.cell? ⟨pb, 2, none⟩ = some (.map (some rk)))) (by kernel_rfl) (⟨by simpa using p0, by simpa using p1, by simpa using p2⟩) (fun hHeld => ?_)
    refine wpAnyH_take (i := 0) (v := .agg #[.slice ad L.length cc, .map (some ra), .map (some rk)]) rfl (by kernel_rfl) (by kernel_rfl) (by kernel_rfl) (fun _ _ _ h => h) (Or.inl ⟨by rfl, ?hyy⟩) (by assumption) ?_
    case hyy => (intro w' hSw; (try dsimp only at hSw); go_simp)
    try simp only [Act.put, List.getElem_toArray, List.getElem_cons_zero, List.setIfInBounds_toArray, List.set_cons_zero, List.set_cons_succ]
    refine wpAnyH_take (i := 4) (v := .agg #[.slice ad L.length cc, .map (some ra), .map (some rk)]) rfl (by kernel_rfl) (by kernel_rfl) (by kernel_rfl) (fun _ _ _ h => h) (Or.inl ⟨by rfl, ?hyy⟩) (by assumption) ?_
    case hyy => (intro w' hSw; (try dsimp only at hSw); go_simp)
    try simp only [Act.put, List.getElem_toArray, List.getElem_cons_succ, List.getElem_cons_zero, List.setIfInBounds_toArray, List.set_cons_zero, List.set_cons_succ]
    refine wpAnyH_take (i := 7) (v := .pointer (some ⟨pb, 0, none⟩)) rfl (by kernel_rfl) (by kernel_rfl) (by kernel_rfl) (fun _ _ _ h => h) (Or.inl ⟨by rfl, ?hyy⟩) (by assumption) ?_
    case hyy => (intro w' hSw; (try dsimp only at hSw); go_simp)
    try simp only [Act.put, List.getElem_toArray, List.getElem_cons_succ, List.getElem_cons_zero, List.setIfInBounds_toArray, List.set_cons_zero, List.set_cons_succ]
    refine wpAnyH_take (i := 8) (v := .slice ad L.length cc) rfl (by kernel_rfl) (by kernel_rfl) (by kernel_rfl) (fun _ _ _ h => h) (Or.inl ⟨by rfl, ?hyy⟩) (by assumption) ?_
    case hyy => (intro w' hSw; (try dsimp only at hSw); go_simp)
    try simp only [Act.put, List.getElem_toArray, List.getElem_cons_succ, List.getElem_cons_zero, List.setIfInBounds_toArray, List.set_cons_zero, List.set_cons_succ]
    refine wpAnyH_take (i := 9) (v := .int .i64 (L.length : Int)) rfl (by kernel_rfl) (by kernel_rfl) (by kernel_rfl) (fun _ _ _ h => h) (Or.inl ⟨by rfl, ?hyy⟩) (by assumption) ?_
    case hyy => (intro w' hSw; (try dsimp only at hSw); go_simp)
    try simp only [Act.put, List.getElem_toArray, List.getElem_cons_succ, List.getElem_cons_zero, List.setIfInBounds_toArray, List.set_cons_zero, List.set_cons_succ]
    refine wpAnyH_ready (rs := [1]) (by kernel_rfl) (by simp) ?_
    refine AllReadyH.cons rfl (fun K hK => ?_) AllReadyH.nil
    go_simp
    go_at_call 23
    refine (CPT.out _ (by with_reducible exact bl_drew (bl_refl _))).mono ?_
    rintro e w8 ⟨rm, rfl, hln, hb⟩
    have hq8 : Below W0.heap.size W0 w8 := bl_via (bl_drew (bl_refl _)) hb
    have p0_8 := cl_kept hq8 p0
    have p1_8 := cl_kept hq8 p1
    have p2_8 := cl_kept hq8 p2
    have hl8 := hln w8 (bl_refl _)
    have HLN : Hid (∀ wx : World, Below w8.heap.size w8 wx → (Builtin.len_ #[67] 3 #[.map (some rm)]).run Tryd.prog wx = .ok (.int .i64 (pts.length : Int)) wx) := hln
    have HQ8 : Hid (Below W0.heap.size W0 w8) := hq8
    clear hb hq8 hln
    go_wp2
    refine hK.out _ _ ⟨p0_8, p1_8, p2_8⟩ (fun _ => ?_)
    clear hK K hHeld
    try simp only [Act.put, List.getElem_toArray, List.getElem_cons_succ, List.getElem_cons_zero, List.setIfInBounds_toArray, List.set_cons_zero, List.set_cons_succ]
    refine wpAnyH_turn (S' := (fun w' => (Builtin.len_ #[67] 3 #[.map (some rm)]).run Tryd.prog w' = .ok (.int .i64 (pts.length : Int)) w' ∧ w'.cell? ⟨pb, 0, none⟩ = some (.slice ad L.length cc) ∧ w'.cell? ⟨pb, 1, none⟩ = some (.map (some ra)) ∧ w'.cell? ⟨pb, 2, none⟩ = some (.map (some rk)))) (fun w' h => h.2) _ _ _ _ ?_
    have hHeld2 : (fun w' => (Builtin.len_ #[67] 3 #[.map (some rm)]).run Tryd.prog w' = .ok (.int .i64 (pts.length : Int)) w' ∧ w'.cell? ⟨pb, 0, none⟩ = some (.slice ad L.length cc) ∧ w'.cell? ⟨pb, 1, none⟩ = some (.map (some ra)) ∧ w'.cell? ⟨pb, 2, none⟩ = some (.map (some rk))) w8 := ⟨hl8, p0_8, p1_8, p2_8⟩
    refine wpAnyH_take (i := 2) (v := .int .i64 (pts.length : Int)) rfl (by kernel_rfl) (by kernel_rfl) (by kernel_rfl) (fun _ _ _ h => h) (Or.inl ⟨by rfl, ?hyy⟩) (by assumption) ?_
    case hyy => (intro w' hSw; (try dsimp only at hSw); go_simp)
    try simp only [Act.put, List.getElem_toArray, List.getElem_cons_succ, List.getElem_cons_zero, List.setIfInBounds_toArray, List.set_cons_zero, List.set_cons_succ]
    refine wpAnyH_take (i := 3) (v := .int .i64 (1 - (pts.length : Int))) rfl (by kernel_rfl) (by kernel_rfl) (by kernel_rfl) (fun _ _ _ h => h) (Or.inl ⟨by rfl, ?hyy⟩) (by assumption) ?_
    case hyy => (intro w' hSw; (try dsimp only at hSw); go_simp)
    try simp only [Act.put, List.getElem_toArray, List.getElem_cons_succ, List.getElem_cons_zero, List.setIfInBounds_toArray, List.set_cons_zero, List.set_cons_succ]
    refine wpAnyH_ready (rs := [5]) (by kernel_rfl) (by simp) ?_
    refine AllReadyH.cons rfl (fun K hK => ?_) AllReadyH.nil
    go_simp
    go_at_call 24
    refine (CE.out _ HQ8.out).mono ?_
    rintro e w9 ⟨rfl, hb⟩
    have p0_9 := cl_kept hb p0_8
    have p1_9 := cl_kept hb p1_8
    have p2_9 := cl_kept hb p2_8
    have hl9 := HLN.out w9 hb
    have HQ9 : Hid (Below W0.heap.size W0 w9) := bl_via HQ8.out hb
    clear hb
    go_wp2
    refine hK.out _ _ ⟨hl9, p0_9, p1_9, p2_9⟩ (fun hHeld3 => ?_)
    clear hK K hHeld2
    try simp only [Act.put, List.getElem_toArray, List.getElem_cons_succ, List.getElem_cons_zero, List.setIfInBounds_toArray, List.set_cons_zero, List.set_cons_succ]
    refine wpAnyH_take (i := 6) (v := .int .i64 (1 - (pts.length : Int) + (ls.length : Int))) rfl (by kernel_rfl) (by kernel_rfl) (by kernel_rfl) (fun _ _ _ h => h) (Or.inl ⟨by rfl, ?hyy⟩) (by assumption) ?_
    case hyy => (intro w' hSw; (try dsimp only at hSw); go_simp)
    try simp only [Act.put, List.getElem_toArray, List.getElem_cons_succ, List.getElem_cons_zero, List.setIfInBounds_toArray, List.set_cons_zero, List.set_cons_succ]
    refine wpAnyH_take (i := 10) (v := .int .i64 (1 - (pts.length : Int) + (ls.length : Int) - (L.length : Int))) rfl (by kernel_rfl) (by kernel_rfl) (by kernel_rfl) (fun _ _ _ h => h) (Or.inl ⟨by rfl, ?hyy⟩) (by assumption) ?_
    case hyy => (intro w' hSw; (try dsimp only at hSw); go_simp)
    try simp only [Act.put, List.getElem_toArray, List.getElem_cons_succ, List.getElem_cons_zero, List.setIfInBounds_toArray, List.set_cons_zero, List.set_cons_succ]
    refine wpAnyH_take (i := 11) (v := .int .i64 (1 - (pts.length : Int) + (ls.length : Int) - (L.length : Int))) rfl (by kernel_rfl) (by kernel_rfl) (by kernel_rfl) (fun _ _ _ h => h) (Or.inl ⟨by rfl, ?hyy⟩) (by assumption) ?_
    case hyy => (intro w' hSw; (try dsimp only at hSw); go_simp)
    try simp only [Act.put, List.getElem_toArray, List.getElem_cons_succ, List.getElem_cons_zero, List.setIfInBounds_toArray, List.set_cons_zero, List.set_cons_succ]
    refine wpAnyH_take (i := 12) (v := .int .i64 0) rfl (by kernel_rfl) (by kernel_rfl) (by kernel_rfl) (fun _ _ _ h => h) (Or.inl ⟨by rfl, ?hyy⟩) (by assumption) ?_
    case hyy => (intro w' hSw; (try dsimp only at hSw); go_simp)
    try simp only [Act.put, List.getElem_toArray, List.getElem_cons_succ, List.getElem_cons_zero, List.setIfInBounds_toArray, List.set_cons_zero, List.set_cons_succ]
    refine wpAnyH_done (by kernel_rfl) ?_ _
    go_wp2
    go_meet
    case rel => exact ⟨by go_num, rfl, HQ9.out⟩
  case rest =>
    obtain ⟨rfl, rfl, hBc⟩ := hcut
    have HBc : Hid (Below w.heap.size w wc) := bl_via HE0.out.1 hBc
    clear hBc p0 p1 p2 zp
    go_wp2
    exact bodyPost_ret (v := .tuple #[.int .i64 (1 - (pts.length : Int) + (ls.length : Int) - (L.length : Int)), .int .i64 0]) (by simp [results, Tryd.results9, go_sem]) rfl ⟨ls.map (fun x => x.1), HE0.out.2.2.2, by rw [List.length_map]; exact HEL.out, by rw [List.length_map], HBc.out⟩
end Go.Proofs.YtoedcefbmbfnhabDoor
