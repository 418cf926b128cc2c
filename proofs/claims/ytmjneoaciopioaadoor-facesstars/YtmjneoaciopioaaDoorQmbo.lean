/- A part of the proof of a law on sheets. -/
import Derived.Test.YtmjneoaciopioaaDoorQmbj
import Derived.Test.YtmjneoaciopioaaDoorQmbi
import Derived.Test.YtmjneoaciopioaaDoorQmbn
import Derived.Test.YtmjneoaciopioaaDoorQmbl
import Derived.Test.YtmjneoaciopioaaDoorQmbf
import Derived.Maps.AppendAt
import Derived.Test.YtmjneoaciopioaaDoorQmbm
namespace Go.Proofs.YtmjneoaciopioaaDoor
open Go.RowKit Go.ChangeMaps

theorem wpAnyH_turn {P : Program} {md : Region.Mode} {ops : Array Oper} {Q : Exit → Act → World → Prop} {S S' : World → Prop} (hS : ∀ w, S' w → S w) : ∀ (fuel : Nat) (listed : Array Bool) (a : Act) (w : World), wpAnyH P md ops Q S' fuel listed a w → wpAnyH P md ops Q S fuel listed a w
  | 0, _, _, _, h => h
  | fuel + 1, _, _, _, h => ⟨h.1, fun i hi => wpOp_mono (fun a' w' h' => ⟨hS w' h'.1, wpAnyH_turn hS fuel _ a' w' h'.2⟩) (h.2 i hi)⟩

theorem three_len (L : List (Int × Int × Int)) : (L.flatMap fun t => [edg t 0, edg t 1, edg t 2]).length = 3 * L.length := by
  induction L with
  | nil => rfl
  | cons a l ih =>
    rw [List.flatMap_cons, List.length_append, ih, List.length_cons]
    simp
    omega
theorem edges_le {L : List (Int × Int × Int)} {E : List (Int × Int × Int × Int)} (hes : EdgeSet L E) : E.length ≤ 3 * L.length := by
  rw [← three_len]
  exact sub_len _ _ hes.1 (fun e he => by
    obtain ⟨t, ht, hh⟩ := (hes.2 e).1 he
    obtain ⟨i, hi, rfl⟩ := hasT_edg hh
    refine List.mem_flatMap.2 ⟨t, ht, ?_⟩
    have : i = 0 ∨ i = 1 ∨ i = 2 := by omega
    rcases this with rfl | rfl | rfl <;> simp)

set_option maxRecDepth 100000 in
theorem edgesLen_any (w : World) (ad : Option Addr) (n cc ra rk : Nat) (ls : List ((Int × Int × Int × Int) × Value × Nat)) (c : Nat) (h : EM w ra ls c) :
    Calls Tryd.prog 25 #[.agg #[.slice ad n cc, .map (some ra), .map (some rk)]] w fun e w' => e = .returned (.int .i64 (ls.length : Int)) ∧ Below w.heap.size w w' := by
  have h1 := h.grown (bl_grown (bl_alloc (o := .cells #[.slice ad n cc, .map (some ra), .map (some rk)] 63) (bl_refl w))) (by simp)
  unfold EM at h1
  have hln : (Builtin.len_ #[60] 3 #[.map (some ra)]).run Tryd.prog (w.alloc (.cells #[.slice ad n cc, .map (some ra), .map (some rk)] 63)) = .ok (.int .i64 (ls.length : Int)) (w.alloc (.cells #[.slice ad n cc, .map (some ra), .map (some rk)] 63)) := by
    have h2 := run_len_map (P := Tryd.prog) _ 60 3 ra _ c (by kernel_rfl) h1
    simpa [goInt] using h2
  clear h h1
  go_enter Tryd.func25, Tryd.ntmps25
  go_wp2
  go_ret
  exact ⟨rfl, bl_alloc (bl_refl _)⟩

theorem Holes_no (W H : Int) (a c : Option Addr) (n1 n2 ca cc : Nat) (w : World) (hcall : ∀ W' : World, Below w.heap.size w W' → Calls Tryd.prog 21 #[.agg #[.int .i64 W, .int .i64 H, .slice a n1 ca, .slice c n2 cc]] W' fun e w' => e = .returned (.tuple #[.agg #[.slice none 0 0, .map none, .map none], .bool false]) ∧ Below W'.heap.size W' w') :
    Calls Tryd.prog 9 #[.agg #[.int .i64 W, .int .i64 H, .slice a n1 ca, .slice c n2 cc]] w fun e w' => e = .returned (.tuple #[.int .i64 0, .int .i64 10]) ∧ Below w.heap.size w w' := by
  have HC : Hid (∀ W' : World, Below w.heap.size w W' → Calls Tryd.prog 21 #[.agg #[.int .i64 W, .int .i64 H, .slice a n1 ca, .slice c n2 cc]] W' fun e w' => e = .returned (.tuple #[.agg #[.slice none 0 0, .map none, .map none], .bool false]) ∧ Below W'.heap.size W' w') := hcall
  clear hcall
  go_enter Tryd.func9, Tryd.ntmps9
  go_wp2_with (go_at_call 21; refine (HC.out _ (by with_reducible exact bl_alloc (bl_refl _))).mono ?_; rintro e w2 ⟨rfl, hb⟩; have HB : Hid (Below w.heap.size w w2) := bl_via (bl_alloc (bl_refl _)) hb; clear hb)
  exact bodyPost_ret (v := .tuple #[.int .i64 0, .int .i64 10]) (by simp [results, Tryd.results9, go_sem]) rfl ⟨rfl, by with_reducible repeat (first | exact HB.out | refine bl_alloc ?_)⟩

set_option maxRecDepth 100000 in
set_option maxHeartbeats 3200000 in
theorem Holes_yes (W H b off cap n ccap : Nat) (cb : Option Addr) (zs ks : List Int) (w : World) (hr : Row w (some ⟨b, off, none⟩) zs) (hW : 1 ≤ W ∧ W ≤ 8) (hH : 1 ≤ H ∧ H ≤ 8) (hl : zs.length = W * H) (hm : maskB zs = true) (hk : Row w cb ks) (hn : ks.length = n * 5) (hn2 : n ≤ 3518437208883) (hs : Steps w) (hJ : Joined (ty zs W H)) (hC : ∀ i, i < n → CrOk (ty zs W H) ks i) (pts : List (Int × Int)) (hpts : SPt pts ((ty zs W H).flatMap cnr)) (hpl : pts.length ≤ 3 * (ty zs W H).length) :
    Calls Tryd.prog 9 #[.agg #[.int .i64 (W : Int), .int .i64 (H : Int), .slice (some ⟨b, off, none⟩) zs.length cap, .slice cb n ccap]] w fun e w' => ∃ E, EdgeSet (ty zs W H) E ∧ E.length ≤ 3 * (ty zs W H).length ∧ e = .returned (.tuple #[.int .i64 (1 - (pts.length : Int) + (E.length : Int) - ((ty zs W H).length : Int)), .int .i64 0]) ∧ Below w.heap.size w w' := by
  have CL : Hid (∀ W' : World, Below w.heap.size w W' → Calls Tryd.prog 21 #[.agg #[.int .i64 (W : Int), .int .i64 (H : Int), .slice (some ⟨b, off, none⟩) zs.length cap, .slice cb n ccap]] W' fun e w' => ∃ ad cc base ra rk, e = .returned (.tuple #[.agg #[.slice ad (ty zs W H).length cc, .map (some ra), .map (some rk)], .bool true]) ∧ PK W' w' base ra rk (.slice ad (ty zs W H).length cc) (ty zs W H) (gix (ty zs W H)) (kf ks n)) := fun W' hW' => lay_yes W H b off cap n ccap cb zs ks W' (hr.kept hW') hW hH hl hm (hk.kept hW') hn hn2 (hs.kept hW') hJ hC
  have hlen : (ty zs W H).length ≤ 256 := by have := ty_len zs W H hW.2; omega
  have CP : Hid (∀ (W' : World) (ad : Option Addr) (cc ra rk : Nat), Below w.heap.size w W' → TRow W' ad (ty zs W H) → Calls Tryd.prog 24 #[.agg #[.slice ad (ty zs W H).length cc, .map (some ra), .map (some rk)]] W' fun e w' => ∃ rm, e = .returned (.map (some rm)) ∧ PtM W' w' rm ((ty zs W H).flatMap tps)) := fun W' ad cc ra rk hW' hT => pointsOf_any W' cc ra rk ad _ (hs.kept hW') hT (by omega) (ty_bd hW.2 hH.2)
  have HPT : Hid (SPt pts ((ty zs W H).flatMap cnr)) := hpts
  obtain ⟨L, hL⟩ : ∃ L, L = ty zs W H := ⟨_, rfl⟩
  rw [← hL] at CL CP hlen HPT hpl
  rw [← hL]
  clear hr hk hl hm hW hH hn hs hJ hC hL hpts
  go_enter Tryd.func9, Tryd.ntmps9
  go_wp2_with (go_at_call 21; refine (CL.out _ (by with_reducible exact bl_alloc (bl_refl _))).mono ?_; rintro e w2 ⟨ad, cc, base, ra, rk, rfl, hpk⟩; have HB : Hid (Below w.heap.size w w2) := bl_via (bl_alloc (bl_refl _)) hpk.2.2.2.2; have HPK : Hid (TRow w2 ad L ∧ ∃ ls c, EM w2 ra ls c ∧ EdgeSet L (ls.map (fun x => x.1))) := ⟨hpk.pa.1, hpk.edges⟩; clear hpk)
  refine wp_named (fun W0 hW0 => ?_)
  obtain ⟨pb, hpb⟩ : ∃ p, p = w2.heap.size := ⟨_, rfl⟩
  obtain ⟨ls, c, hem, hes⟩ := HPK.out.2
  have hB0 : Below w2.heap.size w2 W0 := by rw [hW0]; exact bl_alloc (bl_refl _)
  have HE0 : Hid (Below w.heap.size w W0 ∧ TRow W0 ad L ∧ EM W0 ra ls c ∧ EdgeSet L (ls.map (fun x => x.1))) := ⟨bl_via HB.out hB0, HPK.out.1.kept hB0, hem.grown (bl_grown hB0) (by simp), hes⟩
  have p0 : W0.cell? ⟨pb, 0, none⟩ = some (.slice ad L.length cc) := by rw [hW0, hpb]; simp [go_sem]
  have p1 : W0.cell? ⟨pb, 1, none⟩ = some (.map (some ra)) := by rw [hW0, hpb]; simp [go_sem]
  have p2 : W0.cell? ⟨pb, 2, none⟩ = some (.map (some rk)) := by rw [hW0, hpb]; simp [go_sem]
  have zp : pb < W0.heap.size := World.block_lt_of_cell? _ _ p0
  have HEL : Hid (ls.length ≤ 3 * L.length) := by
    have h1 := edges_le hes
    rw [List.length_map] at h1
    exact h1
  have hel : ls.length ≤ 768 := by have := HEL.out; omega
  have hpl2 : pts.length ≤ 768 := by omega
  rw [← hpb]
  clear hW0 hpb hem hes hB0 HPK
  obtain ⟨N, hN⟩ : ∃ N, N = pts.length := ⟨_, rfl⟩
  have CE : Hid (∀ W' : World, Below W0.heap.size W0 W' → Calls Tryd.prog 25 #[.agg #[.slice ad L.length cc, .map (some ra), .map (some rk)]] W' fun e w' => e = .returned (.int .i64 (ls.length : Int)) ∧ Below W'.heap.size W' w') := fun W' hW' => edgesLen_any W' ad L.length cc ra rk ls c (HE0.out.2.2.1.grown (bl_grown hW') (by simp))
  have CPT : Hid (∀ W' : World, Below W0.heap.size W0 W' → Calls Tryd.prog 24 #[.agg #[.slice ad L.length cc, .map (some ra), .map (some rk)]] W' fun e w' => ∃ rm, e = .returned (.map (some rm)) ∧ (∀ wx : World, Below w'.heap.size w' wx → (Builtin.len_ #[68] 3 #[.map (some rm)]).run Tryd.prog wx = .ok (.int .i64 (pts.length : Int)) wx) ∧ Below W'.heap.size W' w') := fun W' hW' => (CP.out W' ad cc ra rk (bl_via HE0.out.1 hW') (HE0.out.2.1.kept hW')).mono fun e w' ⟨rm, he, hpt⟩ => ⟨rm, he, fun wx hx => by
    obtain ⟨ls2, c2, h1, h2⟩ := points_len hpt HPT.out
    have h3 := run_len_map (P := Tryd.prog) wx 68 3 rm _ c2 (by kernel_rfl) (h1.grown (bl_grown hx) (by simp))
    simpa [goInt, h2] using h3, hpt.2.1⟩
  clear hN CP CL
  go_cut [2, 3] (fun s2 s3 wx => s2 = .int .i64 (1 - (pts.length : Int) + (ls.length : Int) - (L.length : Int)) ∧ s3 = .int .i64 0 ∧ Below W0.heap.size W0 wx)
  case first =>
    have x1 : IntKind.i64.wrap (1 - (pts.length : Int)) = 1 - (pts.length : Int) := by rw [IntKind.wrap_i64]; omega
    have x2 : IntKind.i64.wrap (1 - (pts.length : Int) + (ls.length : Int)) = 1 - (pts.length : Int) + (ls.length : Int) := by rw [IntKind.wrap_i64]; omega
    have x3 : IntKind.i64.wrap (1 - (pts.length : Int) + (ls.length : Int) - (L.length : Int)) = 1 - (pts.length : Int) + (ls.length : Int) - (L.length : Int) := by rw [IntKind.wrap_i64]; omega
    refine wp_region_held_drew (S := (fun w' => w'.cell? ⟨pb, 0, none⟩ = some (.slice ad L.length cc) ∧ w'.cell? ⟨pb, 1, none⟩ = some (.map (some ra)) ∧ w'.cell? ⟨pb, 2, none⟩ = some (.map (some rk)))) (by kernel_rfl) (⟨by simpa using p0, by simpa using p1, by simpa using p2⟩) (fun hHeld => ?_)
    refine wpAnyH_take (i := 0) (v := .agg #[.slice ad L.length cc, .map (some ra), .map (some rk)]) rfl (by kernel_rfl) (by kernel_rfl) (by kernel_rfl) (fun _ _ _ h => h) (Or.inl ⟨by rfl, ?hyy⟩) (by assumption) ?_
    case hyy => (intro w' hSw; (try dsimp only at hSw); go_simp)
    try simp only [Act.put, List.getElem_toArray, List.getElem_cons_zero, List.setIfInBounds_toArray, List.set_cons_zero, List.set_cons_succ]
    refine wpAnyH_take (i := 4) (v := .agg #[.slice ad L.length cc, .map (some ra), .map (some rk)]) rfl (by kernel_rfl) (by kernel_rfl) (by kernel_rfl) (fun _ _ _ h => h) (Or.inl ⟨by rfl, ?hyy⟩) (by assumption) ?_
    case hyy => (intro w' hSw; (try dsimp only at hSw); go_simp)
    try simp only [Act.put, List.getElem_toArray, List.getElem_cons_succ, List.getElem_cons_zero, List.setIfInBounds_toArray, List.set_cons_zero, List.set_cons_succ]
    refine wpAnyH_take (i := 7) (v := .pointer (some ⟨pb, 0, none⟩)) rfl (by kernel_rfl) (by kernel_rfl) (by kernel_rfl) (fun _ _ _ h => h) (Or.inl ⟨by rfl, ?hyy⟩) (by assumption) ?_
    case hyy => (intro w' hSw; (try dsimp only at hSw); go_simp)
    try simp only [Act.put, List.getElem_toArray, List.getElem_cons_succ, List.getElem_cons_zero, List.setIfInBounds_toArray, List.set_cons_zero, List.set_cons_succ]
    refine wpAnyH_take (i := 8) (v := .slice ad L.length cc) rfl (by kernel_rfl) (by kernel_rfl) (by kernel_rfl) (fun _ _ _ h => h) (Or.inl ⟨by rfl, ?hyy⟩) (by assumption) ?_
    case hyy => (intro w' hSw; (try dsimp only at hSw); go_simp)
    try simp only [Act.put, List.getElem_toArray, List.getElem_cons_succ, List.getElem_cons_zero, List.setIfInBounds_toArray, List.set_cons_zero, List.set_cons_succ]
    refine wpAnyH_take (i := 9) (v := .int .i64 (L.length : Int)) rfl (by kernel_rfl) (by kernel_rfl) (by kernel_rfl) (fun _ _ _ h => h) (Or.inl ⟨by rfl, ?hyy⟩) (by assumption) ?_
    case hyy => (intro w' hSw; (try dsimp only at hSw); go_simp)
    try simp only [Act.put, List.getElem_toArray, List.getElem_cons_succ, List.getElem_cons_zero, List.setIfInBounds_toArray, List.set_cons_zero, List.set_cons_succ]
    refine wpAnyH_ready (rs := [1]) (by kernel_rfl) (by simp) ?_
    refine AllReadyH.cons rfl (fun K hK => ?_) AllReadyH.nil
    go_simp
    go_at_call 24
    refine (CPT.out _ (by with_reducible exact bl_drew (bl_refl _))).mono ?_
    rintro e w8 ⟨rm, rfl, hln, hb⟩
    have hq8 : Below W0.heap.size W0 w8 := bl_via (bl_drew (bl_refl _)) hb
    have p0_8 := cl_kept hq8 p0
    have p1_8 := cl_kept hq8 p1
    have p2_8 := cl_kept hq8 p2
    have hl8 := hln w8 (bl_refl _)
    have HLN : Hid (∀ wx : World, Below w8.heap.size w8 wx → (Builtin.len_ #[68] 3 #[.map (some rm)]).run Tryd.prog wx = .ok (.int .i64 (pts.length : Int)) wx) := hln
    have HQ8 : Hid (Below W0.heap.size W0 w8) := hq8
    clear hb hq8 hln
    go_wp2
    refine hK.out _ _ ⟨p0_8, p1_8, p2_8⟩ (fun _ => ?_)
    clear hK K hHeld
    try simp only [Act.put, List.getElem_toArray, List.getElem_cons_succ, List.getElem_cons_zero, List.setIfInBounds_toArray, List.set_cons_zero, List.set_cons_succ]
    refine wpAnyH_turn (S' := (fun w' => (Builtin.len_ #[68] 3 #[.map (some rm)]).run Tryd.prog w' = .ok (.int .i64 (pts.length : Int)) w' ∧ w'.cell? ⟨pb, 0, none⟩ = some (.slice ad L.length cc) ∧ w'.cell? ⟨pb, 1, none⟩ = some (.map (some ra)) ∧ w'.cell? ⟨pb, 2, none⟩ = some (.map (some rk)))) (fun w' h => h.2) _ _ _ _ ?_
    have hHeld2 : (fun w' => (Builtin.len_ #[68] 3 #[.map (some rm)]).run Tryd.prog w' = .ok (.int .i64 (pts.length : Int)) w' ∧ w'.cell? ⟨pb, 0, none⟩ = some (.slice ad L.length cc) ∧ w'.cell? ⟨pb, 1, none⟩ = some (.map (some ra)) ∧ w'.cell? ⟨pb, 2, none⟩ = some (.map (some rk))) w8 := ⟨hl8, p0_8, p1_8, p2_8⟩
    refine wpAnyH_take (i := 2) (v := .int .i64 (pts.length : Int)) rfl (by kernel_rfl) (by kernel_rfl) (by kernel_rfl) (fun _ _ _ h => h) (Or.inl ⟨by rfl, ?hyy⟩) (by assumption) ?_
    case hyy => (intro w' hSw; (try dsimp only at hSw); go_simp)
    try simp only [Act.put, List.getElem_toArray, List.getElem_cons_succ, List.getElem_cons_zero, List.setIfInBounds_toArray, List.set_cons_zero, List.set_cons_succ]
    refine wpAnyH_take (i := 3) (v := .int .i64 (1 - (pts.length : Int))) rfl (by kernel_rfl) (by kernel_rfl) (by kernel_rfl) (fun _ _ _ h => h) (Or.inl ⟨by rfl, ?hyy⟩) (by assumption) ?_
    case hyy => (intro w' hSw; (try dsimp only at hSw); go_simp)
    try simp only [Act.put, List.getElem_toArray, List.getElem_cons_succ, List.getElem_cons_zero, List.setIfInBounds_toArray, List.set_cons_zero, List.set_cons_succ]
    refine wpAnyH_ready (rs := [5]) (by kernel_rfl) (by simp) ?_
    refine AllReadyH.cons rfl (fun K hK => ?_) AllReadyH.nil
    go_simp
    go_at_call 25
    refine (CE.out _ HQ8.out).mono ?_
    rintro e w9 ⟨rfl, hb⟩
    have p0_9 := cl_kept hb p0_8
    have p1_9 := cl_kept hb p1_8
    have p2_9 := cl_kept hb p2_8
    have hl9 := HLN.out w9 hb
    have HQ9 : Hid (Below W0.heap.size W0 w9) := bl_via HQ8.out hb
    clear hb
    go_wp2
    refine hK.out _ _ ⟨hl9, p0_9, p1_9, p2_9⟩ (fun hHeld3 => ?_)
    clear hK K hHeld2
    try simp only [Act.put, List.getElem_toArray, List.getElem_cons_succ, List.getElem_cons_zero, List.setIfInBounds_toArray, List.set_cons_zero, List.set_cons_succ]
    refine wpAnyH_take (i := 6) (v := .int .i64 (1 - (pts.length : Int) + (ls.length : Int))) rfl (by kernel_rfl) (by kernel_rfl) (by kernel_rfl) (fun _ _ _ h => h) (Or.inl ⟨by rfl, ?hyy⟩) (by assumption) ?_
    case hyy => (intro w' hSw; (try dsimp only at hSw); go_simp)
    try simp only [Act.put, List.getElem_toArray, List.getElem_cons_succ, List.getElem_cons_zero, List.setIfInBounds_toArray, List.set_cons_zero, List.set_cons_succ]
    refine wpAnyH_take (i := 10) (v := .int .i64 (1 - (pts.length : Int) + (ls.length : Int) - (L.length : Int))) rfl (by kernel_rfl) (by kernel_rfl) (by kernel_rfl) (fun _ _ _ h => h) (Or.inl ⟨by rfl, ?hyy⟩) (by assumption) ?_
    case hyy => (intro w' hSw; (try dsimp only at hSw); go_simp)
    try simp only [Act.put, List.getElem_toArray, List.getElem_cons_succ, List.getElem_cons_zero, List.setIfInBounds_toArray, List.set_cons_zero, List.set_cons_succ]
    refine wpAnyH_take (i := 11) (v := .int .i64 (1 - (pts.length : Int) + (ls.length : Int) - (L.length : Int))) rfl (by kernel_rfl) (by kernel_rfl) (by kernel_rfl) (fun _ _ _ h => h) (Or.inl ⟨by rfl, ?hyy⟩) (by assumption) ?_
    case hyy => (intro w' hSw; (try dsimp only at hSw); go_simp)
    try simp only [Act.put, List.getElem_toArray, List.getElem_cons_succ, List.getElem_cons_zero, List.setIfInBounds_toArray, List.set_cons_zero, List.set_cons_succ]
    refine wpAnyH_take (i := 12) (v := .int .i64 0) rfl (by kernel_rfl) (by kernel_rfl) (by kernel_rfl) (fun _ _ _ h => h) (Or.inl ⟨by rfl, ?hyy⟩) (by assumption) ?_
    case hyy => (intro w' hSw; (try dsimp only at hSw); go_simp)
    try simp only [Act.put, List.getElem_toArray, List.getElem_cons_succ, List.getElem_cons_zero, List.setIfInBounds_toArray, List.set_cons_zero, List.set_cons_succ]
    refine wpAnyH_done (by kernel_rfl) ?_ _
    go_wp2
    go_meet
    case rel => exact ⟨by go_num, rfl, HQ9.out⟩
  case rest =>
    obtain ⟨rfl, rfl, hBc⟩ := hcut
    have HBc : Hid (Below w.heap.size w wc) := bl_via HE0.out.1 hBc
    clear hBc p0 p1 p2 zp
    go_wp2
    exact bodyPost_ret (v := .tuple #[.int .i64 (1 - (pts.length : Int) + (ls.length : Int) - (L.length : Int)), .int .i64 0]) (by simp [results, Tryd.results9, go_sem]) rfl ⟨ls.map (fun x => x.1), HE0.out.2.2.2, by rw [List.length_map]; exact HEL.out, by rw [List.length_map], HBc.out⟩
end Go.Proofs.YtmjneoaciopioaaDoor
namespace Go.Proofs.YtmjneoaciopioaaDoor
open Go.RowKit

/-- What a triangle's first edges count. -/
def gk3 (L : List (Int × Int × Int)) (t : Int × Int × Int) (k : Nat) : Nat := ((List.range k).map fun j => fE L (edg t j)).sum
theorem gk3_next (L : List (Int × Int × Int)) (t : Int × Int × Int) (k : Nat) : gk3 L t (k + 1) = gk3 L t k + fE L (edg t k) := by
  simp [gk3, List.range_succ]
theorem gk3_zero (L : List (Int × Int × Int)) (t : Int × Int × Int) : gk3 L t 0 = 0 := rfl
theorem gk3_three (L : List (Int × Int × Int)) (t : Int × Int × Int) : gk3 L t 3 = g3 L t := by
  simp only [gk3_next, gk3_zero, g3]
  omega
theorem fE_le (L : List (Int × Int × Int)) (e : Int × Int × Int × Int) : fE L e ≤ 2 := by
  unfold fE
  split <;> omega
theorem gk3_le (L : List (Int × Int × Int)) (t : Int × Int × Int) : ∀ k, gk3 L t k ≤ 2 * k
  | 0 => by simp [gk3]
  | k + 1 => by
    rw [gk3_next]
    have := gk3_le L t k
    have := fE_le L (edg t k)
    omega
/-- What the first triangles count. -/
def gs3 (L : List (Int × Int × Int)) (i : Nat) : Nat := ((L.take i).map (g3 L)).sum
theorem gs3_next (L : List (Int × Int × Int)) (i : Nat) (h : i < L.length) : gs3 L (i + 1) = gs3 L i + g3 L L[i] := by
  unfold gs3
  rw [List.take_succ_eq_append_getElem h, List.map_append, List.sum_append]
  simp
theorem gs3_le (L : List (Int × Int × Int)) : ∀ i, gs3 L i ≤ 6 * i
  | 0 => by simp [gs3]
  | i + 1 => by
    by_cases h : i < L.length
    · rw [gs3_next L i h]
      have := gs3_le L i
      have := gk3_le L L[i] 3
      rw [gk3_three] at this
      omega
    · have e : gs3 L (i + 1) = gs3 L i := by
        unfold gs3
        rw [List.take_of_length_le (by omega), List.take_of_length_le (by omega)]
      rw [e]
      have := gs3_le L i
      omega

set_option maxRecDepth 100000 in
set_option maxHeartbeats 6400000 in
theorem holesOf_any (W H b off cap : Nat) (zs : List Int) (cb : Option Addr) (n ccap : Nat) (m : Nat) (w : World) (hr : Row w (some ⟨b, off, none⟩) zs) (hW : 1 ≤ W ∧ W ≤ 8) (hH : 1 ≤ H ∧ H ≤ 8) (hl : zs.length = W * H) (hm : maskB zs = true) (h2 : ((ty zs W H).map (g3 (ty zs W H))).sum = 2 * m) :
    Calls Tryd.prog 12 #[.agg #[.int .i64 (W : Int), .int .i64 (H : Int), .slice (some ⟨b, off, none⟩) zs.length cap, .slice cb n ccap]] w fun e w' => ∃ pts : List (Int × Int), e = .returned (.int .i64 (1 - (pts.length : Int) + (m : Int) - ((ty zs W H).length : Int))) ∧ SPt pts ((ty zs W H).flatMap cnr) ∧ pts.length ≤ 3 * (ty zs W H).length ∧ Below w.heap.size w w' := by
  have C29 : Hid (∀ W' : World, Below w.heap.size w W' → Calls Tryd.prog 30 #[.agg #[.int .i64 (W : Int), .int .i64 (H : Int), .slice (some ⟨b, off, none⟩) zs.length cap, .slice cb n ccap]] W' fun e w' => ∃ v, e = .returned v ∧ w'.ownsRow (W'.heap.size + 1) 80 3 v (ty zs W H).length (flatV (ty zs W H)) ∧ Below W'.heap.size W' w') := fun W' hW' => trisOf_any W H b off cap zs (.slice cb n ccap) W' (hr.kept hW') hW hH hl hm
  have C32 : Hid (∀ W' : World, Below w.heap.size w W' → Calls Tryd.prog 33 #[.agg #[.int .i64 (W : Int), .int .i64 (H : Int), .slice (some ⟨b, off, none⟩) zs.length cap, .slice cb n ccap]] W' fun e w' => ∃ v pts, e = .returned v ∧ w'.ownsRow W'.heap.size 43 2 v pts.length (flatP pts) ∧ SPt pts ((ty zs W H).flatMap cnr) ∧ pts.length ≤ 3 * (ty zs W H).length ∧ Below W'.heap.size W' w') := fun W' hW' => refPoints_any W H b off cap zs (.slice cb n ccap) W' (hr.kept hW') hW hH hl hm
  have C27 : Hid (∀ (p q r s : Int) (W' : World), Below w.heap.size w W' → Calls Tryd.prog 28 #[.agg #[.int .i64 (W : Int), .int .i64 (H : Int), .slice (some ⟨b, off, none⟩) zs.length cap, .slice cb n ccap], .agg #[.int .i64 p, .int .i64 q, .int .i64 r, .int .i64 s]] W' fun e w' => e = .returned (.bool (decide (cnt (ty zs W H) p q r s = 2))) ∧ Below W'.heap.size W' w') := fun p q r s W' hW' => innerEdge_any W H b off cap zs (.slice cb n ccap) p q r s W' (hr.kept hW') hW hH hl hm
  have HBD : Hid (∀ t ∈ ty zs W H, (0 ≤ t.1 ∧ t.1 ≤ 8) ∧ (0 ≤ t.2.1 ∧ t.2.1 ≤ 8) ∧ (0 ≤ t.2.2 ∧ t.2.2 ≤ 3)) := ty_bd hW.2 hH.2
  have hlen : (ty zs W H).length ≤ 256 := by have := ty_len zs W H hW.2; omega
  obtain ⟨L, hL⟩ : ∃ L, L = ty zs W H := ⟨_, rfl⟩
  rw [← hL] at C29 C32 C27 HBD hlen h2 ⊢
  have HM : Hid (gs3 L L.length = 2 * m) := by
    have : gs3 L L.length = 2 * m := by
      unfold gs3
      rw [List.take_length]
      exact h2
    exact this
  clear hr hW hH hl hm hL h2
  obtain ⟨zl, hzl⟩ : ∃ n, n = zs.length := ⟨_, rfl⟩
  rw [← hzl] at C29 C32 C27 ⊢
  clear hzl
  go_enter Tryd.func12, Tryd.ntmps12
  go_wp2_with (go_at_call 30; refine (C29.out _ (by with_reducible exact bl_alloc (bl_refl _))).mono ?_; rintro e w1 ⟨v, rfl, ho, hb⟩; obtain ⟨a, ca, rfl, hT⟩ := own_tris ho; have HW : Hid (TRow w1 a L ∧ Below w.heap.size w w1) := ⟨hT, bl_via (bl_alloc (bl_refl _)) hb⟩; have p0 : w1.cell? ⟨w.heap.size, 0, none⟩ = some (.int .i64 (W : Int)) := cl_kept hb (by simp [go_sem]); have p1 : w1.cell? ⟨w.heap.size, 1, none⟩ = some (.int .i64 (H : Int)) := cl_kept hb (by simp [go_sem]); have p2 : w1.cell? ⟨w.heap.size, 2, none⟩ = some (.slice (some ⟨b, off, none⟩) zl cap) := cl_kept hb (by simp [go_sem]); have p3 : w1.cell? ⟨w.heap.size, 3, none⟩ = some (.slice cb n ccap) := cl_kept hb (by simp [go_sem]); clear hT ho hb)
  have HP : Hid (w1.cell? ⟨w.heap.size, 0, none⟩ = some (.int .i64 (W : Int)) ∧ w1.cell? ⟨w.heap.size, 1, none⟩ = some (.int .i64 (H : Int)) ∧ w1.cell? ⟨w.heap.size, 2, none⟩ = some (.slice (some ⟨b, off, none⟩) zl cap) ∧ w1.cell? ⟨w.heap.size, 3, none⟩ = some (.slice cb n ccap)) := ⟨p0, p1, p2, p3⟩
  clear p0 p1 p2 p3
  obtain ⟨pb, hpb⟩ : ∃ p, p = w.heap.size := ⟨_, rfl⟩
  rw [← hpb] at HP
  rw [← hpb]
  clear hpb
  go_loopg [4, 5] L.length (fun gk s4 s5 wx => ∃ i : Nat, i ≤ L.length ∧ gk = L.length - i ∧ s4 = .int .i64 (gs3 L i : Int) ∧ s5 = .int .i64 (i : Int) ∧ Below w1.heap.size w1 wx)
  case atStart => exact ⟨0, by omega, rfl, by simp [gs3], rfl, bl_refl _⟩
  case round =>
    obtain ⟨i, hi, rfl, rfl, rfl, hB⟩ := hrel
    have HB : Hid (Below w1.heap.size w1 wr) := hB
    clear hB
    have hgs := gs3_le L i
    by_cases h1 : i < L.length
    · have i1 : (i : Int) < (L.length : Int) := by omega
      have i0 : (0 : Int) ≤ (i : Int) := by omega
      obtain ⟨ga, rfl, t0, t1, t2⟩ := (HW.out.1.kept HB.out) i h1
      obtain ⟨t, ht⟩ : ∃ t, t = L[i] := ⟨_, rfl⟩
      obtain ⟨x, y, kk⟩ := t
      have hbd := HBD.out _ (List.getElem_mem h1)
      rw [← ht] at t0 t1 t2 hbd
      dsimp only at t0 t1 t2 hbd
      have HT : Hid ((x, y, kk) = L[i]) := ht
      have zt : ga < wr.heap.size := World.block_lt_of_cell? _ _ t0
      have C31 : Hid (∀ W' : World, Calls Tryd.prog 32 #[.agg #[.int .i64 x, .int .i64 y, .int .i64 kk]] W' fun e w' => ∃ g, e = .returned (.slice (some ⟨g, 0, none⟩) 3 3) ∧ W'.heap.size ≤ g ∧ Twl w' g (ue0 x y kk) (ue1 x y kk) (ue2 x y kk) (ue3 x y kk) (ue4 x y kk) (ue5 x y kk) (ue6 x y kk) (ue7 x y kk) (ue8 x y kk) (ue9 x y kk) (ue10 x y kk) (ue11 x y kk) ∧ Below W'.heap.size W' w') := fun W' => edgesOf_any x y kk W' (by omega) (by omega) (by omega) (by omega) hbd.2.2.1 hbd.2.2.2
      clear ht hbd
      go_wp2_with (go_at_call 32; refine (C31.out _).mono ?_; rintro e w4 ⟨ge, rfl, hge, hTw, hb⟩; have HG4 : Hid (Below w1.heap.size w1 w4 ∧ E3 w4 ge (x, y, kk)) := ⟨bl_via HB.out hb, hTw.e3⟩; clear hge hTw hb)
      go_loopg [4, 7] 3 (fun gk s4 s7 wx => ∃ k : Nat, k ≤ 3 ∧ gk = 3 - k ∧ s4 = .int .i64 ((gs3 L i + gk3 L (x, y, kk) k : Nat) : Int) ∧ s7 = .int .i64 (k : Int) ∧ Below w1.heap.size w1 wx ∧ E3 wx ge (x, y, kk))
      case atStart => exact ⟨0, by omega, rfl, by simp [gk3], rfl, HG4.out.1, HG4.out.2⟩
      case round =>
        clear HG4 HB C31 t0 t1 t2 zt
        obtain ⟨k, hk, rfl, rfl, rfl, hB, hE⟩ := hrel
        have HB : Hid (Below w1.heap.size w1 wr ∧ E3 wr ge (x, y, kk)) := ⟨hB, hE⟩
        clear hB hE
        have hgk := gk3_le L (x, y, kk) k
        have hgn := gk3_next L (x, y, kk) k
        obtain ⟨G, hG⟩ : ∃ G, G = gs3 L i + gk3 L (x, y, kk) k := ⟨_, rfl⟩
        rw [← hG]
        by_cases hk1 : k < 3
        · have ik : (k : Int) < 3 := by omega
          have ik0 : (0 : Int) ≤ (k : Int) := by omega
          obtain ⟨m0, m1, m2, m3⟩ := HB.out.2 k hk1
          obtain ⟨q, hq⟩ : ∃ q, q = edg (x, y, kk) k := ⟨_, rfl⟩
          obtain ⟨q0, q1, q2, q3⟩ := q
          rw [← hq] at m0 m1 m2 m3 hgn
          dsimp only at m0 m1 m2 m3
          have ze : ge < wr.heap.size := World.block_lt_of_cell? _ _ m0
          have p0 := cl_kept HB.out.1 HP.out.1
          have p1 := cl_kept HB.out.1 HP.out.2.1
          have p2 := cl_kept HB.out.1 HP.out.2.2.1
          have p3 := cl_kept HB.out.1 HP.out.2.2.2
          have zp : pb < wr.heap.size := World.block_lt_of_cell? _ _ p0
          have kc := Kin.cells wr
          have kn : Nonempty (Kin wr) := ⟨⟨wr, bl_refl _⟩⟩
          obtain ⟨bo, hbo⟩ : ∃ bo, bo = decide (cnt L q0 q1 q2 q3 = 2) := ⟨_, rfl⟩
          have hfe : fE L (q0, q1, q2, q3) = if bo = true then 1 else 2 := by
            rw [hbo]
            simp [fE]
          have CI : Hid (∀ W' : World, Below wr.heap.size wr W' → Calls Tryd.prog 28 #[.agg #[.int .i64 (W : Int), .int .i64 (H : Int), .slice (some ⟨b, off, none⟩) zl cap, .slice cb n ccap], .agg #[.int .i64 q0, .int .i64 q1, .int .i64 q2, .int .i64 q3]] W' fun e w' => e = .returned (.bool bo) ∧ Below W'.heap.size W' w') := fun W' hW' => hbo ▸ C27.out q0 q1 q2 q3 W' (bl_via (bl_via HW.out.2 HB.out.1) hW')
          rw [hfe] at hgn
          clear hq hbo hfe
          go_wp2
          refine wp_region_kin (by kernel_rfl) (by kernel_rfl) ?_
          repeat (go_big_quiet_step ((go_at_call 28; exact kin_of (CI.out _ (Kin.h _)))))
          refine wpQuiet_nil ?_
          intro wq hw'
          obtain ⟨nq, hw''⟩ := hw'
          have hq : Below wr.heap.size wr wq := hw'' ▸ nq.h
          have HQ : Hid (Below w1.heap.size w1 wq ∧ E3 wq ge (x, y, kk)) := ⟨bl_via HB.out.1 hq, HB.out.2.kept hq⟩
          clear hw'' nq hq kc kn ze zp m0 m1 m2 m3 p0 p1 p2 p3
          cases bo
          · go_wp2
            go_roundg (3 - (k + 1))
            case measure => omega
            case rel => exact ⟨k + 1, by omega, rfl, by simp at hgn; rw [hgn]; go_num, by go_num, HQ.out.1, HQ.out.2⟩
          · go_wp2
            go_roundg (3 - (k + 1))
            case measure => omega
            case rel => exact ⟨k + 1, by omega, rfl, by simp at hgn; rw [hgn]; go_num, by go_num, HQ.out.1, HQ.out.2⟩
        · have ik : ¬ (k : Int) < 3 := by omega
          obtain rfl : k = 3 := by omega
          go_wp2
          go_roundg (L.length - (i + 1))
          case measure => omega
          case rel => exact ⟨i + 1, by omega, rfl, by rw [gs3_next L i h1, ← HT.out, ← gk3_three]; simp, by go_num, HB.out.1⟩
    · have i1 : ¬ (i : Int) < (L.length : Int) := by omega
      obtain rfl : i = L.length := by omega
      have p0 := cl_kept HB.out HP.out.1
      have p1 := cl_kept HB.out HP.out.2.1
      have p2 := cl_kept HB.out HP.out.2.2.1
      have p3 := cl_kept HB.out HP.out.2.2.2
      have hm2 : m ≤ 768 := by have := HM.out; omega
      rw [HM.out]
      go_wp2_with (go_at_call 33; refine (C32.out _ (bl_via HW.out.2 HB.out)).mono ?_; rintro e w5 ⟨v, pts, rfl, ho, hS, hpl, hb⟩; obtain ⟨pa, pc, rfl, hPR⟩ := own_points ho; have HZ : Hid (SPt pts (L.flatMap cnr) ∧ pts.length ≤ 3 * L.length ∧ Below w.heap.size w w5) := ⟨hS, hpl, bl_via (bl_via HW.out.2 HB.out) hb⟩; have hpl2 : pts.length ≤ 768 := (by omega); clear ho hS hPR hb)
      go_ret
      exact ⟨pts, by go_num, HZ.out.1, HZ.out.2.1, HZ.out.2.2⟩

/-- The block of a row of one's own bears its elements' type. -/
theorem own_type {w : World} {B : Nat} {e : TypeId} {size : Nat} {v : Value} {n : Nat} {xs : List Value} (h : w.ownsRow B e size v n xs) : ∀ g, v.ownBlock = some g → ∃ c, w.heap[g]? = some (.cells c e (0, 0)) := by
  intro g hg
  rcases h.2 with ⟨rfl, _⟩ | ⟨g', cap, cur, rfl, _, hc, _⟩
  · simp [Value.ownBlock] at hg
  · simp only [Value.ownBlock, Option.some.injEq] at hg
    subst hg
    exact ⟨cur, hc⟩
/-- Rows of triangles in a row, no two of them in one block. -/
def NestV (w : World) (base : Nat) (v : Value) (F : List (List (Int × Int × Int))) (vs : List Value) : Prop :=
  vs.length = F.length ∧ w.ownsRow base 37 1 v F.length vs ∧ (∀ n (h : n < vs.length) (h' : n < F.length), w.ownsRow base 80 3 vs[n] F[n].length (flatV F[n])) ∧
  ∀ n m (hn : n < vs.length) (hm : m < vs.length), n ≠ m → ∀ b, vs[n].ownBlock = some b → vs[m].ownBlock ≠ some b
def Nest (w : World) (base : Nat) (v : Value) (F : List (List (Int × Int × Int))) : Prop := ∃ vs, NestV w base v F vs
theorem nest_nil (w : World) (base : Nat) : Nest w base (.slice none 0 0) [] := ⟨[], rfl, World.ownsRow_nil _ _ _ _, fun n h => by simp at h, fun n m h => by simp at h⟩
theorem NestV.apart {w : World} {base : Nat} {v : Value} {F : List (List (Int × Int × Int))} {vs : List Value} (h : NestV w base v F vs) {n : Nat} (hn : n < vs.length) : vs[n].ownBlock = none ∨ vs[n].ownBlock ≠ v.ownBlock := by
  cases e : vs[n].ownBlock with
  | none => exact Or.inl rfl
  | some b =>
    right
    intro e2
    obtain ⟨c1, g1⟩ := own_type (h.2.2.1 n hn (by rw [← h.1]; exact hn)) b e
    obtain ⟨c2, g2⟩ := own_type h.2.1 b e2.symm
    rw [g1] at g2
    simp at g2
theorem NestV.grown {w w' : World} {base : Nat} {v : Value} {F : List (List (Int × Int × Int))} {vs : List Value} (h : NestV w base v F vs) (hg : w.grownBy w' none) : NestV w' base v F vs :=
  ⟨h.1, h.2.1.kept hg (by cases v.ownBlock <;> simp), fun n h1 h2 => (h.2.2.1 n h1 h2).kept hg (by cases vs[n].ownBlock <;> simp), h.2.2.2⟩
theorem NestV.kept {w w' : World} {base : Nat} {v : Value} {F : List (List (Int × Int × Int))} {vs : List Value} (h : NestV w base v F vs) (hb : Below w.heap.size w w') : NestV w' base v F vs := h.grown (bl_grown hb)
/-- A row with nothing in it at the end. -/
theorem NestV.more {w w' : World} {base : Nat} {v v' : Value} {F : List (List (Int × Int × Int))} {vs : List Value} (h : NestV w base v F vs) (ho : w'.ownsRow base 37 1 v' (F.length + 1) (vs ++ [.slice none 0 0])) (hg : w.grownBy w' v.ownBlock) : NestV w' base v' (F ++ [[]]) (vs ++ [.slice none 0 0]) := by
  refine ⟨by simp [h.1], by simpa using ho, fun n h1 h2 => ?_, fun n m h1 h2 hne b hb => ?_⟩
  · by_cases hn : n < vs.length
    · have hn2 : n < F.length := by rw [← h.1]; exact hn
      rw [List.getElem_append_left hn, List.getElem_append_left hn2]
      exact (h.2.2.1 n hn hn2).kept hg (h.apart hn)
    · have e1 : n = vs.length := by simp at h1; omega
      have e2 : n = F.length := by rw [e1, h.1]
      have q1 : (vs ++ [Value.slice none 0 0])[n] = .slice none 0 0 := by subst e1; simp
      have q2 : (F ++ [[]])[n] = [] := by subst e2; simp
      rw [q1, q2]
      exact World.ownsRow_nil _ _ _ _
  · by_cases hn : n < vs.length
    · rw [List.getElem_append_left hn] at hb
      by_cases hm : m < vs.length
      · rw [List.getElem_append_left hm]
        exact h.2.2.2 n m hn hm hne b hb
      · have e1 : m = vs.length := by simp at h2; omega
        have q1 : (vs ++ [Value.slice none 0 0])[m] = .slice none 0 0 := by subst e1; simp
        rw [q1]
        simp [Value.ownBlock]
    · have e1 : n = vs.length := by simp at h1; omega
      have q1 : (vs ++ [Value.slice none 0 0])[n] = .slice none 0 0 := by subst e1; simp
      rw [q1] at hb
      simp [Value.ownBlock] at hb
theorem flatV_snoc (l : List (Int × Int × Int)) (t : Int × Int × Int) : flatV (l ++ [t]) = flatV l ++ [.int .i64 t.1, .int .i64 t.2.1, .int .i64 t.2.2] := by simp [flatV]
theorem NestV.outer {w w' : World} {base p : Nat} {v : Value} {F : List (List (Int × Int × Int))} {vs : List Value} (h : NestV w base v F vs) (hp : p < vs.length) (hg : w.grownBy w' vs[p].ownBlock) : w'.ownsRow base 37 1 v F.length vs :=
  h.2.1.kept hg (by
    rcases h.apart hp with e | e
    · rw [e]
      cases v.ownBlock <;> simp
    · exact Or.inr (fun q => e q.symm))
/-- A row that has grown by one is put back into its place. -/
theorem NestV.put {w w' : World} {base g cap p : Nat} {u : Value} {F : List (List (Int × Int × Int))} {vs : List Value} {t : Int × Int × Int} (h : NestV w base (.slice (some ⟨g, 0, none⟩) F.length cap) F vs) (hp : p < vs.length) (hp2 : p < F.length)
    (ho : w'.ownsRow base 80 3 u (F[p].length + 1) (flatV F[p] ++ [.int .i64 t.1, .int .i64 t.2.1, .int .i64 t.2.2])) (hg : w.grownBy w' vs[p].ownBlock) (hu : u.ownBlock = vs[p].ownBlock ∨ u.ownBlock = some w.heap.size) :
    NestV (w'.setCell ⟨g, p, none⟩ u) base (.slice (some ⟨g, 0, none⟩) F.length cap) (F.set p (F[p] ++ [t])) (vs.set p u) := by
  have hv : w'.ownsRow base 37 1 (.slice (some ⟨g, 0, none⟩) F.length cap) F.length vs := h.2.1.kept hg (by
    rcases h.apart hp with e | e
    · right
      rw [e]
      simp [Value.ownBlock]
    · exact Or.inr (fun q => e q.symm))
  have hs := hv.stored p u
  have hug : u.ownBlock ≠ some g := by
    intro e
    obtain ⟨c1, g1⟩ := own_type ho g e
    obtain ⟨c2, g2⟩ := own_type hv g (by simp [Value.ownBlock])
    rw [g1] at g2
    simp at g2
  refine ⟨by simp [h.1], by simpa using hs.1, fun n h1 h2 => ?_, fun n m h1 h2 hne b hb => ?_⟩
  · have h1' : n < vs.length := by simpa using h1
    have h2' : n < F.length := by simpa using h2
    by_cases e : n = p
    · subst e
      simp only [List.getElem_set_self]
      rw [flatV_snoc, List.length_append]
      exact ho.kept hs.2 (Or.inr hug)
    · rw [List.getElem_set_ne (by omega), List.getElem_set_ne (by omega)]
      have k1 := (h.2.2.1 n h1' h2').kept hg (by
        cases e3 : vs[n].ownBlock with
        | none => exact Or.inl rfl
        | some b => exact Or.inr (fun q => h.2.2.2 n p h1' hp e b e3 q.symm))
      refine k1.kept hs.2 ?_
      rcases h.apart h1' with e4 | e4
      · exact Or.inl e4
      · exact Or.inr (by simpa [Value.ownBlock] using e4)
  · have h1' : n < vs.length := by simpa using h1
    have h2' : m < vs.length := by simpa using h2
    have lt : ∀ q (hq : q < vs.length), vs[q].ownBlock ≠ some w.heap.size := fun q hq e => by
      have := ((h.2.2.1 q hq (by rw [← h.1]; exact hq)).lt _ e).2
      omega
    by_cases e : n = p
    · subst e
      rw [List.getElem_set_self] at hb
      rw [List.getElem_set_ne (by omega)]
      rcases hu with hu | hu
      · exact h.2.2.2 n m h1' h2' hne b (by rw [← hu]; exact hb)
      · rw [hu] at hb
        cases hb
        exact lt m h2'
    · rw [List.getElem_set_ne (by omega)] at hb
      by_cases e2 : m = p
      · subst e2
        rw [List.getElem_set_self]
        rcases hu with hu | hu
        · rw [hu]
          exact h.2.2.2 n m h1' h2' hne b hb
        · rw [hu]
          intro q
          cases q
          exact lt n h1' hb
      · rw [List.getElem_set_ne (by omega)]
        exact h.2.2.2 n m h1' h2' hne b hb

/-- A triangle is put into the list of its number; a new list is begun where the number is the next one. -/
def grwF (F : List (List (Int × Int × Int))) (p : Nat) : List (List (Int × Int × Int)) := if p = F.length then F ++ [[]] else F
def putF (F : List (List (Int × Int × Int))) (p : Nat) (t : Int × Int × Int) : List (List (Int × Int × Int)) := (grwF F p).set p ((grwF F p).getD p [] ++ [t])
def fcs (L : List (Int × Int × Int)) (part : Nat → Int) : Nat → List (List (Int × Int × Int))
  | 0 => []
  | i + 1 => putF (fcs L part i) (part i).toNat (L.getD i (0, 0, 0))
theorem grwF_len (F : List (List (Int × Int × Int))) (p : Nat) : (grwF F p).length = if p = F.length then F.length + 1 else F.length := by
  unfold grwF
  split <;> simp
theorem putF_len (F : List (List (Int × Int × Int))) (p : Nat) (t : Int × Int × Int) : (putF F p t).length = if p = F.length then F.length + 1 else F.length := by
  unfold putF
  rw [List.length_set, grwF_len]
theorem fcs_le (L : List (Int × Int × Int)) (part : Nat → Int) : ∀ i, (fcs L part i).length ≤ i
  | 0 => by simp [fcs]
  | i + 1 => by
    rw [fcs, putF_len]
    have := fcs_le L part i
    split <;> omega
theorem grwF_row {F : List (List (Int × Int × Int))} {p n : Nat} (h : ∀ f ∈ F, f.length ≤ n) : ∀ f ∈ grwF F p, f.length ≤ n := by
  intro f hf
  unfold grwF at hf
  split at hf
  · rcases List.mem_append.1 hf with q | q
    · exact h f q
    · simp at q
      subst q
      exact Nat.zero_le _
  · exact h f hf
theorem fcs_row (L : List (Int × Int × Int)) (part : Nat → Int) : ∀ i, ∀ f ∈ fcs L part i, f.length ≤ i
  | 0, f, hf => by simp [fcs] at hf
  | i + 1, f, hf => by
    have h1 := grwF_row (p := (part i).toNat) (fcs_row L part i)
    rw [fcs, putF] at hf
    rcases List.mem_or_eq_of_mem_set hf with q | q
    · have := h1 f q
      omega
    · subst q
      rw [List.length_append, List.getD_eq_getElem?_getD]
      cases e : (grwF (fcs L part i) (part i).toNat)[(part i).toNat]? with
      | none => simp
      | some f2 =>
        have := h1 f2 (List.mem_of_getElem? e)
        simp
        omega
/-- Each number is the next one, or one that has come up. -/
def NumOk (part : Nat → Int) (n : Nat) : Prop := (∀ a, a < n → 0 ≤ part a) ∧ ∀ a, a < n → ∀ c, 0 ≤ c → c < part a → ∃ b, b < a ∧ part b = c
theorem PartsOk.num {cr : Int × Int × Int × Int → Bool} {L : List (Int × Int × Int)} {part : Nat → Int} (h : PartsOk cr L part) : NumOk part L.length := ⟨h.1, h.2.2.2⟩
theorem fcs_has (L : List (Int × Int × Int)) (part : Nat → Int) {n : Nat} (h : NumOk part n) : ∀ i, i ≤ n → (∀ b, b < i → part b < ((fcs L part i).length : Int)) ∧ (i < n → part i ≤ ((fcs L part i).length : Int))
  | 0, hi => ⟨fun b hb => by omega, fun h0 => by
    rcases Int.lt_or_le 0 (part 0) with q | q
    · obtain ⟨b, hb, _⟩ := h.2 0 h0 0 (by omega) q
      omega
    · simpa [fcs] using q⟩
  | i + 1, hi => by
    obtain ⟨h1, h2⟩ := fcs_has L part h i (by omega)
    have h3 := h2 (by omega)
    have h0 := h.1 i (by omega)
    have hl : ((fcs L part (i + 1)).length : Int) = if part i = ((fcs L part i).length : Int) then ((fcs L part i).length : Int) + 1 else ((fcs L part i).length : Int) := by
      rw [fcs, putF_len]
      by_cases e : part i = ((fcs L part i).length : Int)
      · rw [if_pos e, if_pos (by omega)]
        omega
      · rw [if_neg e, if_neg (by omega)]
    have h4 : ∀ b, b < i + 1 → part b < ((fcs L part (i + 1)).length : Int) := fun b hb => by
      rw [hl]
      by_cases e : b = i
      · subst e
        split <;> omega
      · have := h1 b (by omega)
        split <;> omega
    refine ⟨h4, fun hn => ?_⟩
    rcases Int.lt_or_le ((fcs L part (i + 1)).length : Int) (part (i + 1)) with q | q
    · obtain ⟨b, hb, e⟩ := h.2 (i + 1) hn _ (by omega) q
      have := h4 b hb
      omega
    · exact q


theorem infS : (Tryd.prog.info? 37).map (fun i => (i.zero, i.size, i.bytes)) = some (some (.slice none 0 0), 1, 24) := by kernel_rfl
theorem infT : (Tryd.prog.info? 80).map (fun i => (i.zero, i.size, i.bytes)) = some (some (.agg #[.int .i64 0, .int .i64 0, .int .i64 0]), 3, 24) := by kernel_rfl
/-- What is known while the lists grow. -/
def FW (w1 wx : World) (v : Value) (F : List (List (Int × Int × Int))) : Prop := Nest wx w1.heap.size v F ∧ Below w1.heap.size w1 wx
theorem FW.kept {w1 wx w' : World} {v : Value} {F : List (List (Int × Int × Int))} (h : FW w1 wx v F) (hb : Below wx.heap.size wx w') : FW w1 w' v F := by
  obtain ⟨⟨vs, h1⟩, h2⟩ := h
  exact ⟨⟨vs, h1.kept hb⟩, bl_via h2 hb⟩
theorem wp_append_run {P : Program} {o : Oper} {a : Act} {w : World} {K : Act → World → Prop} {Q : Exit → Act → World → Prop} (s x : Operand) (t : TypeId) (ho : o.op = .call { callee := .builtin .append, args := #[s, x], argTypes := #[t, t] }) (vs vx v' : Value) (w' : World) (hs : a.eval s = vs) (hx : a.eval x = vx) (hr : (Builtin.append_ #[t, t] o.type #[vs, vx]).run P w = .ok v' w') (hK : K (a.put o.dst v') w') : Oper.wp P o a w K Q := by
  unfold Oper.wp execOp
  simp only [ho, resolve, invoke, builtin, Sem.run_bind, Sem.run_pure, Result.andThen_ok, List.map_toArray, List.map_cons, List.map_nil, hs, hx, hr]
  exact hK
theorem Nest.mono {w : World} {base base' : Nat} {v : Value} {F : List (List (Int × Int × Int))} (h : Nest w base v F) (hb : base' ≤ base) : Nest w base' v F := by
  have le : ∀ {e : TypeId} {size n : Nat} {v : Value} {xs : List Value}, w.ownsRow base e size v n xs → w.ownsRow base' e size v n xs := fun h => by
    refine ⟨h.1, h.2.imp id ?_⟩
    rintro ⟨g, cap, cur, h1, h2, h3⟩
    exact ⟨g, cap, cur, h1, Nat.le_trans hb h2, h3⟩
  obtain ⟨vs, h1, h2, h3, h4⟩ := h
  exact ⟨vs, h1, le h2, fun n q1 q2 => le (h3 n q1 q2), h4⟩
theorem own_form {w : World} {base size n : Nat} {e : TypeId} {v : Value} {xs : List Value} (h : w.ownsRow base e size v n xs) : ∃ a cap, v = .slice a n cap ∧ (0 < n → ∃ g, a = some ⟨g, 0, none⟩) := by
  rcases h.2 with ⟨rfl, rfl⟩ | ⟨g, cap, cur, rfl, _⟩
  · exact ⟨none, 0, rfl, fun h => by omega⟩
  · exact ⟨_, cap, rfl, fun _ => ⟨g, rfl⟩⟩


set_option maxRecDepth 100000 in
set_option maxHeartbeats 6400000 in
theorem gathered_any (w : World) (cc ra rk g pcap : Nat) (ad : Option Addr) (L : List (Int × Int × Int)) (part : Nat → Int) (hT : TRow w ad L) (hZ : ZRow w g L.length part) (hNum : NumOk part L.length) (hL : L.length ≤ 300) :
    Calls Tryd.prog 22 #[.agg #[.slice ad L.length cc, .map (some ra), .map (some rk)], .slice (some ⟨g, 0, none⟩) L.length pcap] w fun e w' => ∃ v, e = .returned v ∧ Nest w' w.heap.size v (fcs L part L.length) ∧ Below w.heap.size w w' := by
  have HT : Hid (TRow w ad L) := hT
  have HZN : Hid (ZRow w g L.length part ∧ NumOk part L.length) := ⟨hZ, hNum⟩
  obtain ⟨iS, hi1, hz10, hz11, hz12⟩ := info_parts infS
  have HI1 : Hid (Tryd.prog.info? 37 = some iS ∧ iS.zero = some (.slice none 0 0) ∧ iS.size = 1 ∧ iS.bytes = 24) := ⟨hi1, hz10, hz11, hz12⟩
  obtain ⟨iT, hi2, hz20, hz21, hz22⟩ := info_parts infT
  have HI2 : Hid (Tryd.prog.info? 80 = some iT ∧ iT.zero = some (.agg #[.int .i64 0, .int .i64 0, .int .i64 0]) ∧ iT.size = 3 ∧ iT.bytes = 24) := ⟨hi2, hz20, hz21, hz22⟩
  clear hT hZ hNum hi1 hz10 hz11 hz12 hi2 hz20 hz21 hz22
  go_enter Tryd.func22, Tryd.ntmps22
  go_upto_region 2 with fail
  refine wp_named (fun w1 hw1 => ?_)
  have HW : Hid (ZRow w1 g L.length part ∧ NumOk part L.length ∧ Below w.heap.size w w1 ∧ w1.cell? ⟨w.heap.size, 0, none⟩ = some (.slice ad L.length cc) ∧ w.heap.size < w1.heap.size) := by
    have hb : Below w.heap.size w w1 := by rw [hw1]; exact bl_alloc (bl_refl _)
    exact ⟨HZN.out.1.kept hb, HZN.out.2, hb, by rw [hw1]; simp [go_sem], by rw [hw1]; simp⟩
  clear hw1
  obtain ⟨pb, hpb⟩ : ∃ p, p = w.heap.size := ⟨_, rfl⟩
  have HPB : Hid (pb = w.heap.size) := hpb
  have HPC : Hid (w1.cell? ⟨pb, 0, none⟩ = some (.slice ad L.length cc)) := by
    have : w1.cell? ⟨pb, 0, none⟩ = some (.slice ad L.length cc) := by rw [hpb]; exact HW.out.2.2.2.1
    exact this
  rw [← hpb]
  clear hpb
  go_wp2
  go_loopg [5, 10] L.length (fun gk s5 s10 wx => ∃ i : Nat, i ≤ L.length ∧ gk = L.length - i ∧ s10 = .int .i64 (i : Int) ∧ FW w1 wx s5 (fcs L part i))
  case atStart => exact ⟨0, by omega, rfl, rfl, nest_nil _ _, bl_refl _⟩
  case round =>
    obtain ⟨i, hi, rfl, rfl, hF⟩ := hrel
    obtain ⟨vA, hvA⟩ : ∃ u, u = u5 := ⟨_, rfl⟩
    subst hvA
    have HF : Hid (FW w1 wr vA (fcs L part i)) := hF
    clear hF
    by_cases h1 : i < L.length
    · have i1 : (i : Int) < (L.length : Int) := by omega
      have i0 : (0 : Int) ≤ (i : Int) := by omega
      have hnum := fcs_has L part HW.out.2.1 i hi
      have hp0 := HW.out.2.1.1 i h1
      have hle := fcs_le L part i
      obtain ⟨p, hp⟩ : ∃ p : Nat, part i = (p : Int) := ⟨(part i).toNat, by omega⟩
      have hpF : p ≤ (fcs L part i).length := by have := hnum.2 h1; omega
      have HN : Hid (fcs L part (i + 1) = putF (fcs L part i) p L[i]) := by
        have : fcs L part (i + 1) = putF (fcs L part i) p L[i] := by
          rw [fcs, hp, List.getD_eq_getElem?_getD, List.getElem?_eq_getElem h1]
          rfl
        exact this
      have HRW : Hid (∀ f ∈ fcs L part i, f.length ≤ i) := fcs_row L part i
      clear hnum hp0
      obtain ⟨F, hFe⟩ : ∃ F, F = fcs L part i := ⟨_, rfl⟩
      rw [← hFe] at HF HN hpF hle HRW
      clear hFe
      obtain ⟨vs0, hN0⟩ := HF.out.1
      obtain ⟨a4, c4, rfl, hg4⟩ := own_form hN0.2.1
      have HA4 : Hid (0 < F.length → ∃ g, a4 = some ⟨g, 0, none⟩) := hg4
      clear hg4
      have z0 := cl_kept HF.out.2 (HW.out.1 i h1).1
      rw [hp] at z0
      have zz : g < wr.heap.size := World.block_lt_of_cell? _ _ z0
      have HN0 : Hid (NestV wr w1.heap.size (.slice a4 F.length c4) F vs0) := hN0
      clear hN0
      have hgl : (grwF F p).length ≤ i + 1 := by
        rw [grwF_len]
        split <;> omega
      have hpl : p < (grwF F p).length := by
        rw [grwF_len]
        split <;> omega
      by_cases he : p = F.length
      · have he2 : ((F.length : Int) = (p : Int)) := by omega
        have HG : Hid (grwF F p = F ++ [[]]) := by
          have : grwF F p = F ++ [[]] := by simp [grwF, he]
          exact this
        go_wp2_with (at_builtin; refine wpList_append_own_at _ rfl (.tmp 19) (.tmp 20) 26 rfl w1.heap.size 37 iS (.slice none 0 0) 1 24 Tryd.underlying26 HI1.out.1 HI1.out.2.1 HI1.out.2.2.1 HI1.out.2.2.2 rfl (by decide) (.slice a4 F.length c4) F.length vs0 rfl ?own ⟨wr.heap.size, 0, none⟩ 1 1 [.slice none 0 0] rfl rfl ?c1 ?c2 ?b1 ?b2 ?b3 ?grow)
        case own => exact own_below HN0.out.2.1 (bl_alloc (bl_refl _))
        case c1 =>
          intro j u hu
          match j, hu with
          | 0, hu => simp at hu; subst hu; simp [go_sem, Addr.add]
        case c2 =>
          intro u hu
          simp at hu
          subst hu
          rfl
        case b1 =>
          unfold maxLen
          omega
        case b2 => omega
        case b3 =>
          have := HF.out.2.size
          simp
          omega
        case grow =>
          intro v' w3 hown hgrow hnil hob
          have hNX : NestV w3 w1.heap.size v' (grwF F p) (vs0 ++ [.slice none 0 0]) := by
            rw [HG.out]
            exact (HN0.out.kept (bl_alloc (bl_refl _))).more hown hgrow
          have hBX : Below w1.heap.size w1 w3 := (bl_alloc HF.out.2).grown hgrow (by have := HF.out.2.size; simp; omega) (own_base HN0.out.2.1)
          clear hown hgrow hnil hob HN0 HF HG he he2 z0 zz
          obtain ⟨G, hG⟩ : ∃ G, G = grwF F p := ⟨_, rfl⟩
          have HRG : Hid (∀ f ∈ grwF F p, f.length ≤ i) := grwF_row HRW.out
          rw [← hG] at hNX hgl hpl HRG
          obtain ⟨a5, c5, rfl, hg5⟩ := own_form hNX.2.1
          obtain ⟨g4, rfl⟩ := hg5 (by omega)
          obtain ⟨VS, HNX⟩ : ∃ VS, Hid (NestV w3 w1.heap.size (.slice (some ⟨g4, 0, none⟩) G.length c5) G VS) := ⟨_, hNX⟩
          have HBX : Hid (Below w1.heap.size w1 w3) := hBX
          have HGG : Hid (fcs L part (i + 1) = G.set p (G.getD p [] ++ [L[i]])) := by
            have : fcs L part (i + 1) = G.set p (G.getD p [] ++ [L[i]]) := by rw [HN.out, hG]; rfl
            exact this
          clear hNX hBX hG HN
          go_wp2
          have hpi : (p : Int) < (G.length : Int) := by omega
          have hp0 : (0 : Int) ≤ (p : Int) := by omega
          have hpv : p < VS.length := by rw [HNX.out.1]; exact hpl
          have hin := HNX.out.2.2.1 p hpv hpl
          obtain ⟨a6, c6, hv6, hg6⟩ := own_form hin
          obtain ⟨n6, hn6⟩ : ∃ n, n = G[p].length := ⟨_, rfl⟩
          rw [← hn6] at hv6
          have hn6b : n6 ≤ i := by rw [hn6]; exact HRG.out _ (List.getElem_mem hpl)
          have e0 : w3.cell? ⟨g4, p, none⟩ = some (.slice a6 n6 c6) := by
            rw [HNX.out.2.1.cellAt p (by omega), List.getElem?_eq_getElem hpv, hv6]
          have hTw := (HT.out.kept HW.out.2.2.1) i h1
          obtain ⟨ga, rfl, t0, t1, t2⟩ := hTw
          obtain ⟨t, ht⟩ : ∃ t, t = L[i] := ⟨_, rfl⟩
          obtain ⟨x, y, kk⟩ := t
          rw [← ht] at t0 t1 t2 HGG
          dsimp only at t0 t1 t2
          have HS1 : Hid (w1.cell? ⟨pb, 0, none⟩ = some (.slice (some ⟨ga, 0, none⟩) L.length cc) ∧ w1.cell? ⟨ga, i * 3, none⟩ = some (.int .i64 x) ∧ w1.cell? ⟨ga, i * 3 + 1, none⟩ = some (.int .i64 y) ∧ w1.cell? ⟨ga, i * 3 + 2, none⟩ = some (.int .i64 kk)) := ⟨HPC.out, t0, t1, t2⟩
          have HSX : Hid (∀ wx : World, Below w1.heap.size w1 wx → wx.cell? ⟨pb, 0, none⟩ = some (.slice (some ⟨ga, 0, none⟩) L.length cc) ∧ wx.cell? ⟨ga, i * 3, none⟩ = some (.int .i64 x) ∧ wx.cell? ⟨ga, i * 3 + 1, none⟩ = some (.int .i64 y) ∧ wx.cell? ⟨ga, i * 3 + 2, none⟩ = some (.int .i64 kk)) := fun wx hx => ⟨cl_kept hx HS1.out.1, cl_kept hx HS1.out.2.1, cl_kept hx HS1.out.2.2.1, cl_kept hx HS1.out.2.2.2⟩
          clear ht t0 t1 t2
          have hBA : Below w1.heap.size w1 ((w3.alloc (.cells #[.int .i64 x, .int .i64 y, .int .i64 kk] 80)).drew) := bl_drew (bl_alloc HBX.out)
          have hNA : NestV ((w3.alloc (.cells #[.int .i64 x, .int .i64 y, .int .i64 kk] 80)).drew) w1.heap.size (.slice (some ⟨g4, 0, none⟩) G.length c5) G VS := HNX.out.kept (bl_drew (bl_alloc (bl_refl _)))
          have hinA := hNA.2.2.1 p hpv hpl
          rw [hv6, ← hn6] at hinA
          obtain ⟨u, w5, hr, ho5, hg5, hn5, hob5⟩ := run_append_own_at (P := Tryd.prog) ((w3.alloc (.cells #[.int .i64 x, .int .i64 y, .int .i64 kk] 80)).drew) w1.heap.size 37 37 80 iT (.agg #[.int .i64 0, .int .i64 0, .int .i64 0]) 3 24 Tryd.underlying37 HI2.out.1 HI2.out.2.1 HI2.out.2.2.1 HI2.out.2.2.2 rfl (by decide) (.slice a6 n6 c6) n6 (flatV G[p]) hinA ⟨w3.heap.size, 0, none⟩ 1 1 [.int .i64 x, .int .i64 y, .int .i64 kk] rfl (cell_three_new _ _ _ _) (by intro u hu; simp at hu; rcases hu with rfl | rfl | rfl <;> rfl) (by unfold maxLen; omega) (by omega) (by have := hBA.size; exact this)
          obtain ⟨a7, c7, rfl, hg7⟩ := own_form ho5
          have hB5 : Below w1.heap.size w1 w5 := hBA.grown hg5 hBA.size (own_base hinA)
          have hP := hNA.put hpv hpl (t := (x, y, kk)) (by rw [← hn6]; exact ho5) (by rw [hv6]; exact hg5) (by rw [hv6]; simpa using hob5)
          have hv5 := hNA.outer hpv (by rw [hv6]; exact hg5)
          have hg4 : w1.heap.size ≤ g4 := own_base HNX.out.2.1 g4 rfl
          have q0 : w5.cell? ⟨g4, p, none⟩ = some (.slice a6 n6 c6) := by
            rw [hv5.cellAt p (by omega), List.getElem?_eq_getElem hpv, hv6]
          have q1 : w5.frozen? ⟨g4, p, none⟩ = false := hv5.frozenAt p
          have HP : Hid (NestV (w5.setCell ⟨g4, p, none⟩ (.slice a7 (n6 + 1) c7)) w1.heap.size (.slice (some ⟨g4, 0, none⟩) G.length c5) (G.set p (G[p] ++ [(x, y, kk)])) (VS.set p (.slice a7 (n6 + 1) c7))) := hP
          have HB5 : Hid (Below w1.heap.size w1 w5 ∧ Below w1.heap.size w1 (w5.setCell ⟨g4, p, none⟩ (.slice a7 (n6 + 1) c7))) := ⟨hB5, bl_set hB5 hg4⟩
          have e0a : (w3.alloc (.cells #[.int .i64 x, .int .i64 y, .int .i64 kk] 80)).cell? ⟨g4, p, none⟩ = some (.slice a6 n6 c6) := al_old e0
          have HSA := HSX.out _ hBA
          have HAL : Hid (Below w1.heap.size w1 (w3.alloc (.cells #[.int .i64 x, .int .i64 y, .int .i64 kk] 80)).drew) := hBA
          clear hBA hNA hinA ho5 hg5 hn5 hob5 hB5 hP hv5 hin hv6 hg6 hg7 hn6 HSA
          refine wp_region_held_drew (S := fun w' => w'.cell? ⟨pb, 0, none⟩ = some (.slice (some ⟨ga, 0, none⟩) L.length cc) ∧ w'.cell? ⟨ga, i * 3, none⟩ = some (.int .i64 x) ∧ w'.cell? ⟨ga, i * 3 + 1, none⟩ = some (.int .i64 y) ∧ w'.cell? ⟨ga, i * 3 + 2, none⟩ = some (.int .i64 kk)) (by kernel_rfl) (HSX.out _ (bl_drew HBX.out)) (fun hHeld => ?_)
          refine wpAnyH_take (i := 0) (v := .slice (some ⟨g4, 0, none⟩) G.length c5) rfl (by kernel_rfl) (by kernel_rfl) (by kernel_rfl) (fun _ _ _ h => h) (Or.inl ⟨by rfl, ?hyy⟩) (by assumption) ?_
          case hyy => (intro w' hSw; (try dsimp only at hSw); go_simp)
          try simp only [Act.put, List.getElem_toArray, List.getElem_cons_zero, List.setIfInBounds_toArray, List.set_cons_zero, List.set_cons_succ]
          refine wpAnyH_take (i := 1) (v := .int .i64 (p : Int)) rfl (by kernel_rfl) (by kernel_rfl) (by kernel_rfl) (fun _ _ _ h => h) (Or.inl ⟨by rfl, ?hyy⟩) (by assumption) ?_
          case hyy => (intro w' hSw; (try dsimp only at hSw); go_simp)
          try simp only [Act.put, List.getElem_toArray, List.getElem_cons_succ, List.getElem_cons_zero, List.setIfInBounds_toArray, List.set_cons_zero, List.set_cons_succ]
          refine wpAnyH_take (i := 2) (v := .slice (some ⟨g4, 0, none⟩) G.length c5) rfl (by kernel_rfl) (by kernel_rfl) (by kernel_rfl) (fun _ _ _ h => h) (Or.inl ⟨by rfl, ?hyy⟩) (by assumption) ?_
          case hyy => (intro w' hSw; (try dsimp only at hSw); go_simp)
          try simp only [Act.put, List.getElem_toArray, List.getElem_cons_succ, List.getElem_cons_zero, List.setIfInBounds_toArray, List.set_cons_zero, List.set_cons_succ]
          refine wpAnyH_take (i := 3) (v := .int .i64 (p : Int)) rfl (by kernel_rfl) (by kernel_rfl) (by kernel_rfl) (fun _ _ _ h => h) (Or.inl ⟨by rfl, ?hyy⟩) (by assumption) ?_
          case hyy => (intro w' hSw; (try dsimp only at hSw); go_simp)
          try simp only [Act.put, List.getElem_toArray, List.getElem_cons_succ, List.getElem_cons_zero, List.setIfInBounds_toArray, List.set_cons_zero, List.set_cons_succ]
          refine wpAnyH_take (i := 4) (v := .pointer (some ⟨g4, p, none⟩)) rfl (by kernel_rfl) (by kernel_rfl) (by kernel_rfl) (fun _ _ _ h => h) (Or.inl ⟨by rfl, ?hyy⟩) (by assumption) ?_
          case hyy => (intro w' hSw; (try dsimp only at hSw); go_simp)
          try simp only [Act.put, List.getElem_toArray, List.getElem_cons_succ, List.getElem_cons_zero, List.setIfInBounds_toArray, List.set_cons_zero, List.set_cons_succ]
          refine wpAnyH_take (i := 6) (v := .pointer (some ⟨pb, 0, none⟩)) rfl (by kernel_rfl) (by kernel_rfl) (by kernel_rfl) (fun _ _ _ h => h) (Or.inl ⟨by rfl, ?hyy⟩) (by assumption) ?_
          case hyy => (intro w' hSw; (try dsimp only at hSw); go_simp)
          try simp only [Act.put, List.getElem_toArray, List.getElem_cons_succ, List.getElem_cons_zero, List.setIfInBounds_toArray, List.set_cons_zero, List.set_cons_succ]
          refine wpAnyH_take (i := 7) (v := .slice (some ⟨ga, 0, none⟩) L.length cc) rfl (by kernel_rfl) (by kernel_rfl) (by kernel_rfl) (fun _ _ _ h => h) (Or.inl ⟨by rfl, ?hyy⟩) (by assumption) ?_
          case hyy => (intro w' hSw; (try dsimp only at hSw); go_simp)
          try simp only [Act.put, List.getElem_toArray, List.getElem_cons_succ, List.getElem_cons_zero, List.setIfInBounds_toArray, List.set_cons_zero, List.set_cons_succ]
          refine wpAnyH_take (i := 8) (v := .int .i64 (i : Int)) rfl (by kernel_rfl) (by kernel_rfl) (by kernel_rfl) (fun _ _ _ h => h) (Or.inl ⟨by rfl, ?hyy⟩) (by assumption) ?_
          case hyy => (intro w' hSw; (try dsimp only at hSw); go_simp)
          try simp only [Act.put, List.getElem_toArray, List.getElem_cons_succ, List.getElem_cons_zero, List.setIfInBounds_toArray, List.set_cons_zero, List.set_cons_succ]
          refine wpAnyH_take (i := 9) (v := .pointer (some ⟨ga, i * 3, none⟩)) rfl (by kernel_rfl) (by kernel_rfl) (by kernel_rfl) (fun _ _ _ h => h) (Or.inl ⟨by rfl, ?hyy⟩) (by assumption) ?_
          case hyy => (intro w' hSw; (try dsimp only at hSw); go_simp)
          try simp only [Act.put, List.getElem_toArray, List.getElem_cons_succ, List.getElem_cons_zero, List.setIfInBounds_toArray, List.set_cons_zero, List.set_cons_succ]
          refine wpAnyH_take (i := 10) (v := .agg #[.int .i64 x, .int .i64 y, .int .i64 kk]) rfl (by kernel_rfl) (by kernel_rfl) (by kernel_rfl) (fun _ _ _ h => h) (Or.inl ⟨by rfl, ?hyy⟩) (by assumption) ?_
          case hyy => (intro w' hSw; (try dsimp only at hSw); go_simp)
          try simp only [Act.put, List.getElem_toArray, List.getElem_cons_succ, List.getElem_cons_zero, List.setIfInBounds_toArray, List.set_cons_zero, List.set_cons_succ]
          refine wpAnyH_ready (rs := [5, 11]) (by kernel_rfl) (by simp) ?_
          refine AllReadyH.cons rfl (fun K hK => ?_) (AllReadyH.cons rfl (fun K hK => ?_) AllReadyH.nil)
          · go_simp
            refine hK.out _ _ (HSX.out _ (bl_drew HBX.out)) (fun hHd => ?_)
            clear hK K
            try simp only [Act.put, List.getElem_toArray, List.getElem_cons_succ, List.getElem_cons_zero, List.setIfInBounds_toArray, List.set_cons_zero, List.set_cons_succ]
            refine wpAnyH_ready (rs := [11]) (by kernel_rfl) (by simp) ?_
            refine AllReadyH.cons rfl (fun K hK => ?_) AllReadyH.nil
            go_simp
            refine hK.out _ _ (HSX.out _ HAL.out) (fun hHd => ?_)
            clear hK K
            try simp only [Act.put, List.getElem_toArray, List.getElem_cons_succ, List.getElem_cons_zero, List.setIfInBounds_toArray, List.set_cons_zero, List.set_cons_succ]
            refine wpAnyH_ready (rs := [12]) (by kernel_rfl) (by simp) ?_
            refine AllReadyH.cons rfl (fun K hK => ?_) AllReadyH.nil
            rw [if_pos (by rfl)]
            refine wp_append_run (.tmp 27) (.tmp 33) 37 rfl _ _ (.slice a7 (n6 + 1) c7) w5 rfl rfl hr ?_
            refine hK.out _ _ (HSX.out _ HB5.out.1) (fun hHd => ?_)
            clear hK K
            try simp only [Act.put, List.getElem_toArray, List.getElem_cons_succ, List.getElem_cons_zero, List.setIfInBounds_toArray, List.set_cons_zero, List.set_cons_succ]
            refine wpAnyH_take (i := 13) (v := .pointer (some ⟨g4, p, none⟩)) rfl (by kernel_rfl) (by kernel_rfl) (by kernel_rfl) (fun _ _ _ h => h) (Or.inl ⟨by rfl, ?hyy⟩) (by assumption) ?_
            case hyy => (intro w' hSw; (try dsimp only at hSw); go_simp)
            try simp only [Act.put, List.getElem_toArray, List.getElem_cons_succ, List.getElem_cons_zero, List.setIfInBounds_toArray, List.set_cons_zero, List.set_cons_succ]
            refine wpAnyH_ready (rs := [14]) (by kernel_rfl) (by simp) ?_
            refine AllReadyH.cons rfl (fun K hK => ?_) AllReadyH.nil
            go_simp
            refine hK.out _ _ (HSX.out _ HB5.out.2) (fun hHd => ?_)
            clear hK K
            try simp only [Act.put, List.getElem_toArray, List.getElem_cons_succ, List.getElem_cons_zero, List.setIfInBounds_toArray, List.set_cons_zero, List.set_cons_succ]
            refine wpAnyH_done (by kernel_rfl) ?_ _
            go_wp2
            go_roundg (L.length - (i + 1))
            case measure => omega
            case rel => exact ⟨i + 1, by omega, rfl, by go_num, ⟨_, by rw [HGG.out, List.getD_eq_getElem?_getD, List.getElem?_eq_getElem hpl]; simpa using HP.out⟩, HB5.out.2⟩
          · go_simp
            refine hK.out _ _ (HSX.out _ HAL.out) (fun hHd => ?_)
            clear hK K
            try simp only [Act.put, List.getElem_toArray, List.getElem_cons_succ, List.getElem_cons_zero, List.setIfInBounds_toArray, List.set_cons_zero, List.set_cons_succ]
            refine wpAnyH_ready (rs := [5]) (by kernel_rfl) (by simp) ?_
            refine AllReadyH.cons rfl (fun K hK => ?_) AllReadyH.nil
            go_simp
            refine hK.out _ _ (HSX.out _ HAL.out) (fun hHd => ?_)
            clear hK K
            try simp only [Act.put, List.getElem_toArray, List.getElem_cons_succ, List.getElem_cons_zero, List.setIfInBounds_toArray, List.set_cons_zero, List.set_cons_succ]
            refine wpAnyH_ready (rs := [12]) (by kernel_rfl) (by simp) ?_
            refine AllReadyH.cons rfl (fun K hK => ?_) AllReadyH.nil
            rw [if_pos (by rfl)]
            refine wp_append_run (.tmp 27) (.tmp 33) 37 rfl _ _ (.slice a7 (n6 + 1) c7) w5 rfl rfl hr ?_
            refine hK.out _ _ (HSX.out _ HB5.out.1) (fun hHd => ?_)
            clear hK K
            try simp only [Act.put, List.getElem_toArray, List.getElem_cons_succ, List.getElem_cons_zero, List.setIfInBounds_toArray, List.set_cons_zero, List.set_cons_succ]
            refine wpAnyH_take (i := 13) (v := .pointer (some ⟨g4, p, none⟩)) rfl (by kernel_rfl) (by kernel_rfl) (by kernel_rfl) (fun _ _ _ h => h) (Or.inl ⟨by rfl, ?hyy⟩) (by assumption) ?_
            case hyy => (intro w' hSw; (try dsimp only at hSw); go_simp)
            try simp only [Act.put, List.getElem_toArray, List.getElem_cons_succ, List.getElem_cons_zero, List.setIfInBounds_toArray, List.set_cons_zero, List.set_cons_succ]
            refine wpAnyH_ready (rs := [14]) (by kernel_rfl) (by simp) ?_
            refine AllReadyH.cons rfl (fun K hK => ?_) AllReadyH.nil
            go_simp
            refine hK.out _ _ (HSX.out _ HB5.out.2) (fun hHd => ?_)
            clear hK K
            try simp only [Act.put, List.getElem_toArray, List.getElem_cons_succ, List.getElem_cons_zero, List.setIfInBounds_toArray, List.set_cons_zero, List.set_cons_succ]
            refine wpAnyH_done (by kernel_rfl) ?_ _
            go_wp2
            go_roundg (L.length - (i + 1))
            case measure => omega
            case rel => exact ⟨i + 1, by omega, rfl, by go_num, ⟨_, by rw [HGG.out, List.getD_eq_getElem?_getD, List.getElem?_eq_getElem hpl]; simpa using HP.out⟩, HB5.out.2⟩
      · have he2 : ¬ ((p : Int) = (F.length : Int)) := by omega
        have hpF2 : p < F.length := by omega
        obtain ⟨g4, rfl⟩ := HA4.out (by omega)
        obtain ⟨VS, HNX⟩ : ∃ VS, Hid (NestV wr w1.heap.size (.slice (some ⟨g4, 0, none⟩) F.length c4) F VS) := ⟨vs0, HN0.out⟩
        have HBX : Hid (Below w1.heap.size w1 wr) := HF.out.2
        have HGG : Hid (fcs L part (i + 1) = F.set p (F.getD p [] ++ [L[i]])) := by
          have hg : grwF F p = F := by simp [grwF, he]
          have : fcs L part (i + 1) = F.set p (F.getD p [] ++ [L[i]]) := by rw [HN.out, putF, hg]
          exact this
        clear HN0 HF HN
        go_wp2
        clear he he2 z0 zz hgl hpl
        have hpi : (p : Int) < (F.length : Int) := by omega
        have hp0 : (0 : Int) ≤ (p : Int) := by omega
        have hpv : p < VS.length := by rw [HNX.out.1]; exact hpF2
        have hin := HNX.out.2.2.1 p hpv hpF2
        obtain ⟨a6, c6, hv6, hg6⟩ := own_form hin
        obtain ⟨n6, hn6⟩ : ∃ n, n = F[p].length := ⟨_, rfl⟩
        rw [← hn6] at hv6
        have hn6b : n6 ≤ i := by rw [hn6]; exact HRW.out _ (List.getElem_mem hpF2)
        have e0 : wr.cell? ⟨g4, p, none⟩ = some (.slice a6 n6 c6) := by
          rw [HNX.out.2.1.cellAt p (by omega), List.getElem?_eq_getElem hpv, hv6]
        have hTw := (HT.out.kept HW.out.2.2.1) i h1
        obtain ⟨ga, rfl, t0, t1, t2⟩ := hTw
        obtain ⟨t, ht⟩ : ∃ t, t = L[i] := ⟨_, rfl⟩
        obtain ⟨x, y, kk⟩ := t
        rw [← ht] at t0 t1 t2 HGG
        dsimp only at t0 t1 t2
        have HS1 : Hid (w1.cell? ⟨pb, 0, none⟩ = some (.slice (some ⟨ga, 0, none⟩) L.length cc) ∧ w1.cell? ⟨ga, i * 3, none⟩ = some (.int .i64 x) ∧ w1.cell? ⟨ga, i * 3 + 1, none⟩ = some (.int .i64 y) ∧ w1.cell? ⟨ga, i * 3 + 2, none⟩ = some (.int .i64 kk)) := ⟨HPC.out, t0, t1, t2⟩
        have HSX : Hid (∀ wx : World, Below w1.heap.size w1 wx → wx.cell? ⟨pb, 0, none⟩ = some (.slice (some ⟨ga, 0, none⟩) L.length cc) ∧ wx.cell? ⟨ga, i * 3, none⟩ = some (.int .i64 x) ∧ wx.cell? ⟨ga, i * 3 + 1, none⟩ = some (.int .i64 y) ∧ wx.cell? ⟨ga, i * 3 + 2, none⟩ = some (.int .i64 kk)) := fun wx hx => ⟨cl_kept hx HS1.out.1, cl_kept hx HS1.out.2.1, cl_kept hx HS1.out.2.2.1, cl_kept hx HS1.out.2.2.2⟩
        clear ht t0 t1 t2
        have hBA : Below w1.heap.size w1 ((wr.alloc (.cells #[.int .i64 x, .int .i64 y, .int .i64 kk] 80)).drew) := bl_drew (bl_alloc HBX.out)
        have hNA : NestV ((wr.alloc (.cells #[.int .i64 x, .int .i64 y, .int .i64 kk] 80)).drew) w1.heap.size (.slice (some ⟨g4, 0, none⟩) F.length c4) F VS := HNX.out.kept (bl_drew (bl_alloc (bl_refl _)))
        have hinA := hNA.2.2.1 p hpv hpF2
        rw [hv6, ← hn6] at hinA
        obtain ⟨u, w5, hr, ho5, hg5, hn5, hob5⟩ := run_append_own_at (P := Tryd.prog) ((wr.alloc (.cells #[.int .i64 x, .int .i64 y, .int .i64 kk] 80)).drew) w1.heap.size 37 37 80 iT (.agg #[.int .i64 0, .int .i64 0, .int .i64 0]) 3 24 Tryd.underlying37 HI2.out.1 HI2.out.2.1 HI2.out.2.2.1 HI2.out.2.2.2 rfl (by decide) (.slice a6 n6 c6) n6 (flatV F[p]) hinA ⟨wr.heap.size, 0, none⟩ 1 1 [.int .i64 x, .int .i64 y, .int .i64 kk] rfl (cell_three_new _ _ _ _) (by intro u hu; simp at hu; rcases hu with rfl | rfl | rfl <;> rfl) (by unfold maxLen; omega) (by omega) (by have := hBA.size; exact this)
        obtain ⟨a7, c7, rfl, hg7⟩ := own_form ho5
        have hB5 : Below w1.heap.size w1 w5 := hBA.grown hg5 hBA.size (own_base hinA)
        have hP := hNA.put hpv hpF2 (t := (x, y, kk)) (by rw [← hn6]; exact ho5) (by rw [hv6]; exact hg5) (by rw [hv6]; simpa using hob5)
        have hv5 := hNA.outer hpv (by rw [hv6]; exact hg5)
        have hg4 : w1.heap.size ≤ g4 := own_base HNX.out.2.1 g4 rfl
        have q0 : w5.cell? ⟨g4, p, none⟩ = some (.slice a6 n6 c6) := by
          rw [hv5.cellAt p (by omega), List.getElem?_eq_getElem hpv, hv6]
        have q1 : w5.frozen? ⟨g4, p, none⟩ = false := hv5.frozenAt p
        have HP : Hid (NestV (w5.setCell ⟨g4, p, none⟩ (.slice a7 (n6 + 1) c7)) w1.heap.size (.slice (some ⟨g4, 0, none⟩) F.length c4) (F.set p (F[p] ++ [(x, y, kk)])) (VS.set p (.slice a7 (n6 + 1) c7))) := hP
        have HB5 : Hid (Below w1.heap.size w1 w5 ∧ Below w1.heap.size w1 (w5.setCell ⟨g4, p, none⟩ (.slice a7 (n6 + 1) c7))) := ⟨hB5, bl_set hB5 hg4⟩
        have e0a : (wr.alloc (.cells #[.int .i64 x, .int .i64 y, .int .i64 kk] 80)).cell? ⟨g4, p, none⟩ = some (.slice a6 n6 c6) := al_old e0
        have HSA := HSX.out _ hBA
        have HAL : Hid (Below w1.heap.size w1 (wr.alloc (.cells #[.int .i64 x, .int .i64 y, .int .i64 kk] 80)).drew) := hBA
        clear hBA hNA hinA ho5 hg5 hn5 hob5 hB5 hP hv5 hin hv6 hg6 hg7 hn6 HSA
        refine wp_region_held_drew (S := fun w' => w'.cell? ⟨pb, 0, none⟩ = some (.slice (some ⟨ga, 0, none⟩) L.length cc) ∧ w'.cell? ⟨ga, i * 3, none⟩ = some (.int .i64 x) ∧ w'.cell? ⟨ga, i * 3 + 1, none⟩ = some (.int .i64 y) ∧ w'.cell? ⟨ga, i * 3 + 2, none⟩ = some (.int .i64 kk)) (by kernel_rfl) (HSX.out _ (bl_drew HBX.out)) (fun hHeld => ?_)
        refine wpAnyH_take (i := 0) (v := .slice (some ⟨g4, 0, none⟩) F.length c4) rfl (by kernel_rfl) (by kernel_rfl) (by kernel_rfl) (fun _ _ _ h => h) (Or.inl ⟨by rfl, ?hyy⟩) (by assumption) ?_
        case hyy => (intro w' hSw; (try dsimp only at hSw); go_simp)
        try simp only [Act.put, List.getElem_toArray, List.getElem_cons_zero, List.setIfInBounds_toArray, List.set_cons_zero, List.set_cons_succ]
        refine wpAnyH_take (i := 1) (v := .int .i64 (p : Int)) rfl (by kernel_rfl) (by kernel_rfl) (by kernel_rfl) (fun _ _ _ h => h) (Or.inl ⟨by rfl, ?hyy⟩) (by assumption) ?_
        case hyy => (intro w' hSw; (try dsimp only at hSw); go_simp)
        try simp only [Act.put, List.getElem_toArray, List.getElem_cons_succ, List.getElem_cons_zero, List.setIfInBounds_toArray, List.set_cons_zero, List.set_cons_succ]
        refine wpAnyH_take (i := 2) (v := .slice (some ⟨g4, 0, none⟩) F.length c4) rfl (by kernel_rfl) (by kernel_rfl) (by kernel_rfl) (fun _ _ _ h => h) (Or.inl ⟨by rfl, ?hyy⟩) (by assumption) ?_
        case hyy => (intro w' hSw; (try dsimp only at hSw); go_simp)
        try simp only [Act.put, List.getElem_toArray, List.getElem_cons_succ, List.getElem_cons_zero, List.setIfInBounds_toArray, List.set_cons_zero, List.set_cons_succ]
        refine wpAnyH_take (i := 3) (v := .int .i64 (p : Int)) rfl (by kernel_rfl) (by kernel_rfl) (by kernel_rfl) (fun _ _ _ h => h) (Or.inl ⟨by rfl, ?hyy⟩) (by assumption) ?_
        case hyy => (intro w' hSw; (try dsimp only at hSw); go_simp)
        try simp only [Act.put, List.getElem_toArray, List.getElem_cons_succ, List.getElem_cons_zero, List.setIfInBounds_toArray, List.set_cons_zero, List.set_cons_succ]
        refine wpAnyH_take (i := 4) (v := .pointer (some ⟨g4, p, none⟩)) rfl (by kernel_rfl) (by kernel_rfl) (by kernel_rfl) (fun _ _ _ h => h) (Or.inl ⟨by rfl, ?hyy⟩) (by assumption) ?_
        case hyy => (intro w' hSw; (try dsimp only at hSw); go_simp)
        try simp only [Act.put, List.getElem_toArray, List.getElem_cons_succ, List.getElem_cons_zero, List.setIfInBounds_toArray, List.set_cons_zero, List.set_cons_succ]
        refine wpAnyH_take (i := 6) (v := .pointer (some ⟨pb, 0, none⟩)) rfl (by kernel_rfl) (by kernel_rfl) (by kernel_rfl) (fun _ _ _ h => h) (Or.inl ⟨by rfl, ?hyy⟩) (by assumption) ?_
        case hyy => (intro w' hSw; (try dsimp only at hSw); go_simp)
        try simp only [Act.put, List.getElem_toArray, List.getElem_cons_succ, List.getElem_cons_zero, List.setIfInBounds_toArray, List.set_cons_zero, List.set_cons_succ]
        refine wpAnyH_take (i := 7) (v := .slice (some ⟨ga, 0, none⟩) L.length cc) rfl (by kernel_rfl) (by kernel_rfl) (by kernel_rfl) (fun _ _ _ h => h) (Or.inl ⟨by rfl, ?hyy⟩) (by assumption) ?_
        case hyy => (intro w' hSw; (try dsimp only at hSw); go_simp)
        try simp only [Act.put, List.getElem_toArray, List.getElem_cons_succ, List.getElem_cons_zero, List.setIfInBounds_toArray, List.set_cons_zero, List.set_cons_succ]
        refine wpAnyH_take (i := 8) (v := .int .i64 (i : Int)) rfl (by kernel_rfl) (by kernel_rfl) (by kernel_rfl) (fun _ _ _ h => h) (Or.inl ⟨by rfl, ?hyy⟩) (by assumption) ?_
        case hyy => (intro w' hSw; (try dsimp only at hSw); go_simp)
        try simp only [Act.put, List.getElem_toArray, List.getElem_cons_succ, List.getElem_cons_zero, List.setIfInBounds_toArray, List.set_cons_zero, List.set_cons_succ]
        refine wpAnyH_take (i := 9) (v := .pointer (some ⟨ga, i * 3, none⟩)) rfl (by kernel_rfl) (by kernel_rfl) (by kernel_rfl) (fun _ _ _ h => h) (Or.inl ⟨by rfl, ?hyy⟩) (by assumption) ?_
        case hyy => (intro w' hSw; (try dsimp only at hSw); go_simp)
        try simp only [Act.put, List.getElem_toArray, List.getElem_cons_succ, List.getElem_cons_zero, List.setIfInBounds_toArray, List.set_cons_zero, List.set_cons_succ]
        refine wpAnyH_take (i := 10) (v := .agg #[.int .i64 x, .int .i64 y, .int .i64 kk]) rfl (by kernel_rfl) (by kernel_rfl) (by kernel_rfl) (fun _ _ _ h => h) (Or.inl ⟨by rfl, ?hyy⟩) (by assumption) ?_
        case hyy => (intro w' hSw; (try dsimp only at hSw); go_simp)
        try simp only [Act.put, List.getElem_toArray, List.getElem_cons_succ, List.getElem_cons_zero, List.setIfInBounds_toArray, List.set_cons_zero, List.set_cons_succ]
        refine wpAnyH_ready (rs := [5, 11]) (by kernel_rfl) (by simp) ?_
        refine AllReadyH.cons rfl (fun K hK => ?_) (AllReadyH.cons rfl (fun K hK => ?_) AllReadyH.nil)
        · go_simp
          refine hK.out _ _ (HSX.out _ (bl_drew HBX.out)) (fun hHd => ?_)
          clear hK K
          try simp only [Act.put, List.getElem_toArray, List.getElem_cons_succ, List.getElem_cons_zero, List.setIfInBounds_toArray, List.set_cons_zero, List.set_cons_succ]
          refine wpAnyH_ready (rs := [11]) (by kernel_rfl) (by simp) ?_
          refine AllReadyH.cons rfl (fun K hK => ?_) AllReadyH.nil
          go_simp
          refine hK.out _ _ (HSX.out _ HAL.out) (fun hHd => ?_)
          clear hK K
          try simp only [Act.put, List.getElem_toArray, List.getElem_cons_succ, List.getElem_cons_zero, List.setIfInBounds_toArray, List.set_cons_zero, List.set_cons_succ]
          refine wpAnyH_ready (rs := [12]) (by kernel_rfl) (by simp) ?_
          refine AllReadyH.cons rfl (fun K hK => ?_) AllReadyH.nil
          rw [if_pos (by rfl)]
          refine wp_append_run (.tmp 27) (.tmp 33) 37 rfl _ _ (.slice a7 (n6 + 1) c7) w5 rfl rfl hr ?_
          refine hK.out _ _ (HSX.out _ HB5.out.1) (fun hHd => ?_)
          clear hK K
          try simp only [Act.put, List.getElem_toArray, List.getElem_cons_succ, List.getElem_cons_zero, List.setIfInBounds_toArray, List.set_cons_zero, List.set_cons_succ]
          refine wpAnyH_take (i := 13) (v := .pointer (some ⟨g4, p, none⟩)) rfl (by kernel_rfl) (by kernel_rfl) (by kernel_rfl) (fun _ _ _ h => h) (Or.inl ⟨by rfl, ?hyy⟩) (by assumption) ?_
          case hyy => (intro w' hSw; (try dsimp only at hSw); go_simp)
          try simp only [Act.put, List.getElem_toArray, List.getElem_cons_succ, List.getElem_cons_zero, List.setIfInBounds_toArray, List.set_cons_zero, List.set_cons_succ]
          refine wpAnyH_ready (rs := [14]) (by kernel_rfl) (by simp) ?_
          refine AllReadyH.cons rfl (fun K hK => ?_) AllReadyH.nil
          go_simp
          refine hK.out _ _ (HSX.out _ HB5.out.2) (fun hHd => ?_)
          clear hK K
          try simp only [Act.put, List.getElem_toArray, List.getElem_cons_succ, List.getElem_cons_zero, List.setIfInBounds_toArray, List.set_cons_zero, List.set_cons_succ]
          refine wpAnyH_done (by kernel_rfl) ?_ _
          go_wp2
          go_roundg (L.length - (i + 1))
          case measure => omega
          case rel => exact ⟨i + 1, by omega, rfl, by go_num, ⟨_, by rw [HGG.out, List.getD_eq_getElem?_getD, List.getElem?_eq_getElem hpF2]; simpa using HP.out⟩, HB5.out.2⟩
        · go_simp
          refine hK.out _ _ (HSX.out _ HAL.out) (fun hHd => ?_)
          clear hK K
          try simp only [Act.put, List.getElem_toArray, List.getElem_cons_succ, List.getElem_cons_zero, List.setIfInBounds_toArray, List.set_cons_zero, List.set_cons_succ]
          refine wpAnyH_ready (rs := [5]) (by kernel_rfl) (by simp) ?_
          refine AllReadyH.cons rfl (fun K hK => ?_) AllReadyH.nil
          go_simp
          refine hK.out _ _ (HSX.out _ HAL.out) (fun hHd => ?_)
          clear hK K
          try simp only [Act.put, List.getElem_toArray, List.getElem_cons_succ, List.getElem_cons_zero, List.setIfInBounds_toArray, List.set_cons_zero, List.set_cons_succ]
          refine wpAnyH_ready (rs := [12]) (by kernel_rfl) (by simp) ?_
          refine AllReadyH.cons rfl (fun K hK => ?_) AllReadyH.nil
          rw [if_pos (by rfl)]
          refine wp_append_run (.tmp 27) (.tmp 33) 37 rfl _ _ (.slice a7 (n6 + 1) c7) w5 rfl rfl hr ?_
          refine hK.out _ _ (HSX.out _ HB5.out.1) (fun hHd => ?_)
          clear hK K
          try simp only [Act.put, List.getElem_toArray, List.getElem_cons_succ, List.getElem_cons_zero, List.setIfInBounds_toArray, List.set_cons_zero, List.set_cons_succ]
          refine wpAnyH_take (i := 13) (v := .pointer (some ⟨g4, p, none⟩)) rfl (by kernel_rfl) (by kernel_rfl) (by kernel_rfl) (fun _ _ _ h => h) (Or.inl ⟨by rfl, ?hyy⟩) (by assumption) ?_
          case hyy => (intro w' hSw; (try dsimp only at hSw); go_simp)
          try simp only [Act.put, List.getElem_toArray, List.getElem_cons_succ, List.getElem_cons_zero, List.setIfInBounds_toArray, List.set_cons_zero, List.set_cons_succ]
          refine wpAnyH_ready (rs := [14]) (by kernel_rfl) (by simp) ?_
          refine AllReadyH.cons rfl (fun K hK => ?_) AllReadyH.nil
          go_simp
          refine hK.out _ _ (HSX.out _ HB5.out.2) (fun hHd => ?_)
          clear hK K
          try simp only [Act.put, List.getElem_toArray, List.getElem_cons_succ, List.getElem_cons_zero, List.setIfInBounds_toArray, List.set_cons_zero, List.set_cons_succ]
          refine wpAnyH_done (by kernel_rfl) ?_ _
          go_wp2
          go_roundg (L.length - (i + 1))
          case measure => omega
          case rel => exact ⟨i + 1, by omega, rfl, by go_num, ⟨_, by rw [HGG.out, List.getD_eq_getElem?_getD, List.getElem?_eq_getElem hpF2]; simpa using HP.out⟩, HB5.out.2⟩
    · have i1 : ¬ (i : Int) < (L.length : Int) := by omega
      obtain rfl : i = L.length := by omega
      go_wp2
      exact bodyPost_ret (v := vA) (by simp [results, Tryd.results22, go_sem]) rfl ⟨vA, rfl, HF.out.1.mono HW.out.2.2.1.size, bl_via HW.out.2.2.1 HF.out.2⟩
end Go.Proofs.YtmjneoaciopioaaDoor
namespace Go.Proofs.YtmjneoaciopioaaDoor
open Go.RowKit Go.ChangeMaps

theorem Faces_no (W H : Int) (a c : Option Addr) (n1 n2 ca cc : Nat) (w : World) (hcall : ∀ W' : World, Below w.heap.size w W' → Calls Tryd.prog 21 #[.agg #[.int .i64 W, .int .i64 H, .slice a n1 ca, .slice c n2 cc]] W' fun e w' => e = .returned (.tuple #[.agg #[.slice none 0 0, .map none, .map none], .bool false]) ∧ Below W'.heap.size W' w') :
    Calls Tryd.prog 7 #[.agg #[.int .i64 W, .int .i64 H, .slice a n1 ca, .slice c n2 cc]] w fun e w' => e = .returned (.tuple #[.slice none 0 0, .int .i64 10]) ∧ Below w.heap.size w w' := by
  have HC : Hid (∀ W' : World, Below w.heap.size w W' → Calls Tryd.prog 21 #[.agg #[.int .i64 W, .int .i64 H, .slice a n1 ca, .slice c n2 cc]] W' fun e w' => e = .returned (.tuple #[.agg #[.slice none 0 0, .map none, .map none], .bool false]) ∧ Below W'.heap.size W' w') := hcall
  clear hcall
  go_enter Tryd.func7, Tryd.ntmps7
  go_wp2_with (go_at_call 21; refine (HC.out _ (by with_reducible exact bl_alloc (bl_refl _))).mono ?_; rintro e w2 ⟨rfl, hb⟩; have HB : Hid (Below w.heap.size w w2) := bl_via (bl_alloc (bl_refl _)) hb; clear hb)
  exact bodyPost_ret (v := .tuple #[.slice none 0 0, .int .i64 10]) (by simp [results, Tryd.results7, go_sem]) rfl ⟨rfl, by with_reducible repeat (first | exact HB.out | refine bl_alloc ?_)⟩

/-- What Faces answers where the sheet may be. -/
def FacesTo (kd : Int × Int × Int × Int → Int) (L : List (Int × Int × Int)) (w w' : World) (e : Ending) : Prop := Below w.heap.size w w' ∧ ∃ v part, PartsOk (fun e => decide (kd e = 0)) L part ∧ e = .returned (.tuple #[v, .int .i64 0]) ∧ Nest w' w.heap.size v (fcs L part L.length)
set_option maxRecDepth 100000 in
set_option maxHeartbeats 3200000 in
theorem Faces_yes (W H b off cap n ccap : Nat) (cb : Option Addr) (zs ks : List Int) (w : World) (hr : Row w (some ⟨b, off, none⟩) zs) (hW : 1 ≤ W ∧ W ≤ 8) (hH : 1 ≤ H ∧ H ≤ 8) (hl : zs.length = W * H) (hm : maskB zs = true) (hk : Row w cb ks) (hn : ks.length = n * 5) (hn2 : n ≤ 3518437208883) (hs : Steps w) (hJ : Joined (ty zs W H)) (hC : ∀ i, i < n → CrOk (ty zs W H) ks i) :
    Calls Tryd.prog 7 #[.agg #[.int .i64 (W : Int), .int .i64 (H : Int), .slice (some ⟨b, off, none⟩) zs.length cap, .slice cb n ccap]] w fun e w' => FacesTo (kdn ks n) (ty zs W H) w w' e := by
  have CL : Hid (∀ W' : World, Below w.heap.size w W' → Calls Tryd.prog 21 #[.agg #[.int .i64 (W : Int), .int .i64 (H : Int), .slice (some ⟨b, off, none⟩) zs.length cap, .slice cb n ccap]] W' fun e w' => ∃ ad cc base ra rk, e = .returned (.tuple #[.agg #[.slice ad (ty zs W H).length cc, .map (some ra), .map (some rk)], .bool true]) ∧ PK W' w' base ra rk (.slice ad (ty zs W H).length cc) (ty zs W H) (gix (ty zs W H)) (kf ks n)) := fun W' hW' => lay_yes W H b off cap n ccap cb zs ks W' (hr.kept hW') hW hH hl hm (hk.kept hW') hn hn2 (hs.kept hW') hJ hC
  have hlen : (ty zs W H).length ≤ 300 := by have := ty_len zs W H hW.2; omega
  have CF : Hid (∀ (W' : World) (ad : Option Addr) (cc ra rk : Nat), Below w.heap.size w W' → PA W' ad ra (ty zs W H) → KL W' rk (kdn ks n) → Calls Tryd.prog 23 #[.agg #[.slice ad (ty zs W H).length cc, .map (some ra), .map (some rk)]] W' fun e w' => ∃ g part, e = .returned (.slice (some ⟨g, 0, none⟩) (ty zs W H).length (ty zs W H).length) ∧ ZRow w' g (ty zs W H).length part ∧ PartsOk (fun e => decide (kdn ks n e = 0)) (ty zs W H) part ∧ W'.heap.size ≤ g ∧ Below W'.heap.size W' w') := fun W' ad cc ra rk hW' hp hkl => pfaces_any W' cc ra rk ad _ (kdn ks n) (hs.kept hW') hp hkl hlen (ty_nodup zs W H) (ty_bd hW.2 hH.2)
  have CG : Hid (∀ (W' : World) (ad : Option Addr) (cc ra rk g : Nat) (part : Nat → Int), TRow W' ad (ty zs W H) → ZRow W' g (ty zs W H).length part → PartsOk (fun e => decide (kdn ks n e = 0)) (ty zs W H) part → Calls Tryd.prog 22 #[.agg #[.slice ad (ty zs W H).length cc, .map (some ra), .map (some rk)], .slice (some ⟨g, 0, none⟩) (ty zs W H).length (ty zs W H).length] W' fun e w' => ∃ v, e = .returned v ∧ Nest w' W'.heap.size v (fcs (ty zs W H) part (ty zs W H).length) ∧ Below W'.heap.size W' w') := fun W' ad cc ra rk g part hT hZ hP => gathered_any W' cc ra rk g _ ad _ part hT hZ hP.num hlen
  obtain ⟨L, hL⟩ : ∃ L, L = ty zs W H := ⟨_, rfl⟩
  rw [← hL] at CL CF CG hlen
  rw [← hL]
  clear hr hk hl hm hW hH hn hs hJ hC hL
  go_enter Tryd.func7, Tryd.ntmps7
  go_wp2_with (go_at_call 21; refine (CL.out _ (by with_reducible exact bl_alloc (bl_refl _))).mono ?_; rintro e w2 ⟨ad, cc, base, ra, rk, rfl, hpk⟩; have HB : Hid (Below w.heap.size w w2) := bl_via (bl_alloc (bl_refl _)) hpk.2.2.2.2; have HPK : Hid (PA w2 ad ra L ∧ KL w2 rk (kdn ks n)) := ⟨hpk.pa, hpk.kl⟩; clear hpk)
  refine wp_named (fun V hV => ?_)
  have hBV : Below w2.heap.size w2 V := by rw [hV]; exact bl_alloc (bl_refl _)
  have p0 : V.cell? ⟨w2.heap.size, 0, none⟩ = some (.slice ad L.length cc) := by rw [hV]; simp [go_sem]
  have p1 : V.cell? ⟨w2.heap.size, 1, none⟩ = some (.map (some ra)) := by rw [hV]; simp [go_sem]
  have p2 : V.cell? ⟨w2.heap.size, 2, none⟩ = some (.map (some rk)) := by rw [hV]; simp [go_sem]
  have HV : Hid (Below w.heap.size w V ∧ PA V ad ra L ∧ KL V rk (kdn ks n)) := ⟨bl_via HB.out hBV, HPK.out.1.kept hBV, HPK.out.2.kept hBV⟩
  clear hV hBV
  obtain ⟨pb, hpb⟩ : ∃ p, p = w2.heap.size := ⟨_, rfl⟩
  rw [← hpb] at p0 p1 p2 ⊢
  clear hpb HPK HB
  go_region_held3 (fun w' => w'.cell? ⟨pb, 0, none⟩ = some (.slice ad L.length cc) ∧ w'.cell? ⟨pb, 1, none⟩ = some (.map (some ra)) ∧ w'.cell? ⟨pb, 2, none⟩ = some (.map (some rk)))
    (first | exact ⟨dr_old p0, dr_old p1, dr_old p2⟩ | exact ⟨q0, q1, q2⟩ | exact ⟨o0, o1, o2⟩)
    (first
      | (go_at_call 23; (with_reducible refine (CF.out _ ad cc ra rk (bl_via HV.out.1 (bl_drew (bl_refl _))) (HV.out.2.1.kept (bl_drew (bl_refl _))) (HV.out.2.2.kept (bl_drew (bl_refl _)))).mono ?_); rintro e w3 ⟨g, part, rfl, hz3, hp3, hg3, hb3⟩; have hbw := bl_via (bl_drew (bl_refl V)) hb3; have o0 := cl_kept hbw p0; have o1 := cl_kept hbw p1; have o2 := cl_kept hbw p2; have H3 : Hid (Below w.heap.size w w3 ∧ PartsOk (fun e => decide (kdn ks n e = 0)) L part ∧ ZRow w3 g L.length part ∧ TRow w3 ad L) := ⟨bl_via HV.out.1 hbw, hp3, hz3, (HV.out.2.1.kept hbw).1⟩; clear hbw hb3 hp3 hz3 hg3)
      | (go_at_call 22; (with_reducible refine (CG.out _ ad cc ra rk g part H3.out.2.2.2 H3.out.2.2.1 H3.out.2.1).mono ?_); rintro e w4 ⟨v, rfl, hn4, hb4⟩; have q0 := cl_kept hb4 o0; have q1 := cl_kept hb4 o1; have q2 := cl_kept hb4 o2; have H4 : Hid (Below w.heap.size w w4 ∧ Nest w4 w.heap.size v (fcs L part L.length)) := ⟨bl_via H3.out.1 hb4, hn4.mono H3.out.1.size⟩; clear hn4 hb4)
      | fail)
  go_wp2
  exact bodyPost_ret (v := .tuple #[v, .int .i64 0]) (by simp [results, Tryd.results7, go_sem]) rfl ⟨H4.out.1, v, part, H3.out.2.1, rfl, H4.out.2⟩
end Go.Proofs.YtmjneoaciopioaaDoor
