/- A part of the proof of a law on sheets. -/
import Derived.Test.YtmjneoaciopioaaDoorQmbg
import Derived.Test.YtmjneoaciopioaaDoorQmbi
import Derived.Test.YtmjneoaciopioaaDoorQmbf
namespace Go.Proofs.YtmjneoaciopioaaDoor
open Go.RowKit Go.ChangeMaps

theorem sub_len {α : Type} [DecidableEq α] : ∀ (l m : List α), l.Nodup → (∀ x ∈ l, x ∈ m) → l.length ≤ m.length
  | [], _, _, _ => Nat.zero_le _
  | a :: l, m, hn, h => by
    obtain ⟨h1, h2⟩ := List.nodup_cons.1 hn
    have ha := h a (by simp)
    have h3 := sub_len l (m.erase a) h2 (fun x hx => by
      have hne : x ≠ a := fun e => h1 (by rw [← e]; exact hx)
      exact (List.mem_erase_of_ne hne).2 (h x (by simp [hx])))
    rw [List.length_erase_of_mem ha] at h3
    have := List.length_pos_of_mem ha
    rw [List.length_cons]
    omega
theorem same_len {α : Type} [DecidableEq α] {l m : List α} (h1 : l.Nodup) (h2 : m.Nodup) (h : ∀ x, x ∈ l ↔ x ∈ m) : l.length = m.length :=
  Nat.le_antisymm (sub_len l m h1 (fun x hx => (h x).1 hx)) (sub_len m l h2 (fun x hx => (h x).2 hx))

theorem SPt.nodup {pts Cs : List (Int × Int)} (h : SPt pts Cs) : pts.Nodup := h.1.imp (fun {a b} hab e => by
  subst e
  simp only [ltP] at hab
  omega)
theorem hasPt_iff (L : List (Int × Int × Int)) (pt : Int × Int) : hasPt (L.flatMap tps) pt = true ↔ pt ∈ L.flatMap cnr := by
  simp only [hasPt, List.any_eq_true, List.mem_flatMap, decide_eq_true_eq]
  constructor
  · rintro ⟨x, ⟨t, ht, hx⟩, rfl⟩
    refine ⟨t, ht, ?_⟩
    simp only [tps, List.mem_cons, List.not_mem_nil, or_false] at hx
    rcases hx with rfl | rfl | rfl <;> simp [cnr]
  · rintro ⟨t, ht, hx⟩
    simp only [cnr, List.mem_cons, List.not_mem_nil, or_false] at hx
    rcases hx with rfl | rfl | rfl
    · exact ⟨_, ⟨t, ht, by simp only [tps, List.mem_cons]; exact Or.inl rfl⟩, rfl⟩
    · exact ⟨_, ⟨t, ht, by simp only [tps, List.mem_cons]; exact Or.inr (Or.inl rfl)⟩, rfl⟩
    · exact ⟨_, ⟨t, ht, by simp only [tps, List.mem_cons]; exact Or.inr (Or.inr (Or.inl rfl))⟩, rfl⟩
theorem pm_keys {ls : List ((Int × Int) × Value × Nat)} (k : Int × Int) : (∃ v, Pm.lk ls k = some v) ↔ k ∈ ls.map (fun x => x.1) := by
  constructor
  · rintro ⟨v, hv⟩
    obtain ⟨b, hb⟩ := Pm.lk_mem hv
    exact List.mem_map.2 ⟨_, hb, rfl⟩
  · intro hk
    obtain ⟨x, hx, e⟩ := List.mem_map.1 hk
    cases h : Pm.lk ls k with
    | none => exact absurd e (Pm.lk_none h x hx)
    | some v => exact ⟨v, rfl⟩
/-- The code's points and the reference's are as many. -/
theorem points_len {w wx : World} {rm : Nat} {L : List (Int × Int × Int)} {pts : List (Int × Int)} (h : PtM w wx rm (L.flatMap tps)) (hp : SPt pts (L.flatMap cnr)) : ∃ ls c, Pm.EM wx rm ls c ∧ ls.length = pts.length := by
  obtain ⟨ls, c, h1, h2, h3⟩ := h.1
  refine ⟨ls, c, h1, ?_⟩
  have h4 : (ls.map (fun x => x.1)).length = pts.length := same_len h2.1 hp.nodup (fun k => by
    rw [← pm_keys, hp.2 k, ← hasPt_iff, h3 k]
    unfold pv
    cases hh : hasPt (L.flatMap tps) k <;> simp)
  rw [← h4, List.length_map]

theorem em_keys {ls : List ((Int × Int × Int × Int) × Value × Nat)} (k : Int × Int × Int × Int) : (∃ v, lk ls k = some v) ↔ k ∈ ls.map (fun x => x.1) := by
  constructor
  · rintro ⟨v, hv⟩
    obtain ⟨b, hb⟩ := lk_mem hv
    exact List.mem_map.2 ⟨_, hb, rfl⟩
  · intro hk
    obtain ⟨x, hx, e⟩ := List.mem_map.1 hk
    cases h : lk ls k with
    | none => exact absurd e (lk_none h x hx)
    | some v => exact ⟨v, rfl⟩
/-- Edges, each once. -/
def EdgeSet (L : List (Int × Int × Int)) (E : List (Int × Int × Int × Int)) : Prop := E.Nodup ∧ ∀ e, e ∈ E ↔ ∃ t ∈ L, hasT t e = true
theorem gix_some {L : List (Int × Int × Int)} {e : Int × Int × Int × Int} : gix L e ≠ [] ↔ ∃ t ∈ L, hasT t e = true := by
  constructor
  · intro h
    obtain ⟨j, hj⟩ := List.exists_mem_of_ne_nil _ h
    obtain ⟨i, hi, _, ht⟩ := gix_mem.1 hj
    exact ⟨L[i], List.getElem_mem hi, ht⟩
  · rintro ⟨t, ht, hh⟩ h
    obtain ⟨i, hi, e2⟩ := List.getElem_of_mem ht
    subst e2
    have : (i : Int) ∈ gix L e := gix_mem.2 ⟨i, hi, rfl, hh⟩
    rw [h] at this
    cases this
theorem PK.edges {w0 w : World} {base ra rk : Nat} {vt : Value} {L : List (Int × Int × Int)} {kd : Int × Int × Int × Int → Option Value} (h : PK w0 w base ra rk vt L (gix L) kd) : ∃ ls c, EM w ra ls c ∧ EdgeSet L (ls.map (fun x => x.1)) := by
  obtain ⟨_, ⟨ls, c, b1, b2, b3, b4, _⟩, _⟩ := h
  refine ⟨ls, c, b1, b2.1, fun e => ?_⟩
  rw [← em_keys, ← gix_some]
  constructor
  · rintro ⟨v, hv⟩
    exact (b4 e v hv).2.1
  · intro hne
    cases h : lk ls e with
    | none => exact absurd (b3 e h) hne
    | some v => exact ⟨v, rfl⟩

/-- What an edge counts at each of its triangles. -/
def fE (L : List (Int × Int × Int)) (e : Int × Int × Int × Int) : Nat := if cnt L e.1 e.2.1 e.2.2.1 e.2.2.2 = 2 then 1 else 2
def g3 (L : List (Int × Int × Int)) (t : Int × Int × Int) : Nat := fE L (edg t 0) + fE L (edg t 1) + fE L (edg t 2)
theorem cnt_filter (L : List (Int × Int × Int)) (e : Int × Int × Int × Int) : cnt L e.1 e.2.1 e.2.2.1 e.2.2.2 = (L.filter fun t => hasT t e).length := by
  unfold cnt
  rw [List.countP_eq_length_filter]
  rfl
theorem cnt_two {L : List (Int × Int × Int)} (hnd : L.Nodup) (hk : ∀ t ∈ L, Kd t) {e : Int × Int × Int × Int} (h : ∃ t ∈ L, hasT t e = true) : (L.filter fun t => hasT t e).length * fE L e = 2 := by
  obtain ⟨t, ht, hh⟩ := h
  have h1 : 1 ≤ (L.filter fun t => hasT t e).length := List.length_pos_of_mem (List.mem_filter.2 ⟨ht, hh⟩)
  have h2 : (L.filter fun t => hasT t e).length ≤ [t, acr t e].length := sub_len _ _ (hnd.filter _) (fun u hu => by
    obtain ⟨hu1, hu2⟩ := List.mem_filter.1 hu
    by_cases e2 : u = t
    · simp [e2]
    · have := acr_is (hk t ht) (hk u hu1) hh hu2 e2
      simp [this])
  have h3 : (L.filter fun t => hasT t e).length = 1 ∨ (L.filter fun t => hasT t e).length = 2 := by simp at h2; omega
  unfold fE
  rw [cnt_filter]
  rcases h3 with h3 | h3 <;> rw [h3] <;> simp
theorem sum_one {α : Type} [DecidableEq α] (f : α → Nat) (x : α) : ∀ (E : List α), E.Nodup → x ∈ E → (E.map fun e => if e = x then f e else 0).sum = f x
  | [], _, h => by cases h
  | a :: E, hn, h => by
    obtain ⟨h1, h2⟩ := List.nodup_cons.1 hn
    rw [List.map_cons, List.sum_cons]
    by_cases e : a = x
    · subst e
      have : (E.map fun e => if e = a then f e else 0) = E.map fun _ => 0 := List.map_congr_left (fun e he => by
        rw [if_neg]
        exact fun q => h1 (q ▸ he))
      rw [this, if_pos rfl]
      have : ∀ l : List α, (l.map fun _ => 0).sum = 0 := fun l => by induction l with
        | nil => rfl
        | cons b l ih => rw [List.map_cons, List.sum_cons, ih]
      rw [this]
      rfl
    · rw [if_neg e, sum_one f x E h2 (by rcases List.mem_cons.1 h with h | h; exact absurd h.symm e; exact h)]
      omega
theorem sum_add {α : Type} (f g : α → Nat) : ∀ E : List α, (E.map fun e => f e + g e).sum = (E.map f).sum + (E.map g).sum
  | [] => rfl
  | a :: E => by
    rw [List.map_cons, List.sum_cons, List.map_cons, List.sum_cons, List.map_cons, List.sum_cons, sum_add f g E]
    omega
theorem sum_swap {α β : Type} (f : α → β → Nat) (E : List β) : ∀ L : List α, (L.map fun t => (E.map fun e => f t e).sum).sum = (E.map fun e => (L.map fun t => f t e).sum).sum
  | [] => by
    have : ∀ l : List β, (l.map fun _ => 0).sum = 0 := fun l => by induction l with
      | nil => rfl
      | cons b l ih => rw [List.map_cons, List.sum_cons, ih]
    simp [this]
  | a :: L => by
    rw [List.map_cons, List.sum_cons, sum_swap f E L, ← sum_add]
    rfl
theorem sum_ind (L : List (Int × Int × Int)) (p : Int × Int × Int → Bool) (c : Nat) : (L.map fun t => if p t = true then c else 0).sum = (L.filter p).length * c := by
  induction L with
  | nil => simp
  | cons a L ih =>
    rw [List.map_cons, List.sum_cons, ih, List.filter_cons]
    by_cases h : p a = true
    · rw [if_pos h, if_pos h, List.length_cons, Nat.add_mul]
      omega
    · rw [if_neg h, if_neg h]
      omega
/-- All edges are told twice, in all. -/
theorem edges_twice {L : List (Int × Int × Int)} {E : List (Int × Int × Int × Int)} (hE : EdgeSet L E) (hnd : L.Nodup) (hk : ∀ t ∈ L, Kd t) : (L.map (g3 L)).sum = 2 * E.length := by
  have h1 : L.map (g3 L) = L.map fun t => (E.map fun e => if hasT t e = true then fE L e else 0).sum := List.map_congr_left (fun t ht => by
    obtain ⟨n1, n2, n3⟩ := edg_ne (hk t ht)
    have hm : ∀ k, edg t k ∈ E := fun k => (hE.2 _).2 ⟨t, ht, edg_own t k⟩
    have h2 : (E.map fun e => if hasT t e = true then fE L e else 0) = E.map fun e => ((if e = edg t 0 then fE L e else 0) + (if e = edg t 1 then fE L e else 0)) + (if e = edg t 2 then fE L e else 0) := List.map_congr_left (fun e _ => by
      by_cases hh : hasT t e = true
      · obtain ⟨i, hi, he⟩ := hasT_edg hh
        have : i = 0 ∨ i = 1 ∨ i = 2 := by omega
        rw [if_pos hh]
        rcases this with rfl | rfl | rfl
        · rw [if_pos he.symm, if_neg (fun q => n1 (he.trans q)), if_neg (fun q => n2 (he.trans q))]
          omega
        · rw [if_pos he.symm, if_neg (fun q => n1 (he.trans q).symm), if_neg (fun q => n3 (he.trans q))]
          omega
        · rw [if_pos he.symm, if_neg (fun q => n2 (he.trans q).symm), if_neg (fun q => n3 (he.trans q).symm)]
          omega
      · rw [if_neg hh, if_neg, if_neg, if_neg] <;> exact fun q => hh (by rw [q]; exact edg_own _ _))
    rw [h2, sum_add, sum_add, sum_one _ _ E hE.1 (hm 0), sum_one _ _ E hE.1 (hm 1), sum_one _ _ E hE.1 (hm 2)]
    rfl)
  rw [h1, sum_swap]
  have h3 : (E.map fun e => (L.map fun t => if hasT t e = true then fE L e else 0).sum) = E.map fun _ => 2 := List.map_congr_left (fun e he => by
    rw [sum_ind L (fun t => hasT t e) (fE L e)]
    exact cnt_two hnd hk ((hE.2 e).1 he))
  rw [h3]
  clear h1 h3 hE
  induction E with
  | nil => rfl
  | cons a E ih =>
    rw [List.map_cons, List.sum_cons, ih, List.length_cons]
    omega

set_option maxRecDepth 100000 in
set_option maxHeartbeats 6400000 in
theorem lay_yes (W H b off cap n ccap : Nat) (cb : Option Addr) (zs ks : List Int) (w : World) (hr : Row w (some ⟨b, off, none⟩) zs) (hW : 1 ≤ W ∧ W ≤ 8) (hH : 1 ≤ H ∧ H ≤ 8) (hl : zs.length = W * H) (hm : maskB zs = true) (hk : Row w cb ks) (hn : ks.length = n * 5) (hn2 : n ≤ 3518437208883) (hs : Steps w) (hJ : Joined (ty zs W H)) (hC : ∀ i, i < n → CrOk (ty zs W H) ks i) :
    Calls Tryd.prog 21 #[.agg #[.int .i64 (W : Int), .int .i64 (H : Int), .slice (some ⟨b, off, none⟩) zs.length cap, .slice cb n ccap]] w fun e w' => ∃ ad cc base ra rk, e = .returned (.tuple #[.agg #[.slice ad (ty zs W H).length cc, .map (some ra), .map (some rk)], .bool true]) ∧ PK w w' base ra rk (.slice ad (ty zs W H).length cc) (ty zs W H) (gix (ty zs W H)) (kf ks n) := by
  have hcb : cellsB (W : Int) (H : Int) zs = true := by
    have e1 : sideB (W : Int) = true := by simp [sideB]; omega
    have e2 : sideB (H : Int) = true := by simp [sideB]; omega
    have e3 : (zs.length : Int) = (W : Int) * (H : Int) := by rw [hl]; simp
    simp only [cellsB, e1, e2, decide_eq_true e3, hm]
    rfl
  have hsW : sideB (W : Int) = true := by simp [sideB]; omega
  have hsH : sideB (H : Int) = true := by simp [sideB]; omega
  have hlW : (zs.length : Int) = (W : Int) * (H : Int) := by rw [hl]; simp
  have C93 : Hid (∀ W' : World, Below w.heap.size w W' → Calls Tryd.prog 49 #[.agg #[.int .i64 (W : Int), .int .i64 (H : Int), .slice (some ⟨b, off, none⟩) zs.length cap, .slice cb n ccap]] W' fun e w' => e = .returned (.bool true) ∧ ∃ o, w' = W'.alloc o) := fun W' hW' => hm ▸ mayMask_any W H _ cap zs _ W' hsW hsH (hr.kept hW') hlW
  have C92 : Hid (∀ W' : World, Calls Tryd.prog 48 #[.int .i64 (W : Int)] W' fun e w' => e = .returned (.bool true) ∧ w' = W') := fun W' => hsW ▸ maySide_any (W : Int) W'
  have C92' : Hid (∀ W' : World, Calls Tryd.prog 48 #[.int .i64 (H : Int)] W' fun e w' => e = .returned (.bool true) ∧ w' = W') := fun W' => hsH ▸ maySide_any (H : Int) W'
  have C94 : Hid (∀ W' : World, Below w.heap.size w W' → Calls Tryd.prog 50 #[.int .i64 (W : Int), .int .i64 (H : Int), .slice (some ⟨b, off, none⟩) zs.length cap] W' fun e w' => ∃ ad cc base pb ra rk, e = .returned (.agg #[.slice ad (ty zs W H).length cc, .map (some ra), .map (some rk)]) ∧ PP W' w' base pb ra rk (.slice ad (ty zs W H).length cc) (ty zs W H) (gix (ty zs W H))) := fun W' hW' => of_any W H b off cap zs W' (hs.kept hW') (hr.kept hW') hW hH hl hm
  have hlen : (ty zs W H).length ≤ 300 := by have := ty_len zs W H hW.2; omega
  have C95 : Hid (∀ (W' : World) (ad : Option Addr) (cc ra rk : Nat), Below w.heap.size w W' → PA W' ad ra (ty zs W H) → Calls Tryd.prog 51 #[.agg #[.slice ad (ty zs W H).length cc, .map (some ra), .map (some rk)]] W' fun e w' => ∃ bb : Bool, e = .returned (.bool bb) ∧ (bb = true ↔ Joined (ty zs W H)) ∧ Below W'.heap.size W' w') := fun W' ad cc ra rk hW' hp => joined_any W' cc ra rk ad _ (hs.kept hW') hp hlen (ty_nodup zs W H) (ty_bd hW.2 hH.2)
  have C96 : Hid (∀ (W' : World) (ad : Option Addr) (cc ra rk : Nat), Below w.heap.size w W' → PA W' ad ra (ty zs W H) → Calls Tryd.prog 52 #[.agg #[.slice ad (ty zs W H).length cc, .map (some ra), .map (some rk)], .slice cb n ccap] W' fun e w' => ∃ bb : Bool, e = .returned (.bool bb) ∧ (bb = true ↔ ∀ i, i < n → CrOk (ty zs W H) ks i) ∧ Below W'.heap.size W' w') := fun W' ad cc ra rk hW' hp => mayCreases_any W' cc ra rk n ccap ad cb _ ks hp (hk.kept hW') hn hn2
  have HCR : Hid (CRow w cb ks n) := row_crow hk hn
  clear hr hl hm hW hH hk hn hs hcb hsW hsH hlW
  obtain ⟨L, hL⟩ : ∃ L, L = ty zs W H := ⟨_, rfl⟩
  rw [← hL] at C94 C95 C96 hlen
  rw [← hL] at hJ hC ⊢
  have HJ : Hid (Joined L) := hJ
  have HC : Hid (∀ i, i < n → CrOk L ks i) := hC
  clear hL hJ hC
  go_enter Tryd.func21, Tryd.ntmps21
  go_wp2_with (first
    | (go_at_call 48; first | (refine (C92.out _).mono ?_; rintro e w9 ⟨rfl, hw9⟩; have hw9b := hw9.symm; clear hw9; subst hw9b) | (refine (C92'.out _).mono ?_; rintro e w9 ⟨rfl, hw9⟩; have hw9b := hw9.symm; clear hw9; subst hw9b))
    | (go_at_call 49; refine (C93.out _ (by with_reducible exact bl_alloc (bl_alloc (bl_refl _)))).mono ?_; rintro e w9 ⟨rfl, o9, rfl⟩)
    | (go_at_call 50; refine (C94.out _ (by with_reducible exact bl_alloc (bl_alloc (bl_alloc (bl_refl _))))).mono ?_; rintro e w3 ⟨ad, cc, base, pb, ra, rk, rfl, hPP⟩; have HK3 : Hid (PK ((w.alloc (.cells #[.int .i64 (W : Int), .int .i64 (H : Int), .slice (some ⟨b, off, none⟩) zs.length cap, .slice cb n ccap] 25)).alloc (.cells #[.slice none 0 0, .map none, .map none] 63)) w3 base ra rk (.slice ad L.length cc) L (gix L) (fun _ => none)) := hPP.pk.base (bl_alloc (bl_refl _)); have s0 : w3.cell? ⟨w.heap.size, 0, none⟩ = some (.int .i64 (W : Int)) := cl_kept HK3.out.2.2.2.2 (by simp [go_sem]); have s1 : w3.cell? ⟨w.heap.size, 1, none⟩ = some (.int .i64 (H : Int)) := cl_kept HK3.out.2.2.2.2 (by simp [go_sem]); have s2 : w3.cell? ⟨w.heap.size, 2, none⟩ = some (.slice (some ⟨b, off, none⟩) zs.length cap) := cl_kept HK3.out.2.2.2.2 (by simp [go_sem]); have s3 : w3.cell? ⟨w.heap.size, 3, none⟩ = some (.slice cb n ccap) := cl_kept HK3.out.2.2.2.2 (by simp [go_sem]); have z3 : w.heap.size < w3.heap.size := World.block_lt_of_cell? _ _ s0; have z3b : w.heap.size + 1 < w3.heap.size := Nat.lt_of_lt_of_le (by simp) HK3.out.2.2.2.2.size; clear hPP)
    | (go_at_call 51; refine (C95.out _ _ cc ra rk (bl_alloc (bl_via (bl_alloc (bl_alloc (bl_refl _))) HK3.out.2.2.2.2)) (HK3.out.pa.kept (bl_alloc (bl_refl _)))).mono ?_; rintro e w4 ⟨bb4, rfl, hb4, hbl4⟩; obtain rfl : bb4 = true := hb4.2 HJ.out; have HK4 : Hid (PK ((w.alloc (.cells #[.int .i64 (W : Int), .int .i64 (H : Int), .slice (some ⟨b, off, none⟩) zs.length cap, .slice cb n ccap] 25)).alloc (.cells #[.slice none 0 0, .map none, .map none] 63)) w4 base ra rk (.slice ad L.length cc) L (gix L) (fun _ => none) ∧ Below w3.heap.size w3 w4) := ⟨HK3.out.kept (bl_via (bl_alloc (bl_refl _)) hbl4), bl_via (bl_alloc (bl_refl _)) hbl4⟩; have r0 : w4.cell? ⟨w.heap.size, 0, none⟩ = some (.int .i64 (W : Int)) := cl_kept HK4.out.2 s0; have r1 : w4.cell? ⟨w.heap.size, 1, none⟩ = some (.int .i64 (H : Int)) := cl_kept HK4.out.2 s1; have r2 : w4.cell? ⟨w.heap.size, 2, none⟩ = some (.slice (some ⟨b, off, none⟩) zs.length cap) := cl_kept HK4.out.2 s2; have r3 : w4.cell? ⟨w.heap.size, 3, none⟩ = some (.slice cb n ccap) := cl_kept HK4.out.2 s3; have u0p : w4.cell? ⟨w3.heap.size, 0, none⟩ = some (.slice ad L.length cc) := cl_kept hbl4 (by simp [go_sem]); have u1p : w4.cell? ⟨w3.heap.size, 1, none⟩ = some (.map (some ra)) := cl_kept hbl4 (by simp [go_sem]); have u2p : w4.cell? ⟨w3.heap.size, 2, none⟩ = some (.map (some rk)) := cl_kept hbl4 (by simp [go_sem]); have z4 : w.heap.size < w4.heap.size := World.block_lt_of_cell? _ _ r0; have z4b : w3.heap.size < w4.heap.size := World.block_lt_of_cell? _ _ u0p; clear hb4 hbl4)
    | (go_at_call 52; refine (C96.out _ _ cc ra rk (bl_via (bl_alloc (bl_alloc (bl_refl _))) HK4.out.1.2.2.2.2) HK4.out.1.pa).mono ?_; rintro e w5 ⟨bb5, rfl, hb5, hbl5⟩; obtain rfl : bb5 = true := hb5.2 HC.out; have HK5 : Hid (PK ((w.alloc (.cells #[.int .i64 (W : Int), .int .i64 (H : Int), .slice (some ⟨b, off, none⟩) zs.length cap, .slice cb n ccap] 25)).alloc (.cells #[.slice none 0 0, .map none, .map none] 63)) w5 base ra rk (.slice ad L.length cc) L (gix L) (fun _ => none)) := HK4.out.1.kept hbl5; have v0 : w5.cell? ⟨w.heap.size, 0, none⟩ = some (.int .i64 (W : Int)) := cl_kept hbl5 r0; have v1 : w5.cell? ⟨w.heap.size, 1, none⟩ = some (.int .i64 (H : Int)) := cl_kept hbl5 r1; have v2 : w5.cell? ⟨w.heap.size, 2, none⟩ = some (.slice (some ⟨b, off, none⟩) zs.length cap) := cl_kept hbl5 r2; have v3 : w5.cell? ⟨w.heap.size, 3, none⟩ = some (.slice cb n ccap) := cl_kept hbl5 r3; have x0p : w5.cell? ⟨w3.heap.size, 0, none⟩ = some (.slice ad L.length cc) := cl_kept hbl5 u0p; have x1p : w5.cell? ⟨w3.heap.size, 1, none⟩ = some (.map (some ra)) := cl_kept hbl5 u1p; have x2p : w5.cell? ⟨w3.heap.size, 2, none⟩ = some (.map (some rk)) := cl_kept hbl5 u2p; have z5 : w.heap.size < w5.heap.size := World.block_lt_of_cell? _ _ v0; clear hb5 hbl5))
  have zbase : base ≤ w3.heap.size := HK3.out.2.2.2.1.2.2.2.2.2.1
  go_loopg [44] n (fun gk s44 wx => ∃ i : Nat, i ≤ n ∧ gk = n - i ∧ s44 = .int .i64 (i : Int) ∧ PK ((w.alloc (.cells #[.int .i64 (W : Int), .int .i64 (H : Int), .slice (some ⟨b, off, none⟩) zs.length cap, .slice cb n ccap] 25)).alloc (.cells #[.slice none 0 0, .map none, .map none] 63)) wx base ra rk (.slice ad L.length cc) L (gix L) (kf ks i) ∧ (wx.cell? ⟨w3.heap.size, 0, none⟩ = some (.slice ad L.length cc) ∧ wx.cell? ⟨w3.heap.size, 1, none⟩ = some (.map (some ra)) ∧ wx.cell? ⟨w3.heap.size, 2, none⟩ = some (.map (some rk))))
  case atStart => exact ⟨0, by omega, rfl, rfl, HK5.out, x0p, x1p, x2p⟩
  case round =>
    clear HK5 HK4 x0p x1p x2p u0p u1p u2p s0 s1 s2 s3 r0 r1 r2 r3 v0 v1 v2 v3 z4 z4b z5
    obtain ⟨i, hi, rfl, rfl, hK, y0, y1, y2⟩ := hrel
    have HK : Hid (PK ((w.alloc (.cells #[.int .i64 (W : Int), .int .i64 (H : Int), .slice (some ⟨b, off, none⟩) zs.length cap, .slice cb n ccap] 25)).alloc (.cells #[.slice none 0 0, .map none, .map none] 63)) wr base ra rk (.slice ad L.length cc) L (gix L) (kf ks i)) := hK
    have HB : Hid (Below w.heap.size w wr) := bl_via (bl_alloc (bl_alloc (bl_refl _))) hK.2.2.2.2
    clear hK
    have zy : w3.heap.size < wr.heap.size := World.block_lt_of_cell? _ _ y0
    by_cases h1 : i < n
    · have i1 : (i : Int) < (n : Int) := by omega
      have i0 : (0 : Int) ≤ (i : Int) := by omega
      obtain ⟨bb, bo, rfl, c0, c1, c2, c3, c4⟩ := (HCR.out.kept HB.out) i h1
      have zb : bb < wr.heap.size := World.block_lt_of_cell? _ _ c0
      obtain ⟨W', hu, hg, hK'⟩ := (HK.out.kept (w' := wr.alloc (.cells #[.int .i64 (ck ks i 0), .int .i64 (ck ks i 1), .int .i64 (ck ks i 2), .int .i64 (ck ks i 3), .int .i64 (ck ks i 4)] 74)) (bl_alloc (bl_refl _))).update ((ck ks i 0), (ck ks i 1), (ck ks i 2), (ck ks i 3)) (.int .i64 (ck ks i 4))
      have hu' : (Instr.mapUpdate 61 (.map (some rk)) (.agg #[.int .i64 (ck ks i 0), .int .i64 (ck ks i 1), .int .i64 (ck ks i 2), .int .i64 (ck ks i 3)]) (.int .i64 (ck ks i 4))).run Tryd.prog (wr.alloc (.cells #[.int .i64 (ck ks i 0), .int .i64 (ck ks i 1), .int .i64 (ck ks i 2), .int .i64 (ck ks i 3), .int .i64 (ck ks i 4)] 74)) = .ok () W' := hu
      have hne : some w3.heap.size ≠ some rk := fun e => by
        have := HK.out.2.2.2.1.2.2.2.1
        simp at e
        omega
      have HN : Hid (PK ((w.alloc (.cells #[.int .i64 (W : Int), .int .i64 (H : Int), .slice (some ⟨b, off, none⟩) zs.length cap, .slice (some ⟨bb, bo, none⟩) n ccap] 25)).alloc (.cells #[.slice none 0 0, .map none, .map none] 63)) W' base ra rk (.slice ad L.length cc) L (gix L) (kf ks (i + 1)) ∧ (W'.cell? ⟨w3.heap.size, 0, none⟩ = some (.slice ad L.length cc) ∧ W'.cell? ⟨w3.heap.size, 1, none⟩ = some (.map (some ra)) ∧ W'.cell? ⟨w3.heap.size, 2, none⟩ = some (.map (some rk)))) := ⟨hK', hg.cell (al_old y0) hne, hg.cell (al_old y1) hne, hg.cell (al_old y2) hne⟩
      clear hu hg hK' hne
      go_wp2
      go_roundg (n - (i + 1))
      case measure => omega
      case rel => exact ⟨i + 1, by omega, rfl, by go_num, HN.out.1, HN.out.2⟩
    · have i1 : ¬ (i : Int) < (n : Int) := by omega
      obtain rfl : i = n := by omega
      have c0r : wr.cell? ⟨w.heap.size + 1, 0, none⟩ = some (.slice none 0 0) := cl_kept HK.out.2.2.2.2 (by simp [go_sem])
      have c1r : wr.cell? ⟨w.heap.size + 1, 1, none⟩ = some (.map none) := cl_kept HK.out.2.2.2.2 (by simp [go_sem])
      have c2r : wr.cell? ⟨w.heap.size + 1, 2, none⟩ = some (.map none) := cl_kept HK.out.2.2.2.2 (by simp [go_sem])
      have f0r : wr.frozen? ⟨w.heap.size + 1, 0, none⟩ = false := (HK.out.2.2.2.2.frozen (p := ⟨w.heap.size + 1, 0, none⟩) (by simp)).trans (by simp [go_sem])
      have f1r : wr.frozen? ⟨w.heap.size + 1, 1, none⟩ = false := (HK.out.2.2.2.2.frozen (p := ⟨w.heap.size + 1, 1, none⟩) (by simp)).trans (by simp [go_sem])
      have f2r : wr.frozen? ⟨w.heap.size + 1, 2, none⟩ = false := (HK.out.2.2.2.2.frozen (p := ⟨w.heap.size + 1, 2, none⟩) (by simp)).trans (by simp [go_sem])
      go_wp2
      have hz2 := HK.out.2.2.2.1
      refine bodyPost_ret (v := .tuple #[.agg #[.slice ad L.length cc, .map (some ra), .map (some rk)], .bool true]) ?_ rfl ⟨ad, cc, base, ra, rk, rfl, (HK.out.base (bl_alloc (bl_alloc (bl_refl w)))).grown (gb_then (gb_then (grown_cell _ _ 0 _) (grown_cell _ _ 1 _)) (grown_cell _ _ 2 _)) (by omega) ?_ ?_ ?_⟩
      · simp [results, Tryd.results21, go_sem, c0r, c1r, c2r]
      · have := hz2.1
        simp at this
        omega
      · have := hz2.2.2.1
        simp at this
        omega
      · have := hz2.2.2.2.2.2.2
        simp at this
        omega
end Go.Proofs.YtmjneoaciopioaaDoor
