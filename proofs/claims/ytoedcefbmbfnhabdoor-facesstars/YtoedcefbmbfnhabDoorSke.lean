/- The reference's stars and the code's: both lists are one. Stars in memory, told by their points. Stars in memory: what both sides tell, in one form. -/
import Derived.Test.YtoedcefbmbfnhabDoorSkd
import Derived.Test.YtoedcefbmbfnhabDoorSkb
import Derived.Test.YtoedcefbmbfnhabDoorSkc
namespace Go.Proofs.YtoedcefbmbfnhabDoor
open Go.RowKit Go.ChangeMaps

/-- What StarsOf tells. -/
def RefR (L : List (Int × Int × Int)) (f : Int × Int → Nat → Int) (w w' : World) (e : Ending) : Prop := ∃ a c Bs pts, e = .returned (.slice a (List.length Bs) c) ∧ STR w' (.slice a Bs.length c) Bs ∧ (∀ b ∈ Bs, BOK w' f b) ∧ Bs.map (fun b => b.1) = pts.filter (gref L f) ∧ SPt pts (L.flatMap cnr) ∧ Below w.heap.size w w'
theorem RefR.of {w wx : World} {r c8 : Nat} {a8 : Option Addr} {f : Int × Int → Nat → Int} {A : List SA} {L : List (Int × Int × Int)} {pts : List (Int × Int)} (h : RT w wx r (.slice a8 A.length c8) f A) (hk : A.map (fun a => a.1) = pts.filter (gref L f)) (hp : SPt pts (L.flatMap cnr)) : RefR L f w wx (.returned (.slice a8 A.length c8)) := by
  have hlen : (A.map toSB).length = A.length := List.length_map ..
  refine ⟨a8, c8, A.map toSB, pts, by rw [hlen], ?_, fun b hb => ?_, ?_, hp, h.b⟩
  · refine ⟨a8, c8, rfl, fun i hi => ?_⟩
    have hi2 : i < A.length := by omega
    have ho := h.own
    rw [← flat_of h.ok] at ho
    rcases ho.2 with ⟨e, h0⟩ | ⟨g, cap, cur, e, _⟩
    · exfalso
      omega
    · simp only [Value.slice.injEq] at e
      refine ⟨g, e.1, fun cc hc => ?_⟩
      rw [e.1] at ho
      have h1 := ho.cellAt (i * 4 + cc) (by omega)
      rw [h1, flat_at _ _ (by omega), show (i * 4 + cc) / 4 = i by omega, show (i * 4 + cc) % 4 = cc by omega, List.getD_eq_getElem?_getD, List.getElem?_eq_getElem hi, Option.getD_some]
  · obtain ⟨a, ha, rfl⟩ := List.mem_map.1 hb
    exact BOK.of (h.ok a ha)
  · rw [List.map_map, ← hk]
    rfl
theorem RefR.ofA {w w' : World} {e : Ending} {f : Int × Int → Nat → Int} {L : List (Int × Int × Int)} (h : RefA L f w w' e) : RefR L f w w' e := by
  obtain ⟨a, c, A, pts, r, w2, rfl, h1, h2, h3, h4⟩ := h
  obtain ⟨ra, rc, rB, rp, r1, r2, r3, r4, r5, r6⟩ := RefR.of h1 h2 h3
  exact ⟨ra, rc, rB, rp, r1, r2, r3, r4, r5, bl_via h4 r6⟩
/-- Two lists in order with the same members are one. -/
theorem sorted_eq : ∀ {l m : List (Int × Int)}, l.Pairwise ltP → m.Pairwise ltP → (∀ p, p ∈ l ↔ p ∈ m) → l = m
  | [], [], _, _, _ => rfl
  | [], b :: m, _, _, h => absurd ((h b).2 (by simp)) (by simp)
  | a :: l, [], _, _, h => absurd ((h a).1 (by simp)) (by simp)
  | a :: l, b :: m, h1, h2, h => by
    rw [List.pairwise_cons] at h1 h2
    have irr : ∀ {p q : Int × Int}, ltP p q → ltP q p → False := fun {p q} x y => by
      unfold ltP at x y
      omega
    have e : a = b := by
      rcases List.mem_cons.1 ((h a).1 (by simp)) with e | e
      · exact e
      · rcases List.mem_cons.1 ((h b).2 (by simp)) with e' | e'
        · exact e'.symm
        · exact (irr (h1.1 b e') (h2.1 a e)).elim
    subst e
    refine congrArg (a :: ·) (sorted_eq h1.2 h2.2 (fun p => ?_))
    have hp := h p
    rw [List.mem_cons, List.mem_cons] at hp
    constructor
    · intro q
      rcases hp.1 (Or.inr q) with e | e
      · subst e
        exact (irr (h1.1 p q) (h1.1 p q)).elim
      · exact e
    · intro q
      rcases hp.2 (Or.inr q) with e | e
      · subst e
        exact (irr (h2.1 p q) (h2.1 p q)).elim
      · exact e
/-- A star of the code is a star of the reference. -/
theorem gstar_iff {L : List (Int × Int × Int)} {ks : List Int} {n : Nat} {pts : List (Int × Int)} (hn : L.Nodup) (hL : ∀ t ∈ L, Kd t) (hC : ∀ i, i < n → GE (ck ks i 0, ck ks i 1, ck ks i 2, ck ks i 3)) (hp : SPt pts (L.flatMap cnr)) (pt : Int × Int) : gstar (L.flatMap tps) (kc ks n) pt = true ↔ pt ∈ pts.filter (gref L fun pt d => kdn ks n (eP pt d)) := by
  have hs : sdirs (kc ks n pt) 8 = sdirs (fun d => kdn ks n (eP pt d)) 8 := (sdirs_congr 8 (fun d hd => kc_kdn hC hd n (Nat.le_refl n))).1
  rw [List.mem_filter, hp.2 pt, gstar, gref, Bool.and_eq_true, Bool.and_eq_true, decide_eq_true_eq, decide_eq_true_eq, decide_eq_true_eq, List.all_eq_true, hs]
  unfold cntC
  constructor
  · rintro ⟨h1, h2⟩
    have hb := h2 0 (by simp)
    obtain ⟨t, ht, hb⟩ := bits_flat.1 hb
    have hc := (corner_iff (hL t ht)).2 ⟨0, by omega, hb⟩
    refine ⟨List.mem_flatMap.2 ⟨t, ht, hc⟩, (within_iff hn hL (cnr_gp (hL t ht) hc)).1 (fun d hd => h2 d (by simpa using hd)), h1⟩
  · rintro ⟨h0, h1, h2⟩
    obtain ⟨t, ht, hc⟩ := List.mem_flatMap.1 h0
    refine ⟨h2, fun d hd => (within_iff hn hL (cnr_gp (hL t ht) hc)).2 h1 d (by simpa using hd)⟩
end Go.Proofs.YtoedcefbmbfnhabDoor
namespace Go.Proofs.YtoedcefbmbfnhabDoor
open Go.RowKit Go.ChangeMaps

/-- Stars in memory, told by their points. -/
def SRk (w : World) (a : Option Addr) (K : List (Int × Int)) (F : Int × Int → Nat → Int) : Prop := ∀ i (h : i < K.length), ∃ g dA dC kA kC, a = some ⟨g, 0, none⟩ ∧ w.cell? ⟨g, i * 4, none⟩ = some (.int .i64 K[i].1) ∧ w.cell? ⟨g, i * 4 + 1, none⟩ = some (.int .i64 K[i].2) ∧ w.cell? ⟨g, i * 4 + 2, none⟩ = some (.slice dA (sdirs (F K[i]) 8).length dC) ∧ w.cell? ⟨g, i * 4 + 3, none⟩ = some (.slice kA (skinds (F K[i]) 8).length kC) ∧ Row w dA (sdirs (F K[i]) 8) ∧ Row w kA (skinds (F K[i]) 8)
theorem SRk.kept {w wx : World} {a : Option Addr} {K : List (Int × Int)} {F : Int × Int → Nat → Int} (h : SRk w a K F) (hb : Below w.heap.size w wx) : SRk wx a K F := fun i hi => by
  obtain ⟨g, dA, dC, kA, kC, e, c0, c1, c2, c3, r0, r1⟩ := h i hi
  exact ⟨g, dA, dC, kA, kC, e, cl_kept hb c0, cl_kept hb c1, cl_kept hb c2, cl_kept hb c3, r0.kept hb, r1.kept hb⟩
theorem SRk.kept' {w wx : World} {a : Option Addr} {K : List (Int × Int)} {F : Int × Int → Nat → Int} (h : SRk w a K F) (hb : Below w.heap.size w wx) : Hid (SRk wx a K F) := h.kept hb
theorem neqP_same (a b : Int) (w : World) : (binOp .neq 43 (.agg #[.int .i64 a, .int .i64 b]) (.agg #[.int .i64 a, .int .i64 b])).run Tryd.prog w = .ok (.bool false) w := by
  simp [go_sem]
end Go.Proofs.YtoedcefbmbfnhabDoor
namespace Go.Proofs.YtoedcefbmbfnhabDoor
open Go.RowKit Go.ChangeMaps

theorem SRk.of {w : World} {a : Option Addr} {c : Nat} {K : List (Int × Int)} {F f : Int × Int → Nat → Int} {Bs : List SB} (h : STR w (.slice a Bs.length c) Bs) (hB : ∀ b ∈ Bs, BOK w f b) (hK : Bs.map (fun b => b.1) = K) (hF : ∀ pt, sdirs (f pt) 8 = sdirs (F pt) 8 ∧ skinds (f pt) 8 = skinds (F pt) 8) : SRk w a K F := fun i hi => by
  subst hK
  have hi2 : i < Bs.length := by simpa using hi
  obtain ⟨a', c', e, hc⟩ := h
  simp only [Value.slice.injEq] at e
  obtain ⟨g, e2, hc⟩ := hc i hi2
  have c0 := hc 0 (by omega)
  have c1 := hc 1 (by omega)
  have c2 := hc 2 (by omega)
  have c3 := hc 3 (by omega)
  obtain ⟨⟨r0, l0⟩, ⟨r1, l1⟩⟩ := hB _ (List.getElem_mem hi2)
  have e3 : (Bs.map (fun b => b.1))[i] = Bs[i].1 := by simp
  rw [e3]
  obtain ⟨f0, f1⟩ := hF Bs[i].1
  rw [f0] at r0 l0
  rw [f1] at r1 l1
  refine ⟨g, Bs[i].2.1.1, Bs[i].2.1.2.2, Bs[i].2.2.1, Bs[i].2.2.2.2, e.1.trans e2, c0, c1, ?_, ?_, r0, r1⟩
  · rw [← l0]
    exact c2
  · rw [← l1]
    exact c3
theorem stars_to {L : List (Int × Int × Int)} {ks : List Int} {n : Nat} {pts : List (Int × Int)} {w w' : World} {e : Ending} (h : StarsTo (L.flatMap tps) (kc ks n) w w' e) (hn : L.Nodup) (hL : ∀ t ∈ L, Kd t) (hC : ∀ i, i < n → GE (ck ks i 0, ck ks i 1, ck ks i 2, ck ks i 3)) (hp : SPt pts (L.flatMap cnr)) :
    ∃ a c, e = .returned (.tuple #[.slice a (pts.filter (gref L fun pt d => kdn ks n (eP pt d))).length c, .int .i64 0]) ∧ SRk w' a (pts.filter (gref L fun pt d => kdn ks n (eP pt d))) (fun pt d => kdn ks n (eP pt d)) ∧ Below w.heap.size w w' := by
  obtain ⟨v, he, a, c, Bs, e1, h2, h3, h4, h5, h6⟩ := h
  have hK : Bs.map (fun b => b.1) = pts.filter (gref L fun pt d => kdn ks n (eP pt d)) := sorted_eq h4 (hp.1.filter _) (fun p => (h5 p).trans (gstar_iff hn hL hC hp p))
  have hlen : Bs.length = (pts.filter (gref L fun pt d => kdn ks n (eP pt d))).length := by rw [← hK, List.length_map]
  simp only [Ending.returned.injEq] at e1
  subst e1
  refine ⟨a, c, by rw [he, hlen], SRk.of h2 h3 hK (fun pt => sdirs_congr 8 (fun d hd => kc_kdn hC hd n (Nat.le_refl n))), h6⟩
theorem ref_to {L : List (Int × Int × Int)} {F : Int × Int → Nat → Int} {pts : List (Int × Int)} {w w' : World} {e : Ending} (h : RefR L F w w' e) (hp : SPt pts (L.flatMap cnr)) :
    ∃ a c, e = .returned (.slice a (pts.filter (gref L F)).length c) ∧ SRk w' a (pts.filter (gref L F)) F ∧ Below w.heap.size w w' := by
  obtain ⟨a, c, Bs, pts2, he, h2, h3, h4, h5, h6⟩ := h
  obtain rfl : pts2 = pts := sorted_eq h5.1 hp.1 (fun p => (h5.2 p).trans (hp.2 p).symm)
  have hlen : Bs.length = (pts2.filter (gref L F)).length := by rw [← h4, List.length_map]
  exact ⟨a, c, by rw [he, hlen], SRk.of h2 h3 h4 (fun pt => ⟨rfl, rfl⟩), h6⟩
end Go.Proofs.YtoedcefbmbfnhabDoor
