/- A paper of cells: every triangle that is there is laid. -/
import Derived.Test.YtehmoacggikfmaaDoorQlbn
namespace Go.Proofs.YtehmoacggikfmaaDoor
open Go.RowKit Go.ChangeMaps

theorem PP.made (w : World) : PP (w.alloc (.cells #[.slice none 0 0, .map none, .map none] 40)) ((((w.alloc (.cells #[.slice none 0 0, .map none, .map none] 40)).alloc (.map #[] 0)).alloc (.map #[] 0)).alloc (.cells #[.slice none 0 0, .map (some (w.heap.size + 1)), .map (some (w.heap.size + 2))] 40)) (w.heap.size + 4) (w.heap.size + 3) (w.heap.size + 1) (w.heap.size + 2) (.slice none 0 0) [] (gix []) := by
  refine ⟨⟨?_, ?_, ?_, ?_⟩, by simpa [flatV] using World.ownsRow_nil _ _ _ _, ?_, ?_, ⟨by simp, by omega, by simp, by omega, by simp, by omega, by omega, by simp⟩, bl_alloc (bl_alloc (bl_alloc (bl_refl _)))⟩
  · simp [go_sem]
  · simp [go_sem]
  · simp [go_sem]
  · simp [go_sem]
  · refine ⟨[], 0, ?_, good_nil, fun e _ => gix_nil e, fun e v h => by simp [lk] at h, fun e e' v v' _ h => by simp [lk] at h⟩
    have e1 := em_made (w.alloc (.cells #[.slice none 0 0, .map none, .map none] 40))
    have e2 := e1.grown (World.grownBy_alloc _ (.map #[] 0) none) (by simp)
    have e3 := e2.grown (World.grownBy_alloc _ (.cells #[.slice none 0 0, .map (some (w.heap.size + 1)), .map (some (w.heap.size + 2))] 40) none) (by simp)
    simpa using e3
  · refine ⟨0, ?_, good_nil⟩
    have e1 := em_made ((w.alloc (.cells #[.slice none 0 0, .map none, .map none] 40)).alloc (.map #[] 0))
    have e2 := e1.grown (World.grownBy_alloc _ (.cells #[.slice none 0 0, .map (some (w.heap.size + 1)), .map (some (w.heap.size + 2))] 40) none) (by simp)
    simpa using e2

theorem grown_cell (w : World) (b o : Nat) (v : Value) : w.grownBy (w.setCell ⟨b, o, none⟩ v) (some b) := by
  have hb := Below.setCell (w := w) (p := ⟨b, o, none⟩) (Below.refl b w) (Nat.le_refl _) v
  exact ⟨hb.os, hb.tape, hb.output, hb.size, fun k _ hk => Below.heap_setCell _ _ _ k (fun e1 => hk (by rw [e1]))⟩
theorem gb_then {a b c : World} {row : Option Nat} (h : a.grownBy b row) (k : b.grownBy c row) : a.grownBy c row :=
  ⟨k.os.trans h.os, k.tape.trans h.tape, k.output.trans h.output, Nat.le_trans h.size k.size, fun i hi hne => (k.block i (Nat.lt_of_lt_of_le hi h.size) hne).trans (h.block i hi hne)⟩
/-- Another cell, older than the paper, is written. -/
theorem PP.rebase {w0 wf w w' : World} {base pb ra rk r : Nat} {vt : Value} {L : List (Int × Int × Int)} {G : Int × Int × Int × Int → List Int} (h : PP w0 w base pb ra rk vt L G) (hf : Below wf.heap.size wf w0) (hg : w.grownBy w' (some r)) (hr : wf.heap.size ≤ r) (h1 : r ≠ pb) (h2 : r ≠ ra) (h3 : r ≠ rk) (h4 : r < base) : PP wf w' base pb ra rk vt L G := by
  obtain ⟨q1, q2, ⟨ls, cl, b1, b2, b3, b4, b5⟩, ⟨c, q4, q4g⟩, ⟨a1, a2, a3, a4, a5, a6, a7, a8⟩, q6⟩ := h
  have hz := hf.size
  have hn : ∀ {v : Value} {n : Nat} {e : TypeId} {s : Nat} {xs : List Value}, w.ownsRow base e s v n xs → v.ownBlock = none ∨ v.ownBlock ≠ some r := fun {v n e s xs} ho => by
    cases hu : v.ownBlock with
    | none => exact Or.inl rfl
    | some g =>
      refine Or.inr (fun e1 => ?_)
      have := (ho.lt g hu).1
      simp at e1
      omega
  refine ⟨q1.grown hg (fun e => h1 (by simpa using e.symm)), q2.kept hg (hn q2), ⟨ls, cl, b1.grown hg (fun e => h2 (by simpa using e.symm)), b2, b3, fun e v he => ?_, b5⟩, ⟨c, q4.grown hg (fun e => h3 (by simpa using e.symm)), q4g⟩, ⟨by omega, a2, by omega, a4, by omega, a6, a7, Nat.le_trans a8 hg.size⟩, ?_⟩
  · obtain ⟨d1, d2, d3⟩ := b4 e v he
    exact ⟨d1.kept hg (hn d1), d2, d3⟩
  · exact (hf.trans (q6.mono hz)).grown hg (Nat.le_trans hz q6.size) (fun k hk => by simp at hk; omega)

set_option maxRecDepth 100000 in
set_option maxHeartbeats 6400000 in
theorem of_any (W H b off cap : Nat) (zs : List Int) (w : World) (hs : Steps w) (hr : Row w (some ⟨b, off, none⟩) zs) (hW : 1 ≤ W ∧ W ≤ 8) (hH : 1 ≤ H ∧ H ≤ 8) (hl : zs.length = W * H) (hm : maskB zs = true) :
    Calls Tryd.prog 22 #[.int .i64 (W : Int), .int .i64 (H : Int), .slice (some ⟨b, off, none⟩) zs.length cap] w fun e w' => ∃ ad cc base pb ra rk, e = .returned (.agg #[.slice ad (ty zs W H).length cc, .map (some ra), .map (some rk)]) ∧ PP w w' base pb ra rk (.slice ad (ty zs W H).length cc) (ty zs W H) (gix (ty zs W H)) := by
  have HR : Hid (Row w (some ⟨b, off, none⟩) zs) := hr
  have HST : Hid (Steps (w.alloc (.cells #[.slice none 0 0, .map none, .map none] 40))) := hs.kept (bl_alloc (bl_refl _))
  have h64 : zs.length ≤ 64 := by rw [hl]; exact Nat.le_trans (Nat.mul_le_mul hW.2 hH.2) (by decide)
  have HM : Hid (∀ z ∈ zs, 0 ≤ z ∧ z ≤ 15) := by
    show ∀ z ∈ zs, 0 ≤ z ∧ z ≤ 15
    simpa [maskB] using hm
  have HL : Hid (zs.length = W * H) := hl
  clear hr hm hl hs
  obtain ⟨w1, w8⟩ := hW
  obtain ⟨h1, h8⟩ := hH
  have hmm := @run_makeMap Tryd.prog
  go_enter Tryd.func22, Tryd.ntmps22
  go_wp2
  go_loopg [15] H (fun g s15 wx => ∃ (y : Nat) (ad : Option Addr) (cc : Nat), y ≤ H ∧ g = H - y ∧ s15 = .int .i64 (y : Int) ∧ PP (w.alloc (.cells #[.slice none 0 0, .map none, .map none] 40)) wx (w.heap.size + 4) (w.heap.size + 3) (w.heap.size + 1) (w.heap.size + 2) (.slice ad (ty zs W y).length cc) (ty zs W y) (gix (ty zs W y)))
  case atStart => exact ⟨0, none, 0, by omega, rfl, rfl, by simpa [ty] using PP.made w⟩
  case round =>
    obtain ⟨y, ad, cc, hy, rfl, rfl, hT⟩ := hrel
    have HT : Hid (PP (w.alloc (.cells #[.slice none 0 0, .map none, .map none] 40)) wr (w.heap.size + 4) (w.heap.size + 3) (w.heap.size + 1) (w.heap.size + 2) (.slice ad (ty zs W y).length cc) (ty zs W y) (gix (ty zs W y))) := hT
    clear hT
    by_cases hy1 : y < H
    · have iy : (y : Int) < (H : Int) := by omega
      go_wp2
      go_loopg [19] W (fun g s19 wx => ∃ (x : Nat) (ad : Option Addr) (cc : Nat), x ≤ W ∧ g = W - x ∧ s19 = .int .i64 (x : Int) ∧ PP (w.alloc (.cells #[.slice none 0 0, .map none, .map none] 40)) wx (w.heap.size + 4) (w.heap.size + 3) (w.heap.size + 1) (w.heap.size + 2) (.slice ad (ty zs W y ++ tx zs W y x).length cc) (ty zs W y ++ tx zs W y x) (gix (ty zs W y ++ tx zs W y x)))
      case atStart => exact ⟨0, ad, cc, by omega, rfl, rfl, by rw [tx_zero, List.append_nil]; exact HT.out⟩
      case round =>
        clear HT
        obtain ⟨x, ad, cc, hx, rfl, rfl, hT⟩ := hrel
        have HT : Hid (PP (w.alloc (.cells #[.slice none 0 0, .map none, .map none] 40)) wr (w.heap.size + 4) (w.heap.size + 3) (w.heap.size + 1) (w.heap.size + 2) (.slice ad (ty zs W y ++ tx zs W y x).length cc) (ty zs W y ++ tx zs W y x) (gix (ty zs W y ++ tx zs W y x))) := hT
        clear hT
        by_cases hx1 : x < W
        · have ix : (x : Int) < (W : Int) := by omega
          go_wp2
          go_loopg [22] 4 (fun g s22 wx => ∃ (k : Nat) (ad : Option Addr) (cc : Nat), k ≤ 4 ∧ g = 4 - k ∧ s22 = .int .i64 (k : Int) ∧ PP (w.alloc (.cells #[.slice none 0 0, .map none, .map none] 40)) wx (w.heap.size + 4) (w.heap.size + 3) (w.heap.size + 1) (w.heap.size + 2) (.slice ad (ty zs W y ++ tx zs W y x ++ tk zs W x y k).length cc) (ty zs W y ++ tx zs W y x ++ tk zs W x y k) (gix (ty zs W y ++ tx zs W y x ++ tk zs W x y k)))
          case atStart => exact ⟨0, ad, cc, by omega, rfl, rfl, by rw [tk_zero, List.append_nil]; exact HT.out⟩
          case round =>
            clear HT
            obtain ⟨k, ad, cc, hk, rfl, rfl, hT⟩ := hrel
            have HT : Hid (PP (w.alloc (.cells #[.slice none 0 0, .map none, .map none] 40)) wr (w.heap.size + 4) (w.heap.size + 3) (w.heap.size + 1) (w.heap.size + 2) (.slice ad (ty zs W y ++ tx zs W y x ++ tk zs W x y k).length cc) (ty zs W y ++ tx zs W y x ++ tk zs W x y k) (gix (ty zs W y ++ tx zs W y x ++ tk zs W x y k))) := hT
            clear hT
            by_cases hk1 : k < 4
            · have ik : (k : Int) < 4 := by omega
              have hyw : y * W + W ≤ W * H := by
                have := Nat.mul_le_mul_right W (show y + 1 ≤ H by omega)
                rw [Nat.succ_mul, Nat.mul_comm H W] at this
                exact this
              have hm : y * W + x < zs.length := by rw [HL.out]; omega
              have hyw2 : y * W ≤ 64 := by have := HL.out; omega
              obtain ⟨b', off', e', hc⟩ := (HR.out.kept (bl_via (bl_alloc (bl_refl _)) HT.out.2.2.2.2.2)) (y * W + x) hm
              simp at e'
              obtain ⟨rfl, rfl⟩ := e'
              have hzb := HM.out _ (List.getElem_mem hm)
              have HBT : Hid (bitAt zs W x y k = bitB (zs[y * W + x]) k) := by show _ = _; simp [bitAt, hm]
              obtain ⟨z, hz⟩ : ∃ z, z = zs[y * W + x] := ⟨_, rfl⟩
              rw [← hz] at hc hzb HBT
              have hbq := bit_eq z (k : Int) hzb.1 hzb.2 (by omega) (by omega)
              rw [Int.toNat_natCast] at hbq
              have yw0 : (0 : Int) ≤ (y : Int) * (W : Int) := by rw [← Int.natCast_mul]; omega
              have yw1 : (y : Int) * (W : Int) ≤ 64 := by rw [← Int.natCast_mul]; omega
              have yx : (y : Int) * (W : Int) + (x : Int) = ((y * W + x : Nat) : Int) := by simp
              have i1 : ((y * W + x : Nat) : Int) < (zs.length : Int) := by omega
              have i0 : (0 : Int) ≤ ((y * W + x : Nat) : Int) := by omega
              obtain ⟨m, hmm2⟩ : ∃ m, m = y * W + x := ⟨_, rfl⟩
              rw [← hmm2] at hc yx i1 i0
              have zbb := World.block_lt_of_cell? _ _ hc
              clear hz hm hyw hyw2 hmm2
              cases hbit : bitB z (k : Int)
              · rw [hbit] at hbq
                go_wp2
                go_roundg (4 - (k + 1))
                case measure => omega
                case rel => exact ⟨k + 1, ad, cc, by omega, rfl, by go_num, by rw [tk_no (HBT.out.trans hbit)]; exact HT.out⟩
              · rw [hbit] at hbq
                have hlen : (ty zs W y ++ tx zs W y x ++ tk zs W x y k).length ≤ 300 := by
                  have q1 := ty_len zs W y w8
                  have q2 := tx_len zs W y x
                  have q3 := tk_len zs W x y k
                  simp only [List.length_append]
                  omega
                have htri : triB (x : Int) (y : Int) (k : Int) = true := by simp [triB]; omega
                go_wp2_with (go_at_call 34; refine (add_any (w.alloc (.cells #[.slice none 0 0, .map none, .map none] 40)) (x : Int) (y : Int) (k : Int) _ _ _ _ cc ad (ty zs W y ++ tx zs W y x ++ tk zs W x y k) _ htri HST.out hlen HT.out).mono ?_; rintro e w2 ⟨rfl, ad2, cc2, hP2⟩; have HP2 : Hid (PP (w.alloc (.cells #[.slice none 0 0, .map none, .map none] 40)) w2 (w.heap.size + 4) (w.heap.size + 3) (w.heap.size + 1) (w.heap.size + 2) (.slice ad2 ((ty zs W y ++ tx zs W y x ++ tk zs W x y k).length + 1) cc2) (ty zs W y ++ tx zs W y x ++ tk zs W x y k ++ [((x : Int), (y : Int), (k : Int))]) (gix (ty zs W y ++ tx zs W y x ++ tk zs W x y k ++ [((x : Int), (y : Int), (k : Int))]))) := hP2; clear hP2)
                go_roundg (4 - (k + 1))
                case measure => omega
                case rel =>
                  have hE : ty zs W y ++ tx zs W y x ++ tk zs W x y (k + 1) = (ty zs W y ++ tx zs W y x ++ tk zs W x y k) ++ [((x : Int), (y : Int), (k : Int))] := by rw [tk_yes (HBT.out.trans hbit), ← List.append_assoc]
                  refine ⟨k + 1, ad2, cc2, by omega, rfl, by go_num, ?_⟩
                  rw [hE, List.length_append, List.length_singleton]
                  exact HP2.out
            · go_wp2
              go_roundg (W - (x + 1))
              case measure => omega
              case rel =>
                obtain rfl : k = 4 := by omega
                exact ⟨x + 1, ad, cc, by omega, rfl, by go_num, by rw [tx_succ, ← List.append_assoc]; exact HT.out⟩
        · have ix : ¬ (x : Int) < (W : Int) := by omega
          go_wp2
          go_roundg (H - (y + 1))
          case measure => omega
          case rel =>
            obtain rfl : x = W := by omega
            exact ⟨y + 1, ad, cc, by omega, rfl, by go_num, by rw [ty_succ]; exact HT.out⟩
    · have iy : ¬ (y : Int) < (H : Int) := by omega
      obtain rfl : y = H := by omega
      obtain ⟨q0, q1, q2, _⟩ := HT.out.1
      have c0 := (HT.out.2.2.2.2.2.cell (p := ⟨w.heap.size, 0, none⟩) (by simp)).trans (by simp [go_sem] : (w.alloc (.cells #[.slice none 0 0, .map none, .map none] 40)).cell? ⟨w.heap.size, 0, none⟩ = some (.slice none 0 0))
      have c1 := (HT.out.2.2.2.2.2.cell (p := ⟨w.heap.size, 1, none⟩) (by simp)).trans (by simp [go_sem] : (w.alloc (.cells #[.slice none 0 0, .map none, .map none] 40)).cell? ⟨w.heap.size, 1, none⟩ = some (.map none))
      have c2 := (HT.out.2.2.2.2.2.cell (p := ⟨w.heap.size, 2, none⟩) (by simp)).trans (by simp [go_sem] : (w.alloc (.cells #[.slice none 0 0, .map none, .map none] 40)).cell? ⟨w.heap.size, 2, none⟩ = some (.map none))
      have f0 := (HT.out.2.2.2.2.2.frozen (p := ⟨w.heap.size, 0, none⟩) (by simp)).trans (by simp [go_sem] : (w.alloc (.cells #[.slice none 0 0, .map none, .map none] 40)).frozen? ⟨w.heap.size, 0, none⟩ = false)
      have f1 := (HT.out.2.2.2.2.2.frozen (p := ⟨w.heap.size, 1, none⟩) (by simp)).trans (by simp [go_sem] : (w.alloc (.cells #[.slice none 0 0, .map none, .map none] 40)).frozen? ⟨w.heap.size, 1, none⟩ = false)
      have f2 := (HT.out.2.2.2.2.2.frozen (p := ⟨w.heap.size, 2, none⟩) (by simp)).trans (by simp [go_sem] : (w.alloc (.cells #[.slice none 0 0, .map none, .map none] 40)).frozen? ⟨w.heap.size, 2, none⟩ = false)
      go_wp2
      refine bodyPost_ret (v := .agg #[.slice ad (ty zs W y).length cc, .map (some (w.heap.size + 1)), .map (some (w.heap.size + 2))]) ?_ rfl ⟨_, _, _, _, _, _, rfl, HT.out.rebase (bl_alloc (bl_refl _)) (gb_then (gb_then (grown_cell _ _ 0 _) (grown_cell _ _ 1 _)) (grown_cell _ _ 2 _)) (Nat.le_refl _) (by omega) (by omega) (by omega) (by omega)⟩
      simp [results, Tryd.results22, go_sem, c0, c1, c2]
end Go.Proofs.YtehmoacggikfmaaDoor
