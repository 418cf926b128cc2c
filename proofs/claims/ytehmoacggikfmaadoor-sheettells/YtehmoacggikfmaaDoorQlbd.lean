/- Are all triangles of a sheet joined? The reference's way. -/
import Derived.Test.YtehmoacggikfmaaDoorQlbc
namespace Go.Proofs.YtehmoacggikfmaaDoor
open Go.RowKit

theorem plc_self {l : List (Int × Int × Int)} (hn : l.Nodup) {j : Nat} (hj : j < l.length) : plc l l[j] = j :=
  plc_at hj rfl fun j' hj' hlt he => by
    have := nodup_inj hn hj' hj he
    omega
theorem ok_adj {l : List (Int × Int × Int)} {who : Nat → Nat} (hn : l.Nodup) (hk : ∀ t ∈ l, Kd t) (h : ∀ i e, i < l.length → e < 3 → Ok l who i e) : ∀ i j (hi : i < l.length) (hj : j < l.length), Adj l[i] l[j] → who i ≤ who j := fun i j hi hj ha => by
  obtain ⟨e, he, hh⟩ := (adj_iff (hk _ (List.getElem_mem hi)) (hk _ (List.getElem_mem hj))).1 ha
  exact h i e hi he hi j hj (by rw [← hh]; exact plc_self hn hj)

set_option maxHeartbeats 1600000 in
theorem joinedSheet_any (W H b off cap : Nat) (zs : List Int) (c : Value) (w : World) (hr : Row w (some ⟨b, off, none⟩) zs) (hW : 1 ≤ W ∧ W ≤ 8) (hH : 1 ≤ H ∧ H ≤ 8) (hl : zs.length = W * H) (hm : maskB zs = true) :
    Calls Tryd.prog 17 #[.agg #[.int .i64 (W : Int), .int .i64 (H : Int), .slice (some ⟨b, off, none⟩) zs.length cap, c]] w fun e w' => ∃ bb : Bool, e = .returned (.bool bb) ∧ (bb = true ↔ Joined (ty zs W H)) ∧ Below w.heap.size w w' := by
  have C102 : Hid (∀ W' : World, Below w.heap.size w W' → Calls Tryd.prog 33 #[.agg #[.int .i64 (W : Int), .int .i64 (H : Int), .slice (some ⟨b, off, none⟩) zs.length cap, c], .bool true] W' fun e w' => ∃ g who, e = .returned (.slice (some ⟨g, 0, none⟩) (ty zs W H).length (ty zs W H).length) ∧ WRow w' g (ty zs W H).length who ∧ Inv (ty zs W H) who ∧ (∀ i e, i < (ty zs W H).length → e < 3 → Ok (ty zs W H) who i e) ∧ Below W'.heap.size W' w') := fun W' hW' => groups_any W H b off cap zs c W' (hr.kept hW') hW hH hl hm
  have HBD : Hid ((∀ t ∈ ty zs W H, Kd t) ∧ (ty zs W H).Nodup) := ⟨fun t ht => (ty_bd hW.2 hH.2 t ht).2.2, ty_nodup zs W H⟩
  have hlen : (ty zs W H).length ≤ 256 := by have := ty_len zs W H hW.2; omega
  clear hr hl hm hW hH
  obtain ⟨L, hL⟩ : ∃ L, L = ty zs W H := ⟨_, rfl⟩
  rw [← hL] at C102 HBD hlen ⊢
  clear hL
  go_enter Tryd.func17, Tryd.ntmps17
  go_wp2_with (go_at_call 33; refine (C102.out _ (by with_reducible exact bl_alloc (bl_refl _))).mono ?_; rintro e w1 ⟨g, who, rfl, hW1, hI, hO, hb⟩; have HW : Hid (WRow w1 g L.length who ∧ Inv L who ∧ (∀ i e, i < L.length → e < 3 → Ok L who i e) ∧ Below w.heap.size w w1) := ⟨hW1, hI, hO, bl_via (bl_alloc (bl_refl _)) hb⟩; clear hW1 hI hO hb)
  have HJ : Hid (∀ h0 : 0 < L.length, (∀ i, i < L.length → who i = 0) ↔ Joined L) := fun h0 => who_joined HBD.out.2 h0 who HW.out.2.1 (ok_adj HBD.out.2 HBD.out.1 HW.out.2.2.1)
  go_loopg [4] L.length (fun gk s4 wx => ∃ i : Nat, i ≤ L.length ∧ gk = L.length - i ∧ s4 = .int .i64 (i : Int) ∧ (∀ j, j < i → who j = 0) ∧ wx = w1)
  case atStart => exact ⟨0, by omega, rfl, rfl, fun j h => by omega, rfl⟩
  case round =>
    obtain ⟨i, hi, rfl, rfl, hp, rfl⟩ := hrel
    have HP : Hid (∀ j, j < i → who j = 0) := hp
    clear hp
    by_cases h1 : i < L.length
    · have i1 : (i : Int) < (L.length : Int) := by omega
      have i0 : (0 : Int) ≤ (i : Int) := by omega
      obtain ⟨ci, fi⟩ := HW.out.1 i h1
      by_cases hz : who i = 0
      · rw [hz] at ci
        have HZ : Hid (who i = 0) := hz
        clear hz
        go_wp2
        go_roundg (L.length - (i + 1))
        case measure => omega
        case rel =>
          refine ⟨i + 1, by omega, rfl, by go_num, fun j hj => ?_, rfl⟩
          by_cases e : j = i
          · subst e; exact HZ.out
          · exact HP.out j (by omega)
      · have hz' : ((who i : Int) == 0) = false := by simp; omega
        have hz2 : ¬ (who i : Int) = 0 := by omega
        go_wp2
        go_ret
        refine ⟨false, rfl, ⟨fun h => Bool.noConfusion h, fun h => absurd (((HJ.out (by omega)).2 h) i h1) hz⟩, HW.out.2.2.2⟩
    · have i1 : ¬ (i : Int) < (L.length : Int) := by omega
      by_cases h0 : 0 < L.length
      · have q0 : (0 : Int) < (L.length : Int) := by omega
        go_wp2
        go_ret
        exact Or.inr ⟨rfl, (HJ.out h0).1 (fun j hj => HP.out j (by omega)), HW.out.2.2.2⟩
      · have q0 : ¬ (0 : Int) < (L.length : Int) := by omega
        go_wp2
        go_ret
        exact Or.inl ⟨rfl, fun h => absurd h.1 h0, HW.out.2.2.2⟩
end Go.Proofs.YtehmoacggikfmaaDoor
