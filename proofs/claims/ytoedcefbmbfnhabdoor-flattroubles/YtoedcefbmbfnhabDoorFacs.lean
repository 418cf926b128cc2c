/- Faces of a sheet: the code's way. -/
import Derived.Test.YtoedcefbmbfnhabDoorFaco
namespace Go.Proofs.YtoedcefbmbfnhabDoor
open Go.RowKit Go.ChangeMaps

theorem Faces_no (W H : Int) (a c : Option Addr) (n1 n2 ca cc : Nat) (w : World) (hcall : ∀ W' : World, Below w.heap.size w W' → Calls Tryd.prog 21 #[.agg #[.int .i64 W, .int .i64 H, .slice a n1 ca, .slice c n2 cc]] W' fun e w' => e = .returned (.tuple #[.agg #[.slice none 0 0, .map none, .map none], .bool false]) ∧ Below W'.heap.size W' w') :
    Calls Tryd.prog 7 #[.agg #[.int .i64 W, .int .i64 H, .slice a n1 ca, .slice c n2 cc]] w fun e w' => e = .returned (.tuple #[.slice none 0 0, .int .i64 10]) ∧ Below w.heap.size w w' := by
  have HC : Hid (∀ W' : World, Below w.heap.size w W' → Calls Tryd.prog 21 #[.agg #[.int .i64 W, .int .i64 H, .slice a n1 ca, .slice c n2 cc]] W' fun e w' => e = .returned (.tuple #[.agg #[.slice none 0 0, .map none, .map none], .bool false]) ∧ Below W'.heap.size W' w') := hcall
  clear hcall
  go_enter Tryd.func7, Tryd.ntmps7
  go_wp2_with (go_at_call 21; refine (HC.out _ (by with_reducible exact bl_alloc (bl_refl _))).mono ?_; rintro e w2 ⟨rfl, hb⟩; have HB : Hid (Below w.heap.size w w2) := bl_via (bl_alloc (bl_refl _)) hb; clear hb)
  exact bodyPost_ret (v := .tuple #[.slice none 0 0, .int .i64 10]) (by simp [results, Tryd.results7, go_sem]) rfl ⟨rfl, by with_reducible repeat (first | exact HB.out | refine bl_alloc ?_)⟩

/-- What Faces answers where the sheet may be. -/
def FacesTo (kd : Int × Int × Int × Int → Int) (L : List (Int × Int × Int)) (w w' : World) (e : Ending) : Prop := Below w.heap.size w w' ∧ ∃ v part, PartsOk (fun e => decide (kd e = 0)) L part ∧ e = .returned (.tuple #[v, .int .i64 0]) ∧ Nest w' w.heap.size v (fcs L part L.length)
set_option maxRecDepth 100000 in
set_option maxHeartbeats 3200000 in
theorem Faces_yes (W H b off cap n ccap : Nat) (cb : Option Addr) (zs ks : List Int) (w : World) (hr : Row w (some ⟨b, off, none⟩) zs) (hW : 1 ≤ W ∧ W ≤ 8) (hH : 1 ≤ H ∧ H ≤ 8) (hl : zs.length = W * H) (hm : maskB zs = true) (hk : Row w cb ks) (hn : ks.length = n * 5) (hn2 : n ≤ 3518437208883) (hs : Steps w) (hJ : Joined (ty zs W H)) (hC : ∀ i, i < n → CrOk (ty zs W H) ks i) :
    Calls Tryd.prog 7 #[.agg #[.int .i64 (W : Int), .int .i64 (H : Int), .slice (some ⟨b, off, none⟩) zs.length cap, .slice cb n ccap]] w fun e w' => FacesTo (kdn ks n) (ty zs W H) w w' e := by
  have CL : Hid (∀ W' : World, Below w.heap.size w W' → Calls Tryd.prog 21 #[.agg #[.int .i64 (W : Int), .int .i64 (H : Int), .slice (some ⟨b, off, none⟩) zs.length cap, .slice cb n ccap]] W' fun e w' => ∃ ad cc base ra rk, e = .returned (.tuple #[.agg #[.slice ad (ty zs W H).length cc, .map (some ra), .map (some rk)], .bool true]) ∧ PK W' w' base ra rk (.slice ad (ty zs W H).length cc) (ty zs W H) (gix (ty zs W H)) (kf ks n)) := fun W' hW' => lay_yes W H b off cap n ccap cb zs ks W' (hr.kept hW') hW hH hl hm (hk.kept hW') hn hn2 (hs.kept hW') hJ hC
  have hlen : (ty zs W H).length ≤ 300 := by have := ty_len zs W H hW.2; omega
  have CP : Hid (∀ (W' : World) (ad : Option Addr) (cc ra rk : Nat), Below w.heap.size w W' → PA W' ad ra (ty zs W H) → KL W' rk (kdn ks n) → Calls Tryd.prog 22 #[.agg #[.slice ad (ty zs W H).length cc, .map (some ra), .map (some rk)]] W' fun e w' => ∃ v part, e = .returned v ∧ PartsOk (fun e => decide (kdn ks n e = 0)) (ty zs W H) part ∧ Nest w' W'.heap.size v (fcs (ty zs W H) part (ty zs W H).length) ∧ Below W'.heap.size W' w') := fun W' ad cc ra rk hW' hp hkl => facesOf_any W' cc ra rk ad _ (kdn ks n) (hs.kept hW') hp hkl hlen (ty_nodup zs W H) (ty_bd hW.2 hH.2)
  obtain ⟨L, hL⟩ : ∃ L, L = ty zs W H := ⟨_, rfl⟩
  rw [← hL] at CL CP hlen
  rw [← hL]
  clear hr hk hl hm hW hH hn hs hJ hC hL
  go_enter Tryd.func7, Tryd.ntmps7
  go_wp2_with (first
    | (go_at_call 21; refine (CL.out _ (by with_reducible exact bl_alloc (bl_refl _))).mono ?_; rintro e w2 ⟨ad, cc, base, ra, rk, rfl, hpk⟩; have HB : Hid (Below w.heap.size w w2) := bl_via (bl_alloc (bl_refl _)) hpk.2.2.2.2; have HPK : Hid (PA w2 ad ra L ∧ KL w2 rk (kdn ks n)) := ⟨hpk.pa, hpk.kl⟩; clear hpk)
    | (go_at_call 22; refine (CP.out _ ad cc ra rk (by with_reducible exact bl_alloc HB.out) (HPK.out.1.kept (by with_reducible exact bl_alloc (bl_refl _))) (HPK.out.2.kept (by with_reducible exact bl_alloc (bl_refl _)))).mono ?_; rintro e w3 ⟨v, part, rfl, hp3, hn3, hb3⟩; have HB3 : Hid (Below w.heap.size w w3) := bl_via (bl_alloc HB.out) hb3; have HP3 : Hid (PartsOk (fun e => decide (kdn ks n e = 0)) L part) := hp3; have HN3 : Hid (Nest w3 w.heap.size v (fcs L part L.length)) := hn3.mono (by have := HB.out.size; simp; omega); clear hb3 hp3 hn3))
  exact bodyPost_ret (v := .tuple #[v, .int .i64 0]) (by simp [results, Tryd.results7, go_sem]) rfl ⟨HB3.out, v, part, HP3.out, rfl, HN3.out⟩
end Go.Proofs.YtoedcefbmbfnhabDoor
