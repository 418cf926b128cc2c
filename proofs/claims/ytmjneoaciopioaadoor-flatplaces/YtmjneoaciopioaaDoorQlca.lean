/- The law FlatPlaces. -/
import Derived.Test.YtmjneoaciopioaaDoorQlbu
import Derived.Test.YtmjneoaciopioaaDoorQlbz
import Derived.Test.YtmjneoaciopioaaDoorQlag
namespace Go.Proofs.YtmjneoaciopioaaDoor
open Go.RowKit Go.ChangeMaps

theorem Place_no (W H : Int) (a c : Option Addr) (n1 n2 ca cc : Nat) (w : World) (hcall : ∀ W' : World, Below w.heap.size w W' → Calls Tryd.prog 21 #[.agg #[.int .i64 W, .int .i64 H, .slice a n1 ca, .slice c n2 cc]] W' fun e w' => e = .returned (.tuple #[.agg #[.slice none 0 0, .map none, .map none], .bool false]) ∧ Below W'.heap.size W' w') :
    Calls Tryd.prog 19 #[.agg #[.int .i64 W, .int .i64 H, .slice a n1 ca, .slice c n2 cc]] w fun e w' => e = .returned (.tuple #[.slice none 0 0, .int .i64 10]) ∧ Below w.heap.size w w' := by
  have HC : Hid (∀ W' : World, Below w.heap.size w W' → Calls Tryd.prog 21 #[.agg #[.int .i64 W, .int .i64 H, .slice a n1 ca, .slice c n2 cc]] W' fun e w' => e = .returned (.tuple #[.agg #[.slice none 0 0, .map none, .map none], .bool false]) ∧ Below W'.heap.size W' w') := hcall
  clear hcall
  go_enter Tryd.func19, Tryd.ntmps19
  go_wp2_with (go_at_call 21; refine (HC.out _ (by with_reducible exact bl_alloc (bl_refl _))).mono ?_; rintro e w2 ⟨rfl, hb⟩; have HB : Hid (Below w.heap.size w w2) := bl_via (bl_alloc (bl_refl _)) hb; clear hb)
  exact bodyPost_ret (v := .tuple #[.slice none 0 0, .int .i64 10]) (by simp [results, Tryd.results19, go_sem]) rfl ⟨rfl, by with_reducible repeat (first | exact HB.out | refine bl_alloc ?_)⟩

/-- What Place answers where the sheet may be. -/
def PlaceTo (kd : Int × Int × Int × Int → Int) (L : List (Int × Int × Int)) (w w' : World) (e : Ending) : Prop := Below w.heap.size w w' ∧ ((∃ M g, Cons kd L M ∧ e = .returned (.tuple #[.slice (some ⟨g, 0, none⟩) L.length L.length, .int .i64 0]) ∧ MRow w' g L.length M) ∨ ((¬ ∃ N, Cons kd L N) ∧ e = .returned (.tuple #[.slice none 0 0, .int .i64 8])))
set_option maxRecDepth 100000 in
set_option maxHeartbeats 3200000 in
theorem Place_yes (W H b off cap n ccap : Nat) (cb : Option Addr) (zs ks : List Int) (w : World) (hr : Row w (some ⟨b, off, none⟩) zs) (hW : 1 ≤ W ∧ W ≤ 8) (hH : 1 ≤ H ∧ H ≤ 8) (hl : zs.length = W * H) (hm : maskB zs = true) (hk : Row w cb ks) (hn : ks.length = n * 5) (hn2 : n ≤ 3518437208883) (hs : Steps w) (hJ : Joined (ty zs W H)) (hC : ∀ i, i < n → CrOk (ty zs W H) ks i) :
    Calls Tryd.prog 19 #[.agg #[.int .i64 (W : Int), .int .i64 (H : Int), .slice (some ⟨b, off, none⟩) zs.length cap, .slice cb n ccap]] w fun e w' => PlaceTo (kdn ks n) (ty zs W H) w w' e := by
  have CL : Hid (∀ W' : World, Below w.heap.size w W' → Calls Tryd.prog 21 #[.agg #[.int .i64 (W : Int), .int .i64 (H : Int), .slice (some ⟨b, off, none⟩) zs.length cap, .slice cb n ccap]] W' fun e w' => ∃ ad cc base ra rk, e = .returned (.tuple #[.agg #[.slice ad (ty zs W H).length cc, .map (some ra), .map (some rk)], .bool true]) ∧ PK W' w' base ra rk (.slice ad (ty zs W H).length cc) (ty zs W H) (gix (ty zs W H)) (kf ks n)) := fun W' hW' => lay_yes W H b off cap n ccap cb zs ks W' (hr.kept hW') hW hH hl hm (hk.kept hW') hn hn2 (hs.kept hW') hJ hC
  have hlen : (ty zs W H).length ≤ 300 := by have := ty_len zs W H hW.2; omega
  have CP : Hid (∀ (W' : World) (ad : Option Addr) (cc ra rk : Nat), Below w.heap.size w W' → PA W' ad ra (ty zs W H) → KL W' rk (kdn ks n) → Calls Tryd.prog 42 #[.agg #[.slice ad (ty zs W H).length cc, .map (some ra), .map (some rk)]] W' fun e w' => PlaceTo (kdn ks n) (ty zs W H) W' w' e) := fun W' ad cc ra rk hW' hp hkl => (placesOf_any W' cc ra rk ad _ (kdn ks n) (hs.kept hW') hp hkl hJ hlen (ty_nodup zs W H) (ty_bd hW.2 hH.2)).mono fun e w' ⟨h1, h2⟩ => ⟨h1, h2.imp (fun ⟨M, c1, c2, c3⟩ => ⟨M, _, c1, c2, c3⟩) id⟩
  obtain ⟨L, hL⟩ : ∃ L, L = ty zs W H := ⟨_, rfl⟩
  rw [← hL] at CL CP hlen
  rw [← hL]
  clear hr hk hl hm hW hH hn hs hJ hC hL
  go_enter Tryd.func19, Tryd.ntmps19
  go_wp2_with (first
    | (go_at_call 21; refine (CL.out _ (by with_reducible exact bl_alloc (bl_refl _))).mono ?_; rintro e w2 ⟨ad, cc, base, ra, rk, rfl, hpk⟩; have HB : Hid (Below w.heap.size w w2) := bl_via (bl_alloc (bl_refl _)) hpk.2.2.2.2; have HPK : Hid (PA w2 ad ra L ∧ KL w2 rk (kdn ks n)) := ⟨hpk.pa, hpk.kl⟩; clear hpk)
    | (go_at_call 42; refine (CP.out _ ad cc ra rk (by with_reducible exact bl_alloc HB.out) (HPK.out.1.kept (by with_reducible exact bl_alloc (bl_refl _))) (HPK.out.2.kept (by with_reducible exact bl_alloc (bl_refl _)))).mono ?_; rintro e w3 ⟨hb3, h3⟩; have HB3 : Hid (Below w.heap.size w w3) := bl_via (bl_alloc HB.out) hb3; have H3 : Hid ((∃ M g, Cons (kdn ks n) L M ∧ e = .returned (.tuple #[.slice (some ⟨g, 0, none⟩) L.length L.length, .int .i64 0]) ∧ MRow w3 g L.length M) ∨ ((¬ ∃ N, Cons (kdn ks n) L N) ∧ e = .returned (.tuple #[.slice none 0 0, .int .i64 8]))) := h3; clear hb3 h3; rcases H3.out with ⟨M, g, hc, rfl, hr⟩ | ⟨hno, rfl⟩)) 
  · exact bodyPost_ret (v := .tuple #[.slice (some ⟨g, 0, none⟩) L.length L.length, .int .i64 0]) (by simp [results, Tryd.results19, go_sem]) rfl ⟨HB3.out, Or.inl ⟨M, g, hc, rfl, hr⟩⟩
  · exact bodyPost_ret (v := .tuple #[.slice none 0 0, .int .i64 8]) (by simp [results, Tryd.results19, go_sem]) rfl ⟨HB3.out, Or.inr ⟨hno, rfl⟩⟩

set_option maxRecDepth 100000 in
set_option maxHeartbeats 3200000 in
theorem flatPlaces_no (W H : Int) (a c : Option Addr) (ca cc n : Nat) (zs ks : List Int) (w : World) (hz : Row w a zs) (hk : Row w c ks) (hn : ks.length = n * 5) (h1 : zs.length ≤ 17592186044416) (h2 : n ≤ 3518437208883) (hLay : LayNo w W H zs ks n) (hMay : MayIs w W H a c ca cc zs n false) :
    Calls Tryd.prog 6 #[.agg #[.int .i64 W, .int .i64 H, .slice a zs.length ca, .slice c n cc]] w fun e w' => e = .returned (.bool true) ∧ Below w.heap.size w w' := by
  have HZ : Hid (Row w a zs) := hz
  have HK : Hid (Row w c ks) := hk
  have HN : Hid (ks.length = n * 5 ∧ zs.length ≤ 17592186044416 ∧ n ≤ 3518437208883) := ⟨hn, h1, h2⟩
  have HLAY : Hid (LayNo w W H zs ks n) := hLay
  have HMAY : Hid (MayIs w W H a c ca cc zs n false) := hMay
  clear hz hk hn h1 h2 hLay hMay
  go_enter Tryd.func6, Tryd.ntmps6
  go_wp2_with (first
    | (go_at_call 8; refine (sheetOf_any W H a c ca cc n zs ks _ (HZ.out.kept (by with_reducible (first | exact HB.out | exact bl_alloc (bl_refl _)))) (HK.out.kept (by with_reducible (first | exact HB.out | exact bl_alloc (bl_refl _)))) HN.out.1 HN.out.2.1 HN.out.2.2).mono ?_; rintro e w2 ⟨a', ca', b', cb', rfl, hrow, hrk, hb⟩; have s0 : w2.cell? ⟨w.heap.size, 0, none⟩ = some (.int .i64 W) := cl_kept hb (by first | (with_reducible assumption) | (simp [go_sem]; done)); have s1 : w2.cell? ⟨w.heap.size, 1, none⟩ = some (.int .i64 H) := cl_kept hb (by first | (with_reducible assumption) | (simp [go_sem]; done)); have s2 : w2.cell? ⟨w.heap.size, 2, none⟩ = some (.slice a zs.length ca) := cl_kept hb (by first | (with_reducible assumption) | (simp [go_sem]; done)); have s3 : w2.cell? ⟨w.heap.size, 3, none⟩ = some (.slice c n cc) := cl_kept hb (by first | (with_reducible assumption) | (simp [go_sem]; done)); have HRow : Hid (Row w2 a' zs ∧ Row w2 b' ks) := ⟨hrow.row, hrk.row⟩; clear hrow hrk; have hq : Below w.heap.size w w2 := (by with_reducible (first | exact bl_via HB.out hb | exact bl_via (bl_alloc (bl_refl _)) hb)); have HB : Hid (Below w.heap.size w w2) := hq; have zs0 : w.heap.size < w2.heap.size := World.block_lt_of_cell? _ _ s0; clear hb hq)
    | (go_at_call 19; refine (Place_no W H _ _ _ _ _ _ _ (fun W' hW' => HLAY.out W' _ _ _ _ (bl_via HB.out hW') (HRow.out.1.kept hW') (HRow.out.2.kept hW'))).mono ?_; rintro e w2 ⟨rfl, hb⟩; have s0 : w2.cell? ⟨w.heap.size, 0, none⟩ = some (.int .i64 W) := cl_kept hb (by first | (with_reducible assumption) | (simp [go_sem]; done)); have s1 : w2.cell? ⟨w.heap.size, 1, none⟩ = some (.int .i64 H) := cl_kept hb (by first | (with_reducible assumption) | (simp [go_sem]; done)); have s2 : w2.cell? ⟨w.heap.size, 2, none⟩ = some (.slice a zs.length ca) := cl_kept hb (by first | (with_reducible assumption) | (simp [go_sem]; done)); have s3 : w2.cell? ⟨w.heap.size, 3, none⟩ = some (.slice c n cc) := cl_kept hb (by first | (with_reducible assumption) | (simp [go_sem]; done)); have hq : Below w.heap.size w w2 := (by with_reducible (first | exact bl_via HB.out hb | exact bl_via (bl_alloc (bl_refl _)) hb)); have HB : Hid (Below w.heap.size w w2) := hq; have zs0 : w.heap.size < w2.heap.size := World.block_lt_of_cell? _ _ s0; clear hb hq)
    | (go_at_call 10; refine (HMAY.out _ (by with_reducible (first | exact HB.out | exact bl_alloc (bl_refl _)))).mono ?_; rintro e w2 ⟨rfl, hb⟩; have s0 : w2.cell? ⟨w.heap.size, 0, none⟩ = some (.int .i64 W) := cl_kept hb (by first | (with_reducible assumption) | (simp [go_sem]; done)); have s1 : w2.cell? ⟨w.heap.size, 1, none⟩ = some (.int .i64 H) := cl_kept hb (by first | (with_reducible assumption) | (simp [go_sem]; done)); have s2 : w2.cell? ⟨w.heap.size, 2, none⟩ = some (.slice a zs.length ca) := cl_kept hb (by first | (with_reducible assumption) | (simp [go_sem]; done)); have s3 : w2.cell? ⟨w.heap.size, 3, none⟩ = some (.slice c n cc) := cl_kept hb (by first | (with_reducible assumption) | (simp [go_sem]; done)); have hq : Below w.heap.size w w2 := (by with_reducible (first | exact bl_via HB.out hb | exact bl_via (bl_alloc (bl_refl _)) hb)); have HB : Hid (Below w.heap.size w w2) := hq; have zs0 : w.heap.size < w2.heap.size := World.block_lt_of_cell? _ _ s0; clear hb hq))
  go_ret
  exact ⟨rfl, HB.out⟩
end Go.Proofs.YtmjneoaciopioaaDoor
