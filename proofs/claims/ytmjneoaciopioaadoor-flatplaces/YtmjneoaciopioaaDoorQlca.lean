import Derived.Test.YtmjneoaciopioaaDoorQlbu
import Derived.Test.YtmjneoaciopioaaDoorQlbz
import Derived.Test.YtmjneoaciopioaaDoorQlag
namespace Go.Proofs.YtmjneoaciopioaaDoor
open Go.RowKit Go.ChangeMaps

theorem Place_no (W H : Int) (a c : Option Addr) (n1 n2 ca cc : Nat) (w : World) (hcall : ∀ W' : World, Below w.heap.size w W' → Calls Tryd.prog 21 #[.agg #[.int .i64 W, .int .i64 H, .slice a n1 ca, .slice c n2 cc]] W' fun e w' => e = .returned (.tuple #[.agg #[.slice none 0 0, .map none, .map none], .bool false]) ∧ Below W'.heap.size W' w') :
    Calls Tryd.prog 19 #[.agg #[.int .i64 W, .int .i64 H, .slice a n1 ca, .slice c n2 cc]] w fun e w' => e = .returned (.tuple #[.slice none 0 0, .int .i64 10]) ∧ Below w.heap.size w w' := by
  have HC : Hid (∀ W' : World, Below w.heap.size w W' → Calls Tryd.prog 21 #[.agg #[.int .i64 W, .int .i64 H, .slice a n1 ca, .slice c n2 cc]] W' fun e w' => e = .returned (.tuple #[.agg #[.slice none 0 0, .map none, .map none], .bool false]) ∧ Below W'.heap.size W' w') := hcall
  clear hcall
  go_enter Tryd.func19, Tryd.ntmps19
  go_wp2_with (go_at_call 21; refine (HC.out _ (by with_reducible exact bl_alloc (bl_refl _))).mono ?_; rintro e w2 ⟨rfl, hb⟩; have HB : Hid (Below w.heap.size w w2) := bl_via (bl_alloc (bl_refl _)) hb; clear hb)
  exact bodyPost_ret (v := .tuple #[.slice none 0 0, .int .i64 10]) (by simp [results, Tryd.results19, go_sem]) rfl ⟨rfl, by with_reducible repeat (first | exact HB.out | refine bl_alloc ?_)⟩

/-- What Place answers where the sheet may be. -/
def PlaceTo (kd : Int × Int × Int × Int → Int) (L : List (Int × Int × Int)) (w w' : World) (e : Ending) : Prop := Below w.heap.size w w' ∧ ((∃ M g, Cons kd L M ∧ e = .returned (.tuple #[.slice (some ⟨g, 0, none⟩) L.length L.length, .int .i64 0]) ∧ MRow w' g L.length M) ∨ ((¬ ∃ N, Cons kd L N) ∧ e = .returned (.tuple #[.slice none 0 0, .int .i64 8])))
set_option maxRecDepth 100000 in
set_option maxHeartbeats 3200000 in
theorem Place_yes (W H b off cap n ccap : Nat) (cb : Option Addr) (zs ks : List Int) (w : World) (hr : Row w (some ⟨b, off, none⟩) zs) (hW : 1 ≤ W ∧ W ≤ 8) (hH : 1 ≤ H ∧ H ≤ 8) (hl : zs.length = W * H) (hm : maskB zs = true) (hk : Row w cb ks) (hn : ks.length = n * 5) (hn2 : n ≤ 3518437208883) (hs : Steps w) (hJ : Joined (ty zs W H)) (hC : ∀ i, i < n → CrOk (ty zs W H) ks i) :
    Calls Tryd.prog 19 #[.agg #[.int .i64 (W : Int), .int .i64 (H : Int), .slice (some ⟨b, off, none⟩) zs.length cap, .slice cb n ccap]] w fun e w' => PlaceTo (kdn ks n) (ty zs W H) w w' e := by
  have CL : Hid (∀ W' : World, Below w.heap.size w W' → Calls Tryd.prog 21 #[.agg #[.int .i64 (W : Int), .int .i64 (H : Int), .slice (some ⟨b, off, none⟩) zs.length cap, .slice cb n ccap]] W' fun e w' => ∃ ad cc base ra rk, e = .returned (.tuple #[.agg #[.slice ad (ty zs W H).length cc, .map (some ra), .map (some rk)], .bool true]) ∧ PK W' w' base ra rk (.slice ad (ty zs W H).length cc) (ty zs W H) (gix (ty zs W H)) (kf ks n)) := fun W' hW' => lay_yes W H b off cap n ccap cb zs ks W' (hr.kept hW') hW hH hl hm (hk.kept hW') hn hn2 (hs.kept hW') hJ hC
  have hlen : (ty zs W H).length ≤ 300 := by have := ty_len zs W H hW.2; omega
  have CP : Hid (∀ (W' : World) (ad : Option Addr) (cc ra rk : Nat), Below w.heap.size w W' → PA W' ad ra (ty zs W H) → KL W' rk (kdn ks n) → Calls Tryd.prog 42 #[.agg #[.slice ad (ty zs W H).length cc, .map (some ra), .map (some rk)]] W' fun e w' => PlaceTo (kdn ks n) (ty zs W H) W' w' e) := fun W' ad cc ra rk hW' hp hkl => (placesOf_any W' cc ra rk ad _ (kdn ks n) (hs.kept hW') hp hkl hJ hlen (ty_nodup zs W H) (ty_bd hW.2 hH.2)).mono fun e w' ⟨h1, h2⟩ => ⟨h1, h2.imp (fun ⟨M, c1, c2, c3⟩ => ⟨M, _, c1, c2, c3⟩) id⟩
  obtain ⟨L, hL⟩ : ∃ L, L = ty zs W H := ⟨_, rfl⟩
  rw [← hL] at CL CP hlen
  rw [← hL]
  clear hr hk hl hm hW hH hn hs hJ hC hL
  go_enter Tryd.func19, Tryd.ntmps19
  go_wp2_with (first
    | (go_at_call 21; refine (CL.out _ (by with_reducible exact bl_alloc (bl_refl _))).mono ?_; rintro e w2 ⟨ad, cc, base, ra, rk, rfl, hpk⟩; have HB : Hid (Below w.heap.size w w2) := bl_via (bl_alloc (bl_refl _)) hpk.2.2.2.2; have HPK : Hid (PA w2 ad ra L ∧ KL w2 rk (kdn ks n)) := ⟨hpk.pa, hpk.kl⟩; clear hpk)
    | (go_at_call 42; refine (CP.out _ ad cc ra rk (by with_reducible exact bl_alloc HB.out) (HPK.out.1.kept (by with_reducible exact bl_alloc (bl_refl _))) (HPK.out.2.kept (by with_reducible exact bl_alloc (bl_refl _)))).mono ?_; rintro e w3 ⟨hb3, h3⟩; have HB3 : Hid (Below w.heap.size w w3) := bl_via (bl_alloc HB.out) hb3; have H3 : Hid ((∃ M g, Cons (kdn ks n) L M ∧ e = .returned (.tuple #[.slice (some ⟨g, 0, none⟩) L.length L.length, .int .i64 0]) ∧ MRow w3 g L.length M) ∨ ((¬ ∃ N, Cons (kdn ks n) L N) ∧ e = .returned (.tuple #[.slice none 0 0, .int .i64 8]))) := h3; clear hb3 h3; rcases H3.out with ⟨M, g, hc, rfl, hr⟩ | ⟨hno, rfl⟩)) 
  · exact bodyPost_ret (v := .tuple #[.slice (some ⟨g, 0, none⟩) L.length L.length, .int .i64 0]) (by simp [results, Tryd.results19, go_sem]) rfl ⟨HB3.out, Or.inl ⟨M, g, hc, rfl, hr⟩⟩
  · exact bodyPost_ret (v := .tuple #[.slice none 0 0, .int .i64 8]) (by simp [results, Tryd.results19, go_sem]) rfl ⟨HB3.out, Or.inr ⟨hno, rfl⟩⟩

set_option maxRecDepth 100000 in
set_option maxHeartbeats 3200000 in
theorem flatPlaces_no (W H : Int) (a c : Option Addr) (ca cc n : Nat) (zs ks : List Int) (w : World) (hz : Row w a zs) (hk : Row w c ks) (hn : ks.length = n * 5) (h1 : zs.length ≤ 17592186044416) (h2 : n ≤ 3518437208883) (hLay : LayNo w W H zs ks n) (hMay : MayIs w W H a c ca cc zs n false) :
    Calls Tryd.prog 6 #[.agg #[.int .i64 W, .int .i64 H, .slice a zs.length ca, .slice c n cc]] w fun e w' => e = .returned (.bool true) ∧ Below w.heap.size w w' := by
  have HZ : Hid (Row w a zs) := hz
  have HK : Hid (Row w c ks) := hk
  have HN : Hid (ks.length = n * 5 ∧ zs.length ≤ 17592186044416 ∧ n ≤ 3518437208883) := ⟨hn, h1, h2⟩
  have HLAY : Hid (LayNo w W H zs ks n) := hLay
  have HMAY : Hid (MayIs w W H a c ca cc zs n false) := hMay
  clear hz hk hn h1 h2 hLay hMay
  go_enter Tryd.func6, Tryd.ntmps6
  go_wp2_with (first
    | (go_at_call 8; refine (sheetOf_any W H a c ca cc n zs ks _ (HZ.out.kept (by with_reducible (first | exact HB.out | exact bl_alloc (bl_refl _)))) (HK.out.kept (by with_reducible (first | exact HB.out | exact bl_alloc (bl_refl _)))) HN.out.1 HN.out.2.1 HN.out.2.2).mono ?_; rintro e w2 ⟨a', ca', b', cb', rfl, hrow, hrk, hb⟩; have s0 : w2.cell? ⟨w.heap.size, 0, none⟩ = some (.int .i64 W) := cl_kept hb (by first | (with_reducible assumption) | (simp [go_sem]; done)); have s1 : w2.cell? ⟨w.heap.size, 1, none⟩ = some (.int .i64 H) := cl_kept hb (by first | (with_reducible assumption) | (simp [go_sem]; done)); have s2 : w2.cell? ⟨w.heap.size, 2, none⟩ = some (.slice a zs.length ca) := cl_kept hb (by first | (with_reducible assumption) | (simp [go_sem]; done)); have s3 : w2.cell? ⟨w.heap.size, 3, none⟩ = some (.slice c n cc) := cl_kept hb (by first | (with_reducible assumption) | (simp [go_sem]; done)); have HRow : Hid (Row w2 a' zs ∧ Row w2 b' ks) := ⟨hrow.row, hrk.row⟩; clear hrow hrk; have hq : Below w.heap.size w w2 := (by with_reducible (first | exact bl_via HB.out hb | exact bl_via (bl_alloc (bl_refl _)) hb)); have HB : Hid (Below w.heap.size w w2) := hq; have zs0 : w.heap.size < w2.heap.size := World.block_lt_of_cell? _ _ s0; clear hb hq)
    | (go_at_call 19; refine (Place_no W H _ _ _ _ _ _ _ (fun W' hW' => HLAY.out W' _ _ _ _ (bl_via HB.out hW') (HRow.out.1.kept hW') (HRow.out.2.kept hW'))).mono ?_; rintro e w2 ⟨rfl, hb⟩; have s0 : w2.cell? ⟨w.heap.size, 0, none⟩ = some (.int .i64 W) := cl_kept hb (by first | (with_reducible assumption) | (simp [go_sem]; done)); have s1 : w2.cell? ⟨w.heap.size, 1, none⟩ = some (.int .i64 H) := cl_kept hb (by first | (with_reducible assumption) | (simp [go_sem]; done)); have s2 : w2.cell? ⟨w.heap.size, 2, none⟩ = some (.slice a zs.length ca) := cl_kept hb (by first | (with_reducible assumption) | (simp [go_sem]; done)); have s3 : w2.cell? ⟨w.heap.size, 3, none⟩ = some (.slice c n cc) := cl_kept hb (by first | (with_reducible assumption) | (simp [go_sem]; done)); have hq : Below w.heap.size w w2 := (by with_reducible (first | exact bl_via HB.out hb | exact bl_via (bl_alloc (bl_refl _)) hb)); have HB : Hid (Below w.heap.size w w2) := hq; have zs0 : w.heap.size < w2.heap.size := World.block_lt_of_cell? _ _ s0; clear hb hq)
    | (go_at_call 10; refine (HMAY.out _ (by with_reducible (first | exact HB.out | exact bl_alloc (bl_refl _)))).mono ?_; rintro e w2 ⟨rfl, hb⟩; have s0 : w2.cell? ⟨w.heap.size, 0, none⟩ = some (.int .i64 W) := cl_kept hb (by first | (with_reducible assumption) | (simp [go_sem]; done)); have s1 : w2.cell? ⟨w.heap.size, 1, none⟩ = some (.int .i64 H) := cl_kept hb (by first | (with_reducible assumption) | (simp [go_sem]; done)); have s2 : w2.cell? ⟨w.heap.size, 2, none⟩ = some (.slice a zs.length ca) := cl_kept hb (by first | (with_reducible assumption) | (simp [go_sem]; done)); have s3 : w2.cell? ⟨w.heap.size, 3, none⟩ = some (.slice c n cc) := cl_kept hb (by first | (with_reducible assumption) | (simp [go_sem]; done)); have hq : Below w.heap.size w w2 := (by with_reducible (first | exact bl_via HB.out hb | exact bl_via (bl_alloc (bl_refl _)) hb)); have HB : Hid (Below w.heap.size w w2) := hq; have zs0 : w.heap.size < w2.heap.size := World.block_lt_of_cell? _ _ s0; clear hb hq))
  go_ret
  exact ⟨rfl, HB.out⟩
end Go.Proofs.YtmjneoaciopioaaDoor
namespace Go.Proofs.YtmjneoaciopioaaDoor
open Go.RowKit Go.ChangeMaps

set_option maxRecDepth 100000 in
set_option maxHeartbeats 3200000 in
theorem flatPlaces_tear (Wn Hn b off ca n cc : Nat) (c : Option Addr) (zs ks : List Int) (w : World) (hr : Row w (some ⟨b, off, none⟩) zs) (hW : 1 ≤ Wn ∧ Wn ≤ 8) (hH : 1 ≤ Hn ∧ Hn ≤ 8) (hl : zs.length = Wn * Hn) (hm : maskB zs = true) (hk : Row w c ks) (hn : ks.length = n * 5) (hn2 : n ≤ 3518437208883) (hs : Steps w) (hJ : Joined (ty zs Wn Hn)) (hC : ∀ i, i < n → CrOk (ty zs Wn Hn) ks i) (hMay : MayIs w (Wn : Int) (Hn : Int) (some ⟨b, off, none⟩) c ca cc zs n true) (hex : ¬ ∃ N, Cons (kdn ks n) (ty zs Wn Hn) N) :
    Calls Tryd.prog 6 #[.agg #[.int .i64 (Wn : Int), .int .i64 (Hn : Int), .slice (some ⟨b, off, none⟩) zs.length ca, .slice c n cc]] w fun e w' => e = .returned (.bool true) ∧ Below w.heap.size w w' := by
  have HZ : Hid (Row w (some ⟨b, off, none⟩) zs) := hr
  have HK : Hid (Row w c ks) := hk
  have h64 : zs.length ≤ 64 := by rw [hl]; exact Nat.le_trans (Nat.mul_le_mul hW.2 hH.2) (by decide)
  have HN : Hid (ks.length = n * 5 ∧ zs.length ≤ 17592186044416 ∧ n ≤ 3518437208883) := ⟨hn, by omega, hn2⟩
  have h0 : 0 < zs.length := by
    rw [hl]
    exact Nat.mul_pos (by omega) (by omega)
  have HN0 : Hid (0 < zs.length) := h0
  have HMAY : Hid (MayIs w (Wn : Int) (Hn : Int) (some ⟨b, off, none⟩) c ca cc zs n true) := hMay
  have hlen : (ty zs Wn Hn).length ≤ 300 := by have := ty_len zs Wn Hn hW.2; omega
  have CPL : Hid (∀ (W' : World) (ba oa ca' : Nat) (c' : Option Addr) (cc' : Nat), Below w.heap.size w W' → Row W' (some ⟨ba, oa, none⟩) zs → Row W' c' ks → Calls Tryd.prog 19 #[.agg #[.int .i64 (Wn : Int), .int .i64 (Hn : Int), .slice (some ⟨ba, oa, none⟩) zs.length ca', .slice c' n cc']] W' fun e w' => e = .returned (.tuple #[.slice none 0 0, .int .i64 8]) ∧ Below W'.heap.size W' w') := fun W' ba oa ca' c' cc' hb q1 q2 => (Place_yes Wn Hn ba oa ca' n cc' c' zs ks W' q1 hW hH hl hm q2 hn hn2 (hs.kept hb) hJ hC).mono fun e w' ⟨hb', h3⟩ => by
    rcases h3 with ⟨M, g, c1, c2, c3⟩ | ⟨_, he⟩
    · exact absurd ⟨M, c1⟩ hex
    · exact ⟨he, hb'⟩
  have CPA : Hid (∀ W' : World, Below w.heap.size w W' → Calls Tryd.prog 20 #[.agg #[.int .i64 (Wn : Int), .int .i64 (Hn : Int), .slice (some ⟨b, off, none⟩) zs.length ca, .slice c n cc]] W' fun e w' => e = .returned (.tuple #[.slice none 0 0, .bool false]) ∧ Below W'.heap.size W' w') := fun W' hb => (placeAll_any Wn Hn b off ca n cc c zs ks W' (hr.kept hb) hW hH hl hm (row_crow (hk.kept hb) hn) (cr_one hC) hn2 hJ).mono fun e w' ⟨hb', h3⟩ => by
    rcases h3 with ⟨M, g, c1, c2, c3⟩ | ⟨_, he⟩
    · exact absurd ⟨M, c1⟩ hex
    · exact ⟨he, hb'⟩
  clear hr hk hl hm hW hH hn hs hJ hC hMay hex h0 h64 hlen
  go_enter Tryd.func6, Tryd.ntmps6
  go_wp2_with (first
    | (go_at_call 8; refine (sheetOf_any (Wn : Int) (Hn : Int) (some ⟨b, off, none⟩) c ca cc n zs ks _ (HZ.out.kept (by with_reducible (first | exact HB.out | exact bl_alloc (bl_refl _)))) (HK.out.kept (by with_reducible (first | exact HB.out | exact bl_alloc (bl_refl _)))) HN.out.1 HN.out.2.1 HN.out.2.2).mono ?_; rintro e w2 ⟨a', ca', b', cb', rfl, hrow, hrk, hb⟩; have s0 : w2.cell? ⟨w.heap.size, 0, none⟩ = some (.int .i64 (Wn : Int)) := cl_kept hb (by first | (with_reducible assumption) | (simp [go_sem]; done)); have s1 : w2.cell? ⟨w.heap.size, 1, none⟩ = some (.int .i64 (Hn : Int)) := cl_kept hb (by first | (with_reducible assumption) | (simp [go_sem]; done)); have s2 : w2.cell? ⟨w.heap.size, 2, none⟩ = some (.slice (some ⟨b, off, none⟩) zs.length ca) := cl_kept hb (by first | (with_reducible assumption) | (simp [go_sem]; done)); have s3 : w2.cell? ⟨w.heap.size, 3, none⟩ = some (.slice c n cc) := cl_kept hb (by first | (with_reducible assumption) | (simp [go_sem]; done)); obtain ⟨ba, oa, rfl, _⟩ := hrow.row 0 HN0.out; have HRow : Hid (Row w2 (some ⟨ba, oa, none⟩) zs ∧ Row w2 b' ks) := ⟨hrow.row, hrk.row⟩; clear hrow hrk; have hq : Below w.heap.size w w2 := (by with_reducible (first | exact bl_via HB.out hb | exact bl_via (bl_alloc (bl_refl _)) hb)); have HB : Hid (Below w.heap.size w w2) := hq; have zs0 : w.heap.size < w2.heap.size := World.block_lt_of_cell? _ _ s0; clear hb hq)
    | (go_at_call 19; refine (CPL.out _ _ _ _ _ _ HB.out HRow.out.1 HRow.out.2).mono ?_; rintro e w2 ⟨rfl, hb⟩; have s0 : w2.cell? ⟨w.heap.size, 0, none⟩ = some (.int .i64 (Wn : Int)) := cl_kept hb (by first | (with_reducible assumption) | (simp [go_sem]; done)); have s1 : w2.cell? ⟨w.heap.size, 1, none⟩ = some (.int .i64 (Hn : Int)) := cl_kept hb (by first | (with_reducible assumption) | (simp [go_sem]; done)); have s2 : w2.cell? ⟨w.heap.size, 2, none⟩ = some (.slice (some ⟨b, off, none⟩) zs.length ca) := cl_kept hb (by first | (with_reducible assumption) | (simp [go_sem]; done)); have s3 : w2.cell? ⟨w.heap.size, 3, none⟩ = some (.slice c n cc) := cl_kept hb (by first | (with_reducible assumption) | (simp [go_sem]; done)); have hq : Below w.heap.size w w2 := (by with_reducible (first | exact bl_via HB.out hb | exact bl_via (bl_alloc (bl_refl _)) hb)); have HB : Hid (Below w.heap.size w w2) := hq; have zs0 : w.heap.size < w2.heap.size := World.block_lt_of_cell? _ _ s0; clear hb hq)
    | (go_at_call 10; refine (HMAY.out _ (by with_reducible (first | exact HB.out | exact bl_alloc (bl_refl _)))).mono ?_; rintro e w2 ⟨rfl, hb⟩; have s0 : w2.cell? ⟨w.heap.size, 0, none⟩ = some (.int .i64 (Wn : Int)) := cl_kept hb (by first | (with_reducible assumption) | (simp [go_sem]; done)); have s1 : w2.cell? ⟨w.heap.size, 1, none⟩ = some (.int .i64 (Hn : Int)) := cl_kept hb (by first | (with_reducible assumption) | (simp [go_sem]; done)); have s2 : w2.cell? ⟨w.heap.size, 2, none⟩ = some (.slice (some ⟨b, off, none⟩) zs.length ca) := cl_kept hb (by first | (with_reducible assumption) | (simp [go_sem]; done)); have s3 : w2.cell? ⟨w.heap.size, 3, none⟩ = some (.slice c n cc) := cl_kept hb (by first | (with_reducible assumption) | (simp [go_sem]; done));  have hq : Below w.heap.size w w2 := (by with_reducible (first | exact bl_via HB.out hb | exact bl_via (bl_alloc (bl_refl _)) hb)); have HB : Hid (Below w.heap.size w w2) := hq; have zs0 : w.heap.size < w2.heap.size := World.block_lt_of_cell? _ _ s0; clear hb hq)
    | (go_at_call 20; refine (CPA.out _ HB.out).mono ?_; rintro e w2 ⟨rfl, hb⟩; have s0 : w2.cell? ⟨w.heap.size, 0, none⟩ = some (.int .i64 (Wn : Int)) := cl_kept hb (by first | (with_reducible assumption) | (simp [go_sem]; done)); have s1 : w2.cell? ⟨w.heap.size, 1, none⟩ = some (.int .i64 (Hn : Int)) := cl_kept hb (by first | (with_reducible assumption) | (simp [go_sem]; done)); have s2 : w2.cell? ⟨w.heap.size, 2, none⟩ = some (.slice (some ⟨b, off, none⟩) zs.length ca) := cl_kept hb (by first | (with_reducible assumption) | (simp [go_sem]; done)); have s3 : w2.cell? ⟨w.heap.size, 3, none⟩ = some (.slice c n cc) := cl_kept hb (by first | (with_reducible assumption) | (simp [go_sem]; done)); have hq : Below w.heap.size w w2 := (by with_reducible (first | exact bl_via HB.out hb | exact bl_via (bl_alloc (bl_refl _)) hb)); have HB : Hid (Below w.heap.size w w2) := hq; have zs0 : w.heap.size < w2.heap.size := World.block_lt_of_cell? _ _ s0; clear hb hq))
  go_ret
  exact ⟨rfl, HB.out⟩

set_option maxRecDepth 100000 in
set_option maxHeartbeats 3200000 in
theorem flatPlaces_fit (Wn Hn b off ca n cc : Nat) (c : Option Addr) (zs ks : List Int) (w : World) (hr : Row w (some ⟨b, off, none⟩) zs) (hW : 1 ≤ Wn ∧ Wn ≤ 8) (hH : 1 ≤ Hn ∧ Hn ≤ 8) (hl : zs.length = Wn * Hn) (hm : maskB zs = true) (hk : Row w c ks) (hn : ks.length = n * 5) (hn2 : n ≤ 3518437208883) (hs : Steps w) (hJ : Joined (ty zs Wn Hn)) (hC : ∀ i, i < n → CrOk (ty zs Wn Hn) ks i) (hMay : MayIs w (Wn : Int) (Hn : Int) (some ⟨b, off, none⟩) c ca cc zs n true) (hex : ∃ N, Cons (kdn ks n) (ty zs Wn Hn) N) :
    Calls Tryd.prog 6 #[.agg #[.int .i64 (Wn : Int), .int .i64 (Hn : Int), .slice (some ⟨b, off, none⟩) zs.length ca, .slice c n cc]] w fun e w' => e = .returned (.bool true) ∧ Below w.heap.size w w' := by
  have HZ : Hid (Row w (some ⟨b, off, none⟩) zs) := hr
  have HK : Hid (Row w c ks) := hk
  have h64 : zs.length ≤ 64 := by rw [hl]; exact Nat.le_trans (Nat.mul_le_mul hW.2 hH.2) (by decide)
  have HN : Hid (ks.length = n * 5 ∧ zs.length ≤ 17592186044416 ∧ n ≤ 3518437208883) := ⟨hn, by omega, hn2⟩
  have h0 : 0 < zs.length := by
    rw [hl]
    exact Nat.mul_pos (by omega) (by omega)
  have HN0 : Hid (0 < zs.length) := h0
  have HMAY : Hid (MayIs w (Wn : Int) (Hn : Int) (some ⟨b, off, none⟩) c ca cc zs n true) := hMay
  have hlen : (ty zs Wn Hn).length ≤ 300 := by have := ty_len zs Wn Hn hW.2; omega
  have CPL : Hid (∀ (W' : World) (ba oa ca' : Nat) (c' : Option Addr) (cc' : Nat), Below w.heap.size w W' → Row W' (some ⟨ba, oa, none⟩) zs → Row W' c' ks → Calls Tryd.prog 19 #[.agg #[.int .i64 (Wn : Int), .int .i64 (Hn : Int), .slice (some ⟨ba, oa, none⟩) zs.length ca', .slice c' n cc']] W' fun e w' => ∃ M g, e = .returned (.tuple #[.slice (some ⟨g, 0, none⟩) (ty zs Wn Hn).length (ty zs Wn Hn).length, .int .i64 0]) ∧ Cons (kdn ks n) (ty zs Wn Hn) M ∧ MRow w' g (ty zs Wn Hn).length M ∧ Below W'.heap.size W' w') := fun W' ba oa ca' c' cc' hb q1 q2 => (Place_yes Wn Hn ba oa ca' n cc' c' zs ks W' q1 hW hH hl hm q2 hn hn2 (hs.kept hb) hJ hC).mono fun e w' ⟨hb', h3⟩ => by
    rcases h3 with ⟨M, g, c1, c2, c3⟩ | ⟨hno, _⟩
    · exact ⟨M, g, c2, c1, c3, hb'⟩
    · exact absurd hex hno
  have CPA : Hid (∀ W' : World, Below w.heap.size w W' → Calls Tryd.prog 20 #[.agg #[.int .i64 (Wn : Int), .int .i64 (Hn : Int), .slice (some ⟨b, off, none⟩) zs.length ca, .slice c n cc]] W' fun e w' => ∃ M g, e = .returned (.tuple #[.slice (some ⟨g, 0, none⟩) (ty zs Wn Hn).length (ty zs Wn Hn).length, .bool true]) ∧ Cons (kdn ks n) (ty zs Wn Hn) M ∧ MRow w' g (ty zs Wn Hn).length M ∧ Below W'.heap.size W' w') := fun W' hb => (placeAll_any Wn Hn b off ca n cc c zs ks W' (hr.kept hb) hW hH hl hm (row_crow (hk.kept hb) hn) (cr_one hC) hn2 hJ).mono fun e w' ⟨hb', h3⟩ => by
    rcases h3 with ⟨M, g, c1, c2, c3⟩ | ⟨hno, _⟩
    · exact ⟨M, g, c2, c1, c3, hb'⟩
    · exact absurd hex hno
  have HJ : Hid (Joined (ty zs Wn Hn) ∧ (ty zs Wn Hn).Nodup) := ⟨hJ, ty_nodup zs Wn Hn⟩
  obtain ⟨L, hL⟩ : ∃ L, L = ty zs Wn Hn := ⟨_, rfl⟩
  rw [← hL] at CPL CPA hlen HJ
  clear hr hk hl hm hW hH hn hs hJ hC hMay hex h0 h64 hL
  have hnq := neqM
  go_enter Tryd.func6, Tryd.ntmps6
  go_wp2_with (first
    | (go_at_call 8; refine (sheetOf_any (Wn : Int) (Hn : Int) (some ⟨b, off, none⟩) c ca cc n zs ks _ (HZ.out.kept (by with_reducible (first | exact HB.out | exact bl_alloc (bl_refl _)))) (HK.out.kept (by with_reducible (first | exact HB.out | exact bl_alloc (bl_refl _)))) HN.out.1 HN.out.2.1 HN.out.2.2).mono ?_; rintro e w2 ⟨a', ca', b', cb', rfl, hrow, hrk, hb⟩; have s0 : w2.cell? ⟨w.heap.size, 0, none⟩ = some (.int .i64 (Wn : Int)) := cl_kept hb (by first | (with_reducible assumption) | (simp [go_sem]; done)); have s1 : w2.cell? ⟨w.heap.size, 1, none⟩ = some (.int .i64 (Hn : Int)) := cl_kept hb (by first | (with_reducible assumption) | (simp [go_sem]; done)); have s2 : w2.cell? ⟨w.heap.size, 2, none⟩ = some (.slice (some ⟨b, off, none⟩) zs.length ca) := cl_kept hb (by first | (with_reducible assumption) | (simp [go_sem]; done)); have s3 : w2.cell? ⟨w.heap.size, 3, none⟩ = some (.slice c n cc) := cl_kept hb (by first | (with_reducible assumption) | (simp [go_sem]; done)); obtain ⟨ba, oa, rfl, _⟩ := hrow.row 0 HN0.out; have HRow : Hid (Row w2 (some ⟨ba, oa, none⟩) zs ∧ Row w2 b' ks) := ⟨hrow.row, hrk.row⟩; clear hrow hrk; have hq : Below w.heap.size w w2 := (by with_reducible (first | exact bl_via HB.out hb | exact bl_via (bl_alloc (bl_refl _)) hb)); have HB : Hid (Below w.heap.size w w2) := hq; have zs0 : w.heap.size < w2.heap.size := World.block_lt_of_cell? _ _ s0; clear hb hq)
    | (go_at_call 19; refine (CPL.out _ _ _ _ _ _ HB.out HRow.out.1 HRow.out.2).mono ?_; rintro e w2 ⟨M, g, rfl, hc, hmr, hb⟩; have s0 : w2.cell? ⟨w.heap.size, 0, none⟩ = some (.int .i64 (Wn : Int)) := cl_kept hb (by first | (with_reducible assumption) | (simp [go_sem]; done)); have s1 : w2.cell? ⟨w.heap.size, 1, none⟩ = some (.int .i64 (Hn : Int)) := cl_kept hb (by first | (with_reducible assumption) | (simp [go_sem]; done)); have s2 : w2.cell? ⟨w.heap.size, 2, none⟩ = some (.slice (some ⟨b, off, none⟩) zs.length ca) := cl_kept hb (by first | (with_reducible assumption) | (simp [go_sem]; done)); have s3 : w2.cell? ⟨w.heap.size, 3, none⟩ = some (.slice c n cc) := cl_kept hb (by first | (with_reducible assumption) | (simp [go_sem]; done)); have HM1 : Hid (Cons (kdn ks n) L M ∧ MRow w2 g L.length M) := ⟨hc, hmr⟩; clear hc hmr; have hq : Below w.heap.size w w2 := (by with_reducible (first | exact bl_via HB.out hb | exact bl_via (bl_alloc (bl_refl _)) hb)); have HB : Hid (Below w.heap.size w w2) := hq; have zs0 : w.heap.size < w2.heap.size := World.block_lt_of_cell? _ _ s0; clear hb hq)
    | (go_at_call 10; refine (HMAY.out _ (by with_reducible (first | exact HB.out | exact bl_alloc (bl_refl _)))).mono ?_; rintro e w2 ⟨rfl, hb⟩; have s0 : w2.cell? ⟨w.heap.size, 0, none⟩ = some (.int .i64 (Wn : Int)) := cl_kept hb (by first | (with_reducible assumption) | (simp [go_sem]; done)); have s1 : w2.cell? ⟨w.heap.size, 1, none⟩ = some (.int .i64 (Hn : Int)) := cl_kept hb (by first | (with_reducible assumption) | (simp [go_sem]; done)); have s2 : w2.cell? ⟨w.heap.size, 2, none⟩ = some (.slice (some ⟨b, off, none⟩) zs.length ca) := cl_kept hb (by first | (with_reducible assumption) | (simp [go_sem]; done)); have s3 : w2.cell? ⟨w.heap.size, 3, none⟩ = some (.slice c n cc) := cl_kept hb (by first | (with_reducible assumption) | (simp [go_sem]; done)); have HM2 : Hid (Cons (kdn ks n) L M ∧ MRow w2 g L.length M) := ⟨HM1.out.1, HM1.out.2.kept hb⟩; have hq : Below w.heap.size w w2 := (by with_reducible (first | exact bl_via HB.out hb | exact bl_via (bl_alloc (bl_refl _)) hb)); have HB : Hid (Below w.heap.size w w2) := hq; have zs0 : w.heap.size < w2.heap.size := World.block_lt_of_cell? _ _ s0; clear hb hq)
    | (go_at_call 20; refine (CPA.out _ HB.out).mono ?_; rintro e w2 ⟨M2, g2, rfl, hc, hmr, hb⟩; have s0 : w2.cell? ⟨w.heap.size, 0, none⟩ = some (.int .i64 (Wn : Int)) := cl_kept hb (by first | (with_reducible assumption) | (simp [go_sem]; done)); have s1 : w2.cell? ⟨w.heap.size, 1, none⟩ = some (.int .i64 (Hn : Int)) := cl_kept hb (by first | (with_reducible assumption) | (simp [go_sem]; done)); have s2 : w2.cell? ⟨w.heap.size, 2, none⟩ = some (.slice (some ⟨b, off, none⟩) zs.length ca) := cl_kept hb (by first | (with_reducible assumption) | (simp [go_sem]; done)); have s3 : w2.cell? ⟨w.heap.size, 3, none⟩ = some (.slice c n cc) := cl_kept hb (by first | (with_reducible assumption) | (simp [go_sem]; done)); have HM3 : Hid ((∀ i, i < L.length → M i = M2 i) ∧ MRow w2 g L.length M ∧ MRow w2 g2 L.length M2) := ⟨cons_one HJ.out.1 HJ.out.2 HM2.out.1 hc, HM2.out.2.kept hb, hmr⟩; clear hc hmr; have hq : Below w.heap.size w w2 := (by with_reducible (first | exact bl_via HB.out hb | exact bl_via (bl_alloc (bl_refl _)) hb)); have HB : Hid (Below w.heap.size w w2) := hq; have zs0 : w.heap.size < w2.heap.size := World.block_lt_of_cell? _ _ s0; clear hb hq))
  obtain ⟨WX, hWX⟩ : ∃ W', W' = w2 := ⟨_, rfl⟩
  go_loopg [7] L.length (fun gk s7 wx => ∃ i : Nat, i ≤ L.length ∧ gk = L.length - i ∧ s7 = .int .i64 (i : Int) ∧ MRow wx g L.length M ∧ MRow wx g2 L.length M2 ∧ Below w.heap.size w wx)
  case atStart => exact ⟨0, by omega, rfl, rfl, HM3.out.2.1, HM3.out.2.2, HB.out⟩
  case round =>
    obtain ⟨i, hi, rfl, rfl, hr1, hr2, hbw⟩ := hrel
    have HR : Hid (MRow wr g L.length M ∧ MRow wr g2 L.length M2 ∧ Below w.heap.size w wr) := ⟨hr1, hr2, hbw⟩
    clear hr1 hr2 hbw s0 s1 s2 s3 zs0 hWX
    by_cases hi1 : i < L.length
    · have i1 : (i : Int) < (L.length : Int) := by omega
      have i0 : (0 : Int) ≤ (i : Int) := by omega
      obtain ⟨⟨y0, y1, y2, y3, y4, y5⟩, _⟩ := HR.out.1 i hi1
      obtain ⟨⟨x0, x1, x2, x3, x4, x5⟩, _⟩ := HR.out.2.1 i hi1
      rw [← HM3.out.1 i hi1] at x0 x1 x2 x3 x4 x5
      obtain ⟨A, B, C, D, E, F, hmi⟩ : ∃ A B C D E F, M i = (A, B, C, D, E, F) := ⟨_, _, _, _, _, _, rfl⟩
      rw [hmi] at x0 x1 x2 x3 x4 x5 y0 y1 y2 y3 y4 y5
      dsimp only at x0 x1 x2 x3 x4 x5 y0 y1 y2 y3 y4 y5
      have hsm : sameM A B C D E F A B C D E F = true := by simp [sameM]
      have zx : g2 < wr.heap.size := World.block_lt_of_cell? _ _ x0
      have zy : g < wr.heap.size := World.block_lt_of_cell? _ _ y0
      clear hmi
      go_wp2
      go_quiet (fail)
      go_wp2
      go_roundg (L.length - (i + 1))
      case measure => omega
      case rel => exact ⟨i + 1, by omega, rfl, by go_num, HR.out.1.kept (bl_drewN (bl_refl _)), HR.out.2.1.kept (bl_drewN (bl_refl _)), bl_drewN HR.out.2.2⟩
    · have i1 : ¬ (i : Int) < (L.length : Int) := by omega
      go_wp2
      go_ret
      exact ⟨rfl, HR.out.2.2⟩

theorem flatPlaces_any (W H : Int) (a c : Option Addr) (ca cc n : Nat) (zs ks : List Int) (w : World) (hz : Row w a zs) (hk : Row w c ks) (hn : ks.length = n * 5) (h1 : zs.length ≤ 17592186044416) (h2 : n ≤ 3518437208883) (hs : Steps w) :
    Calls Tryd.prog 6 #[.agg #[.int .i64 W, .int .i64 H, .slice a zs.length ca, .slice c n cc]] w fun e w' => e = .returned (.bool true) ∧ Below w.heap.size w w' := by
  rcases sheet_either W H a c ca cc n zs ks w hz hk hn h2 hs with ⟨q1, q2⟩ | ⟨Wn, Hn, b, off, rfl, rfl, rfl, hW, hH, hl, hm, hJ, hC, hMay⟩
  · exact flatPlaces_no W H a c ca cc n zs ks w hz hk hn h1 h2 q1 q2
  · by_cases hex : ∃ N, Cons (kdn ks n) (ty zs Wn Hn) N
    · exact flatPlaces_fit Wn Hn b off ca n cc c zs ks w hz hW hH hl hm hk hn h2 hs hJ hC hMay hex
    · exact flatPlaces_tear Wn Hn b off ca n cc c zs ks w hz hW hH hl hm hk hn h2 hs hJ hC hMay hex
end Go.Proofs.YtmjneoaciopioaaDoor
