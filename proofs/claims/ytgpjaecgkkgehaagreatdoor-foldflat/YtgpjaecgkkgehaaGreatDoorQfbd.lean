/- A part of the proof of foldFlat_holds. -/
import Derived.Test.YtgpjaecgkkgehaaGreatDoorQfbb
import Derived.Test.YtgpjaecgkkgehaaGreatDoorQfbc
import Derived.Test.YtgpjaecgkkgehaaGreatDoorQfat
import Derived.Test.YtgpjaecgkkgehaaGreatDoorQfaf
import Derived.Test.YtgpjaecgkkgehaaGreatDoorQfam
import Derived.Test.YtgpjaecgkkgehaaGreatDoorQfac
import Derived.Test.YtgpjaecgkkgehaaGreatDoorQfag
import Derived.Deep.DeepCutAuto
import Derived.Test.YtgpjaecgkkgehaaGreatDoorQfab
import Derived.Test.YtgpjaecgkkgehaaGreatDoorQfaz
namespace Go.Proofs.YtgpjaecgkkgehaaGreatDoor
open Go.RowKit Go.ChangeMaps
theorem Place_no (W H:Int) (a c:Option Addr) (n1 n2 ca cc:Nat) (w:World) (hcall:∀ W':World,Below w.heap.size w W'→Calls Tryz.prog 65 #[.agg #[.int .i64 W,.int .i64 H,.slice a n1 ca,.slice c n2 cc]] W' fun e w'=>e=.returned (.tuple #[.agg #[.slice none 0 0,.map none,.map none],.bool false])∧Below W'.heap.size W' w') :
  Calls Tryz.prog 64 #[.agg #[.int .i64 W,.int .i64 H,.slice a n1 ca,.slice c n2 cc]] w fun e w'=>e=.returned (.tuple #[.slice none 0 0,.int .i64 10])∧Below w.heap.size w w':=by
 have HC:Hid (∀ W':World,Below w.heap.size w W'→Calls Tryz.prog 65 #[.agg #[.int .i64 W,.int .i64 H,.slice a n1 ca,.slice c n2 cc]] W' fun e w'=>e=.returned (.tuple #[.agg #[.slice none 0 0,.map none,.map none],.bool false])∧Below W'.heap.size W' w'):=hcall
 clear hcall
 go_enter Tryz.func64,Tryz.ntmps64
 go_wp2_with (go_at_call 65;refine (HC.out _ (by with_reducible exact bl_alloc (bl_refl _))).mono ?_;rintro e w2 ⟨rfl,hb⟩;have HB:Hid (Below w.heap.size w w2):=bl_via (bl_alloc (bl_refl _)) hb;clear hb)
 exact bodyPost_ret (v:=.tuple #[.slice none 0 0,.int .i64 10]) (by simp [results,Tryz.results64,go_sem]) rfl ⟨rfl,by with_reducible repeat (first | exact HB.out | refine bl_alloc ?_)⟩
def PlaceTo (kd:Int×Int×Int×Int→Int) (L:List (Int×Int×Int)) (w w':World) (e:Ending):Prop:=Below w.heap.size w w'∧((∃ M g,Cons kd L M∧e=.returned (.tuple #[.slice (some ⟨g,0,none⟩) L.length L.length,.int .i64 0])∧MRow w' g L.length M)∨((¬ ∃ N,Cons kd L N)∧e=.returned (.tuple #[.slice none 0 0,.int .i64 8])))
set_option maxRecDepth 100000 in
set_option maxHeartbeats 3200000 in
theorem Place_yes (W H b off cap n ccap:Nat) (cb:Option Addr) (zs ks:List Int) (w:World) (hr:Row w (some ⟨b,off,none⟩) zs) (hW:1≤W∧W≤8) (hH:1≤H∧H≤8) (hl:zs.length=W*H) (hm:maskB zs=true) (hk:Row w cb ks) (hn:ks.length=n*5) (hn2:n≤3518437208883) (hs:Steps w) (hJ:Joined (ty zs W H)) (hC:∀ i,i<n→CrOk (ty zs W H) ks i) :
  Calls Tryz.prog 64 #[.agg #[.int .i64 (W:Int),.int .i64 (H:Int),.slice (some ⟨b,off,none⟩) zs.length cap,.slice cb n ccap]] w fun e w'=>PlaceTo (kdn ks n) (ty zs W H) w w' e:=by
 have CL:Hid (∀ W':World,Below w.heap.size w W'→Calls Tryz.prog 65 #[.agg #[.int .i64 (W:Int),.int .i64 (H:Int),.slice (some ⟨b,off,none⟩) zs.length cap,.slice cb n ccap]] W' fun e w'=>∃ ad cc base ra rk,e=.returned (.tuple #[.agg #[.slice ad (ty zs W H).length cc,.map (some ra),.map (some rk)],.bool true])∧PK W' w' base ra rk (.slice ad (ty zs W H).length cc) (ty zs W H) (gix (ty zs W H)) (kf ks n)):=fun W' hW'=>lay_yes W H b off cap n ccap cb zs ks W' (hr.kept hW') hW hH hl hm (hk.kept hW') hn hn2 (hs.kept hW') hJ hC
 have hlen:(ty zs W H).length≤300:=by have:=ty_len zs W H hW.2;omega
 have CP:Hid (∀ (W':World) (ad:Option Addr) (cc ra rk:Nat),Below w.heap.size w W'→PA W' ad ra (ty zs W H)→KL W' rk (kdn ks n)→Calls Tryz.prog 96 #[.agg #[.slice ad (ty zs W H).length cc,.map (some ra),.map (some rk)]] W' fun e w'=>PlaceTo (kdn ks n) (ty zs W H) W' w' e):=fun W' ad cc ra rk hW' hp hkl=>(placesOf_any W' cc ra rk ad _ (kdn ks n) (hs.kept hW') hp hkl hJ hlen (ty_nodup zs W H) (ty_bd hW.2 hH.2)).mono fun e w' ⟨h1,h2⟩=>⟨h1,h2.imp (fun ⟨M,c1,c2,c3⟩=>⟨M,_,c1,c2,c3⟩) id⟩
 obtain ⟨L,hL⟩:∃ L,L=ty zs W H:=⟨_,rfl⟩
 rw [← hL] at CL CP hlen
 rw [← hL]
 clear hr hk hl hm hW hH hn hs hJ hC hL
 go_enter Tryz.func64,Tryz.ntmps64
 go_wp2_with (first
  | (go_at_call 65;refine (CL.out _ (by with_reducible exact bl_alloc (bl_refl _))).mono ?_;rintro e w2 ⟨ad,cc,base,ra,rk,rfl,hpk⟩;have HB:Hid (Below w.heap.size w w2):=bl_via (bl_alloc (bl_refl _)) hpk.2.2.2.2;have HPK:Hid (PA w2 ad ra L∧KL w2 rk (kdn ks n)):=⟨hpk.pa,hpk.kl⟩;clear hpk)
  | (go_at_call 96;refine (CP.out _ ad cc ra rk (by with_reducible exact bl_alloc HB.out) (HPK.out.1.kept (by with_reducible exact bl_alloc (bl_refl _))) (HPK.out.2.kept (by with_reducible exact bl_alloc (bl_refl _)))).mono ?_;rintro e w3 ⟨hb3,h3⟩;have HB3:Hid (Below w.heap.size w w3):=bl_via (bl_alloc HB.out) hb3;have H3:Hid ((∃ M g,Cons (kdn ks n) L M∧e=.returned (.tuple #[.slice (some ⟨g,0,none⟩) L.length L.length,.int .i64 0])∧MRow w3 g L.length M)∨((¬ ∃ N,Cons (kdn ks n) L N)∧e=.returned (.tuple #[.slice none 0 0,.int .i64 8]))):=h3;clear hb3 h3;rcases H3.out with ⟨M,g,hc,rfl,hr⟩ | ⟨hno,rfl⟩))
 ·exact bodyPost_ret (v:=.tuple #[.slice (some ⟨g,0,none⟩) L.length L.length,.int .i64 0]) (by simp [results,Tryz.results64,go_sem]) rfl ⟨HB3.out,Or.inl ⟨M,g,hc,rfl,hr⟩⟩
 ·exact bodyPost_ret (v:=.tuple #[.slice none 0 0,.int .i64 8]) (by simp [results,Tryz.results64,go_sem]) rfl ⟨HB3.out,Or.inr ⟨hno,rfl⟩⟩
open Go.RowKit Go.ChangeMaps
structure PileAt (w:World) (ad:Option Addr) (cc ra rk gm cm:Nat) (pa:Option Addr) (pc:Nat) (L:List (Int×Int×Int)) (kd:Int×Int×Int×Int→Int) (M:Nat→M6):Prop where
 tr:PA w ad ra L
 kl:KL w rk kd
 mr:MRow w gm L.length M
 pl:TRow w pa (pls L M L.length)
theorem PileAt.kept {w w':World} {ad:Option Addr} {cc ra rk gm cm:Nat} {pa:Option Addr} {pc:Nat} {L:List (Int×Int×Int)} {kd:Int×Int×Int×Int→Int} {M:Nat→M6} (h:PileAt w ad cc ra rk gm cm pa pc L kd M) (hb:Below w.heap.size w w'):PileAt w' ad cc ra rk gm cm pa pc L kd M:=⟨h.tr.kept hb,h.kl.kept hb,h.mr.kept hb,h.pl.kept hb⟩
def pileV (ad:Option Addr) (n cc ra rk gm cm:Nat) (pa:Option Addr) (pc:Nat):Value:=.agg #[.slice ad n cc,.map (some ra),.map (some rk),.slice (some ⟨gm,0,none⟩) n cm,.slice pa n pc]
def PlacedTo (kd:Int×Int×Int×Int→Int) (L:List (Int×Int×Int)) (w w':World) (e:Ending):Prop:=Below w.heap.size w w'∧((∃ M ad cc ra rk gm cm pa pc,Cons kd L M∧e=.returned (.tuple #[pileV ad L.length cc ra rk gm cm pa pc,.int .i64 0])∧PileAt w' ad cc ra rk gm cm pa pc L kd M)∨((¬ ∃ N,Cons kd L N)∧e=.returned (.tuple #[.agg #[.slice none 0 0,.map none,.map none,.slice none 0 0,.slice none 0 0],.int .i64 8])))
def set5 (w:World) (b:Nat) (u0 u1 u2 u3 u4:Value):World:=((((w.setCell ⟨b,0,none⟩ u0).setCell ⟨b,1,none⟩ u1).setCell ⟨b,2,none⟩ u2).setCell ⟨b,3,none⟩ u3).setCell ⟨b,4,none⟩ u4
theorem set5_grown (w:World) (b:Nat) (u0 u1 u2 u3 u4:Value):w.grownBy (set5 w b u0 u1 u2 u3 u4) (some b):=gb_then (gb_then (gb_then (gb_then (grown_cell _ _ _ _) (grown_cell _ _ _ _)) (grown_cell _ _ _ _)) (grown_cell _ _ _ _)) (grown_cell _ _ _ _)
theorem MRow.not_at {w:World} {g n b:Nat} {M:Nat→M6} (h:MRow w g n M) (h0:0<n) (hc:w.cell? ⟨b,0,none⟩=some (.slice none 0 0)):some g≠some b:=fun e=>by
 cases e
 have:=(h 0 h0).1.1
 rw [Nat.zero_mul,hc] at this
 cases this
theorem TRow.not_at {w:World} {pa:Option Addr} {l:List (Int×Int×Int)} {b:Nat} (h:TRow w pa l) (h0:0<l.length) (hc:w.cell? ⟨b,0,none⟩=some (.slice none 0 0)):∀ g,pa=some ⟨g,0,none⟩→g≠b:=fun g e e2=>by
 obtain ⟨g',e',c0,_⟩:=h 0 h0
 rw [e] at e'
 cases e'
 subst e2
 rw [Nat.zero_mul,hc] at c0
 cases c0
theorem TRow.grown {w w':World} {pa:Option Addr} {l:List (Int×Int×Int)} {b:Nat} (h:TRow w pa l) (hg:w.grownBy w' (some b)) (hn:∀ g,pa=some ⟨g,0,none⟩→g≠b):TRow w' pa l:=fun i hi=>by
 obtain ⟨g,e,c0,c1,c2⟩:=h i hi
 have hne:some g≠some b:=fun e2=>hn g e (by simpa using e2)
 exact ⟨g,e,hg.cell c0 hne,hg.cell c1 hne,hg.cell c2 hne⟩
set_option maxRecDepth 100000 in
set_option maxHeartbeats 3200000 in
theorem placed_yes (W H b off cap n ccap:Nat) (cb:Option Addr) (zs ks:List Int) (w:World) (hr:Row w (some ⟨b,off,none⟩) zs) (hW:1≤W∧W≤8) (hH:1≤H∧H≤8) (hl:zs.length=W*H) (hm:maskB zs=true) (hk:Row w cb ks) (hn:ks.length=n*5) (hn2:n≤3518437208883) (hs:Steps w) (hJ:Joined (ty zs W H)) (hC:∀ i,i<n→CrOk (ty zs W H) ks i) :
  Calls Tryz.prog 28 #[.agg #[.int .i64 (W:Int),.int .i64 (H:Int),.slice (some ⟨b,off,none⟩) zs.length cap,.slice cb n ccap]] w fun e w'=>PlacedTo (kdn ks n) (ty zs W H) w w' e:=by
 have CL:Hid (∀ W':World,Below w.heap.size w W'→Calls Tryz.prog 65 #[.agg #[.int .i64 (W:Int),.int .i64 (H:Int),.slice (some ⟨b,off,none⟩) zs.length cap,.slice cb n ccap]] W' fun e w'=>∃ ad cc base ra rk,e=.returned (.tuple #[.agg #[.slice ad (ty zs W H).length cc,.map (some ra),.map (some rk)],.bool true])∧PK W' w' base ra rk (.slice ad (ty zs W H).length cc) (ty zs W H) (gix (ty zs W H)) (kf ks n)):=fun W' hW'=>lay_yes W H b off cap n ccap cb zs ks W' (hr.kept hW') hW hH hl hm (hk.kept hW') hn hn2 (hs.kept hW') hJ hC
 have CP:Hid (∀ W':World,Below w.heap.size w W'→Calls Tryz.prog 64 #[.agg #[.int .i64 (W:Int),.int .i64 (H:Int),.slice (some ⟨b,off,none⟩) zs.length cap,.slice cb n ccap]] W' fun e w'=>PlaceTo (kdn ks n) (ty zs W H) W' w' e):=fun W' hW'=>Place_yes W H b off cap n ccap cb zs ks W' (hr.kept hW') hW hH hl hm (hk.kept hW') hn hn2 (hs.kept hW') hJ hC
 have hlen:(ty zs W H).length≤300:=by have:=ty_len zs W H hW.2;omega
 have hnd:=ty_nodup zs W H
 have hbd:=ty_bd (zs:=zs) hW.2 hH.2
 have HS:Hid (Steps w):=hs
 obtain ⟨L,hL⟩:∃ L,L=ty zs W H:=⟨_,rfl⟩
 rw [← hL] at CL CP hlen hnd hbd hJ
 rw [← hL]
 have HJ:Hid (Joined L∧L.Nodup∧∀ t∈L,(0≤t.1∧t.1≤8)∧(0≤t.2.1∧t.2.1≤8)∧(0≤t.2.2∧t.2.2≤3)):=⟨hJ,hnd,hbd⟩
 clear hr hk hl hm hW hH hn hs hJ hC hL hnd hbd
 go_enter Tryz.func28,Tryz.ntmps28
 go_upto_region 2 with (go_at_call 64;refine (CP.out _ (by with_reducible exact bl_alloc (bl_alloc (bl_refl _)))).mono ?_;rintro e w2 ⟨hb2,h2⟩;have HB2:Hid (Below ((w.alloc (.cells #[.int .i64 (W:Int),.int .i64 (H:Int),.slice (some ⟨b,off,none⟩) zs.length cap,.slice cb n ccap] 25)).alloc (.cells #[.slice none 0 0,.map none,.map none,.slice none 0 0,.slice none 0 0] 70)).heap.size ((w.alloc (.cells #[.int .i64 (W:Int),.int .i64 (H:Int),.slice (some ⟨b,off,none⟩) zs.length cap,.slice cb n ccap] 25)).alloc (.cells #[.slice none 0 0,.map none,.map none,.slice none 0 0,.slice none 0 0] 70)) w2):=hb2;have H2:Hid ((∃ M g,Cons (kdn ks n) L M∧e=.returned (.tuple #[.slice (some ⟨g,0,none⟩) L.length L.length,.int .i64 0])∧MRow w2 g L.length M)∨((¬ ∃ N,Cons (kdn ks n) L N)∧e=.returned (.tuple #[.slice none 0 0,.int .i64 8]))):=h2;clear hb2 h2;rcases H2.out with ⟨M,gm,hc,rfl,hr⟩ | ⟨hno,rfl⟩)
 ·have HMR:Hid (MRow w2 gm L.length M∧Cons (kdn ks n) L M):=⟨hr,hc⟩
  clear hr hc H2 CP
  have s0:w2.cell? ⟨w.heap.size,0,none⟩=some (.int .i64 (W:Int)):=cl_kept HB2.out (by simp [go_sem])
  have s1:w2.cell? ⟨w.heap.size,1,none⟩=some (.int .i64 (H:Int)):=cl_kept HB2.out (by simp [go_sem])
  have s2:w2.cell? ⟨w.heap.size,2,none⟩=some (.slice (some ⟨b,off,none⟩) zs.length cap):=cl_kept HB2.out (by simp [go_sem])
  have s3:w2.cell? ⟨w.heap.size,3,none⟩=some (.slice cb n ccap):=cl_kept HB2.out (by simp [go_sem])
  have zS:w.heap.size<w2.heap.size:=World.block_lt_of_cell? _ _ s0
  have HBw:Hid (Below w.heap.size w w2):=bl_via (bl_alloc (bl_alloc (bl_refl _))) HB2.out
  go_upto_region 5 with (go_at_call 65;refine (CL.out _ HBw.out).mono ?_;rintro e w3 ⟨ad,cc,base,ra,rk,rfl,hpk⟩;have HB3:Hid (Below w2.heap.size w2 w3):=hpk.2.2.2.2;have HPK:Hid (PA w3 ad ra L∧KL w3 rk (kdn ks n)):=⟨hpk.pa,hpk.kl⟩;have HPX:Hid (PK w2 w3 base ra rk (.slice ad L.length cc) L (gix L) (kf ks n)):=hpk;clear hpk)
  clear s0 s1 s2 s3 zS
  have CS:Hid (∀ W':World,Below w3.heap.size w3 W'→Calls Tryz.prog 66 #[.agg #[.slice ad L.length cc,.map (some ra),.map (some rk)],.slice (some ⟨gm,0,none⟩) L.length L.length] W' fun e w'=>∃ pa pc,e=.returned (.tuple #[.agg #[.slice ad L.length cc,.map (some ra),.map (some rk),.slice (some ⟨gm,0,none⟩) L.length L.length,.slice pa L.length pc],.bool true])∧TRow w' pa (pls L M L.length)∧Below W'.heap.size W' w'):=fun W' hW'=>spread_pile W' cc ra rk gm L.length ad L (kdn ks n) M (HS.out.kept (bl_via HBw.out (bl_via HB3.out hW'))) (HPK.out.1.kept hW') (HPK.out.2.kept hW') hlen HJ.out.2.2 (HMR.out.1.kept (bl_via HB3.out hW')) HMR.out.2 (cons_good HJ.out.1 HJ.out.2.1 hlen HJ.out.2.2 HMR.out.2)
  go_upto_region 6 with (go_at_call 66;refine (CS.out _ (by with_reducible exact bl_alloc (bl_refl _))).mono ?_;rintro e w4 ⟨pa,pc,rfl,hT,hb4⟩;have HB4:Hid (Below w3.heap.size w3 w4∧TRow w4 pa (pls L M L.length)):=⟨bl_via (bl_alloc (bl_refl _)) hb4,hT⟩;clear hb4 hT)
  have HB5:Hid (Below ((w.alloc (.cells #[.int .i64 (W:Int),.int .i64 (H:Int),.slice (some ⟨b,off,none⟩) zs.length cap,.slice cb n ccap] 25)).alloc (.cells #[.slice none 0 0,.map none,.map none,.slice none 0 0,.slice none 0 0] 70)).heap.size ((w.alloc (.cells #[.int .i64 (W:Int),.int .i64 (H:Int),.slice (some ⟨b,off,none⟩) zs.length cap,.slice cb n ccap] 25)).alloc (.cells #[.slice none 0 0,.map none,.map none,.slice none 0 0,.slice none 0 0] 70)) w4):=bl_via HB2.out (bl_via HB3.out HB4.out.1)
  have d0:w4.cell? ⟨w.heap.size+1,0,none⟩=some (.slice none 0 0):=cl_kept HB5.out (by simp [go_sem])
  have d1:w4.cell? ⟨w.heap.size+1,1,none⟩=some (.map none):=cl_kept HB5.out (by simp [go_sem])
  have d2:w4.cell? ⟨w.heap.size+1,2,none⟩=some (.map none):=cl_kept HB5.out (by simp [go_sem])
  have d3:w4.cell? ⟨w.heap.size+1,3,none⟩=some (.slice none 0 0):=cl_kept HB5.out (by simp [go_sem])
  have d4:w4.cell? ⟨w.heap.size+1,4,none⟩=some (.slice none 0 0):=cl_kept HB5.out (by simp [go_sem])
  have k0:w4.frozen? ⟨w.heap.size+1,0,none⟩=false:=(Below.frozen HB5.out (by simp)).trans (by simp [go_sem])
  have k1:w4.frozen? ⟨w.heap.size+1,1,none⟩=false:=(Below.frozen HB5.out (by simp)).trans (by simp [go_sem])
  have k2:w4.frozen? ⟨w.heap.size+1,2,none⟩=false:=(Below.frozen HB5.out (by simp)).trans (by simp [go_sem])
  have k3:w4.frozen? ⟨w.heap.size+1,3,none⟩=false:=(Below.frozen HB5.out (by simp)).trans (by simp [go_sem])
  have k4:w4.frozen? ⟨w.heap.size+1,4,none⟩=false:=(Below.frozen HB5.out (by simp)).trans (by simp [go_sem])
  have zD:w.heap.size+1<w4.heap.size:=World.block_lt_of_cell? _ _ d0
  go_wp2
  refine bodyPost_ret (v:=.tuple #[pileV ad L.length cc ra rk gm L.length pa pc,.int .i64 0]) (by simp [pileV,results,Tryz.results28,go_sem, *]) rfl ⟨?_,Or.inl ⟨M,ad,cc,ra,rk,gm,L.length,pa,pc,HMR.out.2,rfl, ?_⟩⟩
  ·have hbF:=bl_via (bl_alloc (bl_alloc (bl_refl w))) HB5.out
   with_reducible repeat' (first | exact hbF | refine bl_set ?_ ?_ | refine bl_alloc ?_ | refine bl_drew ?_)
   all_goals (dsimp only;omega)
  ·have hgF:=gb_then (set5_grown w4 (w.heap.size+1) (.slice ad L.length cc) (.map (some ra)) (.map (some rk)) (.slice (some ⟨gm,0,none⟩) L.length L.length) (.slice pa L.length pc)) (World.grownBy_alloc _ (.cells #[.slice ad L.length cc,.map (some ra),.map (some rk),.slice (some ⟨gm,0,none⟩) L.length L.length,.slice pa L.length pc] 70) (some (w.heap.size+1)))
   have hz:=HB2.out.size
   simp only [World.size_alloc] at hz
   have hpx:=HPX.out
   obtain ⟨_,_,_,⟨a1,a2,a3,a4,a5,a6,a7⟩,_⟩:=hpx
   have hpk:=(((HPX.out.base HBw.out).kept HB4.out.1).grown hgF (by omega) (by omega) (by omega) (by omega))
   have h0:0<L.length:=HJ.out.1.1
   exact ⟨hpk.pa,hpk.kl,(HMR.out.1.kept (bl_via HB3.out HB4.out.1)).grown hgF ((HMR.out.1.kept (bl_via HB3.out HB4.out.1)).not_at h0 d0),HB4.out.2.grown hgF (HB4.out.2.not_at (by rw [pls_len];exact h0) d0)⟩
 ·clear H2 CP CL
  have d0:w2.cell? ⟨w.heap.size+1,0,none⟩=some (.slice none 0 0):=cl_kept HB2.out (by simp [go_sem])
  have d1:w2.cell? ⟨w.heap.size+1,1,none⟩=some (.map none):=cl_kept HB2.out (by simp [go_sem])
  have d2:w2.cell? ⟨w.heap.size+1,2,none⟩=some (.map none):=cl_kept HB2.out (by simp [go_sem])
  have d3:w2.cell? ⟨w.heap.size+1,3,none⟩=some (.slice none 0 0):=cl_kept HB2.out (by simp [go_sem])
  have d4:w2.cell? ⟨w.heap.size+1,4,none⟩=some (.slice none 0 0):=cl_kept HB2.out (by simp [go_sem])
  have k0:w2.frozen? ⟨w.heap.size+1,0,none⟩=false:=(Below.frozen HB2.out (by simp)).trans (by simp [go_sem])
  have k1:w2.frozen? ⟨w.heap.size+1,1,none⟩=false:=(Below.frozen HB2.out (by simp)).trans (by simp [go_sem])
  have k2:w2.frozen? ⟨w.heap.size+1,2,none⟩=false:=(Below.frozen HB2.out (by simp)).trans (by simp [go_sem])
  have k3:w2.frozen? ⟨w.heap.size+1,3,none⟩=false:=(Below.frozen HB2.out (by simp)).trans (by simp [go_sem])
  have k4:w2.frozen? ⟨w.heap.size+1,4,none⟩=false:=(Below.frozen HB2.out (by simp)).trans (by simp [go_sem])
  have zD:w.heap.size+1<w2.heap.size:=World.block_lt_of_cell? _ _ d0
  go_wp2
  refine bodyPost_ret (v:=.tuple #[.agg #[.slice none 0 0,.map none,.map none,.slice none 0 0,.slice none 0 0],.int .i64 8]) (by simp [results,Tryz.results28,go_sem, *]) rfl ⟨?_,Or.inr ⟨hno,rfl⟩⟩
  with_reducible repeat' (first | exact bl_via (bl_alloc (bl_alloc (bl_refl _))) HB2.out | refine bl_set ?_ ?_ | refine bl_drew ?_ | refine bl_alloc ?_)
  all_goals (dsimp only;omega)
open Go.RowKit
def tgn (L:List (Int×Int×Int)) (R:List Nat):List (Int×Int×Int):=R.map fun j=>L.getD j (0,0,0)
theorem tgn_take {L:List (Int×Int×Int)} {R:List Nat} {i:Nat} (hi:i<R.length):tgn L (R.take (i+1))=tgn L (R.take i) ++ [L.getD R[i] (0,0,0)]:=by
 unfold tgn
 rw [List.take_add_one,List.getElem?_eq_getElem hi,List.map_append]
 rfl
def NRow (w:World) (g o:Nat) (R:List Nat):Prop := ∀ i (h:i<R.length),w.cell? ⟨g,o+i,none⟩=some (.int .i64 ((R[i]:Nat):Int))
theorem NRow.kept {w w':World} {g o:Nat} {R:List Nat} (h:NRow w g o R) (hb:Below w.heap.size w w'):NRow w' g o R:=fun i hi=>cl_kept hb (h i hi)
set_option maxRecDepth 100000 in
set_option maxHeartbeats 3200000 in
theorem named_any (w:World) (ad:Option Addr) (cc ra rk gm cm pc gn on cn:Nat) (pa:Option Addr) (L:List (Int×Int×Int)) (R:List Nat) (hT:TRow w ad L) (hN:NRow w gn on R) (hR:∀ j∈R,j<L.length) (hRl:R.length≤300) (_hL:L.length≤300) :
  Calls Tryz.prog 112 #[pileV ad L.length cc ra rk gm cm pa pc,.slice (some ⟨gn,on,none⟩) R.length cn] w fun e w'=>∃ a c,e=.returned (.slice a R.length c)∧TRow w' a (tgn L R)∧Below w.heap.size w w'∧∀ g,a=some ⟨g,0,none⟩→w.heap.size≤g∧g<w'.heap.size:=by
 have HR:Hid (TRow w ad L∧NRow w gn on R∧∀ j∈R,j<L.length):=⟨hT,hN,hR⟩
 obtain ⟨i3,hi3,hz30,hz31,hz32⟩:=info_parts inf23
 have HI:Hid (Tryz.prog.info? 56=some i3∧i3.zero=some (.agg #[.int .i64 0,.int .i64 0,.int .i64 0])∧i3.size=3∧i3.bytes=24):=⟨hi3,hz30,hz31,hz32⟩
 clear hT hN hR hi3 hz30 hz31 hz32
 unfold pileV
 go_enter Tryz.func112,Tryz.ntmps112
 go_wp2_with (at_make;refine wpList_make_own _ rfl (.const (.int .i64 0)) (.tmp 9) 57 rfl (w.heap.size+1) 56 i3 (.agg #[.int .i64 0,.int .i64 0,.int .i64 0]) 3 Tryz.underlying57 HI.out.1 HI.out.2.1 HI.out.2.2.1 .i64 .i64 _ R.length rfl rfl rfl (by rw [HI.out.2.2.2];omega) (by unfold maxLen;omega) (by simp) ?mk)
 case mk =>
  intro w1 hown hg1
  have hb1:Below (w.alloc (.cells #[.slice ad L.length cc,.map (some ra),.map (some rk),.slice (some ⟨gm,0,none⟩) L.length cm,.slice pa L.length pc] 70)).heap.size (w.alloc (.cells #[.slice ad L.length cc,.map (some ra),.map (some rk),.slice (some ⟨gm,0,none⟩) L.length cm,.slice pa L.length pc] 70)) w1:=(Below.refl _ _).grown hg1 (Nat.le_refl _) (fun k h=>by cases h)
  have HB1:Hid (Below (w.alloc (.cells #[.slice ad L.length cc,.map (some ra),.map (some rk),.slice (some ⟨gm,0,none⟩) L.length cm,.slice pa L.length pc] 70)).heap.size (w.alloc (.cells #[.slice ad L.length cc,.map (some ra),.map (some rk),.slice (some ⟨gm,0,none⟩) L.length cm,.slice pa L.length pc] 70)) w1∧w1.ownsRow (w.heap.size+1) 56 3 (.slice (some ⟨w.heap.size+1,0,none⟩) 0 R.length) 0 []):=⟨hb1,by simpa using hown⟩
  clear hown hg1 hb1
  go_wp2
  go_loopg [5,13] R.length (fun gk s5 s13 wx=>∃ (i:Nat) (v:Value),i≤R.length∧gk=R.length - i∧v=s5∧s13=.int .i64 (i:Int)∧wx.ownsRow (w.heap.size+1) 56 3 v i (flatV (tgn L (R.take i)))∧Below (w.alloc (.cells #[.slice ad L.length cc,.map (some ra),.map (some rk),.slice (some ⟨gm,0,none⟩) L.length cm,.slice pa L.length pc] 70)).heap.size (w.alloc (.cells #[.slice ad L.length cc,.map (some ra),.map (some rk),.slice (some ⟨gm,0,none⟩) L.length cm,.slice pa L.length pc] 70)) wx)
  case atStart=>exact ⟨0,_,by omega,rfl,rfl,rfl,by simpa [tgn,flatV] using HB1.out.2,HB1.out.1⟩
  case round =>
   clear HB1
   obtain ⟨i,v,hi,rfl,rfl,rfl,hO,hB⟩:=hrel
   have HB:Hid (Below w.heap.size w wr):=bl_via (bl_alloc (bl_refl _)) hB
   have p0:wr.cell? ⟨w.heap.size,0,none⟩=some (.slice ad L.length cc):=cl_kept hB (by simp [go_sem])
   have zp:w.heap.size<wr.heap.size:=World.block_lt_of_cell? _ _ p0
   have HO:Hid (wr.ownsRow (w.heap.size+1) 56 3 v i (flatV (tgn L (R.take i)))∧Below (w.alloc (.cells #[.slice ad L.length cc,.map (some ra),.map (some rk),.slice (some ⟨gm,0,none⟩) L.length cm,.slice pa L.length pc] 70)).heap.size (w.alloc (.cells #[.slice ad L.length cc,.map (some ra),.map (some rk),.slice (some ⟨gm,0,none⟩) L.length cm,.slice pa L.length pc] 70)) wr):=⟨hO,hB⟩
   have zw:w.heap.size+1≤wr.heap.size:=by have:=hB.size;simp at this;omega
   clear hO hB
   by_cases h1:i<R.length
   ·have i1:(i:Int)<(R.length:Int):=by omega
    have i0:(0:Int)≤(i:Int):=by omega
    have r0:=cl_kept HB.out (HR.out.2.1 i h1)
    have zn:gn<wr.heap.size:=World.block_lt_of_cell? _ _ r0
    have hj:=HR.out.2.2 R[i] (List.getElem_mem h1)
    obtain ⟨j,hje⟩:∃ j,j=R[i]:=⟨_,rfl⟩
    rw [← hje] at r0 hj
    have j1:(j:Int)<(L.length:Int):=by omega
    have j0:(0:Int)≤(j:Int):=by omega
    obtain ⟨gt_,rfl,t0,t1,t2⟩:=(HR.out.1.kept HB.out) j hj
    obtain ⟨x,y,k,hti⟩:∃ x y k,L[j]=(x,y,k):=⟨_,_,_,rfl⟩
    have HE:Hid (tgn L (R.take (i+1))=tgn L (R.take i) ++ [(x,y,k)]):=by
     have:tgn L (R.take (i+1))=tgn L (R.take i) ++ [(x,y,k)]:=by
      rw [tgn_take h1,← hje,List.getD_eq_getElem?_getD,List.getElem?_eq_getElem hj,← hti]
      rfl
     exact this
    rw [hti] at t0 t1 t2
    dsimp only at t0 t1 t2
    have zt:gt_<wr.heap.size:=World.block_lt_of_cell? _ _ t0
    clear hje hti
    go_wp2_with (at_builtin;refine wpList_append_own _ rfl (.tmp 17) (.tmp 24) 57 rfl (w.heap.size+1) 56 i3 (.agg #[.int .i64 0,.int .i64 0,.int .i64 0]) 3 24 Tryz.underlying57 HI.out.1 HI.out.2.1 HI.out.2.2.1 HI.out.2.2.2 rfl (by decide) v i (flatV (tgn L (R.take i))) rfl (own_below HO.out.1 (bl_alloc (bl_refl _))) ⟨wr.heap.size,0,none⟩ 1 1 [.int .i64 x,.int .i64 y,.int .i64 k] rfl rfl (cell_three_new wr x y k) (three_cell x y k) (by unfold maxLen;omega) (by omega) (by simp;omega) ?grow)
    case grow =>
     intro v' w3 hown hgrow _
     have HO3:Hid (w3.ownsRow (w.heap.size+1) 56 3 v' (i+1) (flatV (tgn L (R.take (i+1))))∧Below (w.alloc (.cells #[.slice (some ⟨gt_,0,none⟩) L.length cc,.map (some ra),.map (some rk),.slice (some ⟨gm,0,none⟩) L.length cm,.slice pa L.length pc] 70)).heap.size (w.alloc (.cells #[.slice (some ⟨gt_,0,none⟩) L.length cc,.map (some ra),.map (some rk),.slice (some ⟨gm,0,none⟩) L.length cm,.slice pa L.length pc] 70)) w3):=by
      refine ⟨?_, ?_⟩
      ·rw [HE.out,flatV_add]
       exact hown
      ·refine (bl_alloc HO.out.2).grown hgrow (bl_alloc HO.out.2).size (fun k hk=>?_)
       have:=own_base HO.out.1 k hk
       simp
       omega
     clear hown hgrow
     go_wp2
     go_roundg (R.length - (i+1))
     case measure=>omega
     case rel=>exact ⟨i+1,_,by omega,rfl,rfl,by go_num,HO3.out.1,HO3.out.2⟩
   ·have i1:¬ (i:Int)<(R.length:Int):=by omega
    obtain rfl:i=R.length:=by omega
    have hO:=HO.out.1
    rw [List.take_length] at hO
    have hlen:(tgn L R).length=R.length:=by simp [tgn]
    obtain ⟨a,c,rfl,hT⟩:=own_tris (l:=tgn L R) (by rw [hlen];exact hO)
    have HT:Hid (TRow wr a (tgn L R)∧Below w.heap.size w wr∧∀ g,a=some ⟨g,0,none⟩→w.heap.size≤g∧g<wr.heap.size):=⟨hT,HB.out,fun g e=>by
     have:=hO.lt g (by rw [e];rfl)
     exact ⟨by omega,this.2⟩⟩
    rw [hlen]
    clear hO hT HO HB hlen
    go_wp2
    go_ret
    exact ⟨a,⟨c,rfl⟩,HT.out⟩
open Go.RowKit
theorem neqC (a b c d e:Int) (w:World):(binOp .neq 83 (.agg #[.int .i64 a,.int .i64 b,.int .i64 c,.int .i64 d,.int .i64 e]) (.agg #[.int .i64 a,.int .i64 b,.int .i64 c,.int .i64 d,.int .i64 e])).run Tryz.prog w=.ok (.bool false) w:=by
 simp [go_sem]
set_option maxRecDepth 100000 in
set_option maxHeartbeats 3200000 in
theorem sameSheet_yes (W H:Int) (a1 a2 c1 c2:Option Addr) (k1 k2 d1 d2 n:Nat) (zs ks:List Int) (w:World) (hz1:Row w a1 zs) (hz2:Row w a2 zs) (hk1:Row w c1 ks) (hk2:Row w c2 ks) (hn:ks.length=n*5) (hl:zs.length≤17592186044416) (hn2:n≤3518437208883) :
  Calls Tryz.prog 47 #[.agg #[.int .i64 W,.int .i64 H,.slice a1 zs.length k1,.slice c1 n d1],.agg #[.int .i64 W,.int .i64 H,.slice a2 zs.length k2,.slice c2 n d2]] w fun e w'=>e=.returned (.bool true)∧Below w.heap.size w w':=by
 have HR:Hid (Row w a1 zs∧Row w a2 zs∧Row w c1 ks∧Row w c2 ks∧ks.length=n*5):=⟨hz1,hz2,hk1,hk2,hn⟩
 obtain ⟨w0,hw0⟩:∃ W0,W0=(w.alloc (.cells #[.int .i64 W,.int .i64 H,.slice a1 zs.length k1,.slice c1 n d1] 25)).alloc (.cells #[.int .i64 W,.int .i64 H,.slice a2 zs.length k2,.slice c2 n d2] 25):=⟨_,rfl⟩
 have hx:w0.cell? ⟨w.heap.size,2,none⟩=some (.slice a1 zs.length k1)∧w0.cell? ⟨w.heap.size,3,none⟩=some (.slice c1 n d1)∧w0.cell? ⟨w.heap.size+1,2,none⟩=some (.slice a2 zs.length k2)∧w0.cell? ⟨w.heap.size+1,3,none⟩=some (.slice c2 n d2):=by
  rw [hw0]
  simp [go_sem]
 have HX:Hid (w0.cell? ⟨w.heap.size,2,none⟩=some (.slice a1 zs.length k1)∧w0.cell? ⟨w.heap.size,3,none⟩=some (.slice c1 n d1)∧w0.cell? ⟨w.heap.size+1,2,none⟩=some (.slice a2 zs.length k2)∧w0.cell? ⟨w.heap.size+1,3,none⟩=some (.slice c2 n d2)):=hx
 have hb0:Below w.heap.size w w0:=by
  rw [hw0]
  exact bl_alloc (bl_alloc (bl_refl _))
 have HB0:Hid (Below w.heap.size w w0):=hb0
 have HW0:Hid ((w.alloc (.cells #[.int .i64 W,.int .i64 H,.slice a1 zs.length k1,.slice c1 n d1] 25)).alloc (.cells #[.int .i64 W,.int .i64 H,.slice a2 zs.length k2,.slice c2 n d2] 25)=w0):=hw0.symm
 have q1:(W != W)=false:=by simp
 have q2:(H != H)=false:=by simp
 have q3:((zs.length:Int) != (zs.length:Int))=false:=by simp
 have q4:((n:Int) != (n:Int))=false:=by simp
 have hc:=neqC
 clear hx hb0 hw0 hz1 hz2 hk1 hk2 hn
 go_enter Tryz.func47,Tryz.ntmps47
 go_wp2
 go_loopg [5] zs.length (fun gk s5 wx=>∃ i:Nat,i≤zs.length∧gk=zs.length - i∧s5=.int .i64 (i:Int)∧Below w0.heap.size w0 wx)
 case atStart=>exact ⟨0,by omega,rfl,rfl,by rw [HW0.out];exact bl_refl _⟩
 case round =>
  obtain ⟨i,hi,rfl,rfl,hB⟩:=hrel
  have HB:Hid (Below w0.heap.size w0 wr):=hB
  have p0:=cl_kept hB HX.out.1
  have p1:=cl_kept hB HX.out.2.2.1
  have zp:w.heap.size<wr.heap.size:=World.block_lt_of_cell? _ _ p0
  have zp1:w.heap.size+1<wr.heap.size:=World.block_lt_of_cell? _ _ p1
  clear hB
  by_cases h1:i<zs.length
  ·have i1:(i:Int)<(zs.length:Int):=by omega
   have i0:(0:Int)≤(i:Int):=by omega
   obtain ⟨b1,o1,rfl,r1⟩:=HR.out.1 i h1
   obtain ⟨b2,o2,rfl,r2⟩:=HR.out.2.1 i h1
   replace r1:=cl_kept (bl_via HB0.out HB.out) r1
   replace r2:=cl_kept (bl_via HB0.out HB.out) r2
   have zb1:b1<wr.heap.size:=World.block_lt_of_cell? _ _ r1
   have zb2:b2<wr.heap.size:=World.block_lt_of_cell? _ _ r2
   obtain ⟨z,hz⟩:∃ z,z=zs[i]:=⟨_,rfl⟩
   rw [← hz] at r1 r2
   have qz:(z != z)=false:=by simp
   clear hz
   go_wp2
   have kc:=Kin.cells wr
   have kn:Nonempty (Kin wr):=⟨⟨wr,bl_refl _⟩⟩
   refine wp_region_kin (by kernel_rfl) (by kernel_rfl) ?_
   repeat (go_big_quiet_step (fail))
   refine wpQuiet_nil ?_
   intro wq hw'
   obtain ⟨nq,hw''⟩:=hw'
   have hq:Below wr.heap.size wr wq:=hw'' ▸ nq.h
   clear hw'' nq kc kn p0 p1 r1 r2
   go_wp2
   go_roundg (zs.length - (i+1))
   case measure=>omega
   case rel=>exact ⟨i+1,by omega,rfl,by go_num,bl_via HB.out hq⟩
  ·have i1:¬ (i:Int)<(zs.length:Int):=by omega
   go_wp2
   clear p0 p1 zp zp1 i1 h1
   go_loopg [6] n (fun gk s6 wx=>∃ i:Nat,i≤n∧gk=n - i∧s6=.int .i64 (i:Int)∧Below w0.heap.size w0 wx)
   case atStart=>exact ⟨0,by omega,rfl,rfl,HB.out⟩
   case round =>
    clear HB
    obtain ⟨i,hi,rfl,rfl,hB⟩:=hrel
    have HB:Hid (Below w0.heap.size w0 wr):=hB
    have p0:=cl_kept hB HX.out.2.1
    have p1:=cl_kept hB HX.out.2.2.2
    have zp:w.heap.size<wr.heap.size:=World.block_lt_of_cell? _ _ p0
    have zp1:w.heap.size+1<wr.heap.size:=World.block_lt_of_cell? _ _ p1
    clear hB
    by_cases h1:i<n
    ·have i1:(i:Int)<(n:Int):=by omega
     have i0:(0:Int)≤(i:Int):=by omega
     obtain ⟨b1,o1,rfl,r0,r1,r2,r3,r4⟩:=(row_crow HR.out.2.2.1 HR.out.2.2.2.2).kept (bl_via HB0.out HB.out) i h1
     obtain ⟨b2,o2,rfl,s0,s1,s2,s3,s4⟩:=(row_crow HR.out.2.2.2.1 HR.out.2.2.2.2).kept (bl_via HB0.out HB.out) i h1
     have zb1:b1<wr.heap.size:=World.block_lt_of_cell? _ _ r0
     have zb2:b2<wr.heap.size:=World.block_lt_of_cell? _ _ s0
     obtain ⟨v0,hv0⟩:∃ z,z=ck ks i 0:=⟨_,rfl⟩
     obtain ⟨v1,hv1⟩:∃ z,z=ck ks i 1:=⟨_,rfl⟩
     obtain ⟨v2,hv2⟩:∃ z,z=ck ks i 2:=⟨_,rfl⟩
     obtain ⟨v3,hv3⟩:∃ z,z=ck ks i 3:=⟨_,rfl⟩
     obtain ⟨v4,hv4⟩:∃ z,z=ck ks i 4:=⟨_,rfl⟩
     rw [← hv0] at r0 s0
     rw [← hv1] at r1 s1
     rw [← hv2] at r2 s2
     rw [← hv3] at r3 s3
     rw [← hv4] at r4 s4
     clear hv0 hv1 hv2 hv3 hv4
     go_wp2
     have kc:=Kin.cells wr
     have kn:Nonempty (Kin wr):=⟨⟨wr,bl_refl _⟩⟩
     refine wp_region_kin (by kernel_rfl) (by kernel_rfl) ?_
     repeat (go_big_quiet_step (fail))
     refine wpQuiet_nil ?_
     intro wq hw'
     obtain ⟨nq,hw''⟩:=hw'
     have hq:Below wr.heap.size wr wq:=hw'' ▸ nq.h
     clear hw'' nq kc kn p0 p1 r0 r1 r2 r3 r4 s0 s1 s2 s3 s4
     go_wp2
     go_roundg (n - (i+1))
     case measure=>omega
     case rel=>exact ⟨i+1,by omega,rfl,by go_num,bl_via HB.out hq⟩
    ·have i1:¬ (i:Int)<(n:Int):=by omega
     go_wp2
     go_ret
     exact ⟨rfl,bl_via HB0.out HB.out⟩
end Go.Proofs.YtgpjaecgkkgehaaGreatDoor
