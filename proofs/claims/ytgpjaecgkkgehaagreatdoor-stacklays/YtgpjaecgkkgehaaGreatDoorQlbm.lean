/- A part of the proof of stackLays_holds. -/
import Derived.Test.YtgpjaecgkkgehaaGreatDoorQlba
import Derived.Test.YtgpjaecgkkgehaaGreatDoorQlbi
import Derived.Test.YtgpjaecgkkgehaaGreatDoorQlbl
import Derived.Test.YtgpjaecgkkgehaaGreatDoorQlal
import Derived.Test.YtgpjaecgkkgehaaGreatDoorQlbk
set_option maxRecDepth 100000
set_option maxHeartbeats 40000000
namespace Go.Proofs.YtgpjaecgkkgehaaGreatDoor
open Go.RowKit
theorem own_rowf {w:World} {base e size n:Nat} {v:Value} {zs:List Int} (h:w.ownsRow base e size v n (zs.map (fun z=>Value.int .i64 z))) (hs:zs.length=n*size):∃a c,v=.slice a n c∧RowF w base a zs:=by
 by_cases hn:0<n
 ·obtain ⟨g,cap,e1,_,e3⟩:=own_row h hn
  exact ⟨_,cap,e1,e3⟩
 ·have h0:n=0:=by omega
  subst h0
  have hz:zs=[]:=List.length_eq_zero_iff.1 (by omega)
  subst hz
  rcases h.2 with ⟨e1,_⟩|⟨g,cap,cur,e1,_⟩
  ·exact ⟨none,0,e1,Xq _ _ _⟩
  ·exact ⟨_,cap,e1,Xq _ _ _⟩
theorem ints_one (zs:List Int):∀u∈zs.map (fun z=>Value.int .i64 z),u.oneCell'=true:=by
 intro u hu
 obtain ⟨z,_,rfl⟩:=List.mem_map.1 hu
 rfl
theorem row_none {w:World} {zs:List Int} (h:Row w none zs):zs=[]:=by
 cases zs with
 | nil=>rfl
 | cons z r =>
  obtain ⟨b,off,e,_⟩:=h 0 (by simp)
  cases e
theorem row_cells {w:World} {b off:Nat} {zs:List Int} (h:Row w (some ⟨b,off,none⟩) zs):∀j u,(zs.map (fun z=>Value.int .i64 z))[j]?=some u→w.cell? ((⟨b,off,none⟩:Addr).add j)=some u:=by
 intro j u hu
 have hj:j<zs.length:=by
  have:=List.getElem?_eq_some_iff.1 hu
  simpa using this.1
 obtain ⟨b',off',e,hc⟩:=row_at h (by omega)
 cases e
 exact hc j u hu
theorem cloneI_any (w:World) (a:Option Addr) (c:Nat) (zs:List Int) (hz:Row w a zs) (h1:zs.length≤17592186044416) (ha:a=none∨∃b off,a=some ⟨b,off,none⟩) :
  Calls Tryz.prog 107 #[.slice a zs.length c] w fun e w'=>∃a' c',e=.returned (.slice a' zs.length c')∧RowF w' w.heap.size a' zs∧Bl w w':=by
 rcases ha with rfl|⟨b,off,rfl⟩
 ·have:=row_none hz
  subst this
  refine (clone_ints_nil w c).mono ?_
  rintro e w' ⟨rfl,rfl⟩
  exact ⟨none,0,rfl,Xq _ _ _,Qc _⟩
 ·refine (clone_ints w b off zs.length c (zs.map (fun z=>Value.int .i64 z)) (by simp) (row_cells hz) (ints_one zs) (by omega)).mono ?_
  rintro e w' ⟨v,rfl,ho,hb⟩
  obtain ⟨a',c',rfl,hR⟩:=own_rowf ho (by omega)
  exact ⟨a',c',rfl,hR,hb⟩
theorem cloneC_any (w:World) (a:Option Addr) (n c:Nat) (ks:List Int) (hk:Row w a ks) (hn:ks.length=n*5) (h1:n≤3518437208883) (ha:a=none∨∃b off,a=some ⟨b,off,none⟩) :
  Calls Tryz.prog 108 #[.slice a n c] w fun e w'=>∃a' c',e=.returned (.slice a' n c')∧RowF w' w.heap.size a' ks∧Bl w w':=by
 rcases ha with rfl|⟨b,off,rfl⟩
 ·have hk0:=row_none hk
  subst hk0
  have hn0:n=0:=by simp at hn;omega
  subst hn0
  refine (clone_creases_nil w c).mono ?_
  rintro e w' ⟨rfl,rfl⟩
  exact ⟨none,0,rfl,Xq _ _ _,Qc _⟩
 ·refine (clone_creases w b off n c (ks.map (fun z=>Value.int .i64 z)) (by simp [hn]) (row_cells hk) (ints_one ks) (by omega)).mono ?_
  rintro e w' ⟨v,rfl,ho,hb⟩
  obtain ⟨a',c',rfl,hR⟩:=own_rowf ho (by omega)
  exact ⟨a',c',rfl,hR,hb⟩
def CPW (w W:World) (u0 u1 u2 u3:Value):Prop:=Sh W w.heap.size u0 u1 u2 u3∧Fr W w.heap.size∧Sh W (w.heap.size+1) (.int .i64 0) (.int .i64 0) (.slice none 0 0) (.slice none 0 0)∧Fr W (w.heap.size+1)∧Bl w W
theorem CPW.kept {w W W':World} {u0 u1 u2 u3:Value} (h:CPW w W u0 u1 u2 u3) (hb:Bl W W'):CPW w W' u0 u1 u2 u3:=⟨h.1.kept hb,h.2.1.kept h.1.lt hb,h.2.2.1.kept hb,h.2.2.2.1.kept h.2.2.1.lt hb,Qe h.2.2.2.2 hb⟩
theorem CPW.new (w:World) (W H:Int) (v2 v3:Value):CPW w ((w.alloc (.cells #[.int .i64 W,.int .i64 H,v2,v3] 25)).alloc (.cells #[.int .i64 0,.int .i64 0,.slice none 0 0,.slice none 0 0] 25)) (.int .i64 W) (.int .i64 H) v2 v3:=by
 refine ⟨⟨?_,?_,?_,?_⟩,?_,⟨?_,?_,?_,?_⟩,?_,Qb (Qb (Qc _))⟩
 ·simp [go_sem]
 ·simp [go_sem]
 ·simp [go_sem]
 ·simp [go_sem]
 ·simp [Fr,go_sem]
 ·simp [go_sem]
 ·simp [go_sem]
 ·simp [go_sem]
 ·simp [go_sem]
 ·simp [Fr,go_sem]
theorem CPW.set {w W:World} {u0 u1 u2 u3:Value} (h:CPW w W u0 u1 u2 u3) (v2 v3:Value):CPW w ((W.setCell ⟨w.heap.size,2,none⟩ v2).setCell ⟨w.heap.size,3,none⟩ v3) u0 u1 v2 v3:=by
 obtain ⟨⟨c0,c1,c2,c3⟩,hf,⟨d0,d1,d2,d3⟩,hg,hb⟩:=h
 obtain ⟨f0,f1,f2,f3,f4,f5⟩:=hf
 obtain ⟨g0,g1,g2,g3,g4,g5⟩:=hg
 have far:∀{o:Nat} {u:Value},W.cell? ⟨w.heap.size+1,o,none⟩=some u→((W.setCell ⟨w.heap.size,2,none⟩ v2).setCell ⟨w.heap.size,3,none⟩ v3).cell? ⟨w.heap.size+1,o,none⟩=some u:=fun hu=>Qj (Qj hu (by simp)) (by simp)
 refine ⟨⟨?_,?_,?_,?_⟩,⟨?_,?_,?_,?_,?_,?_⟩,⟨far d0,far d1,far d2,far d3⟩,⟨?_,?_,?_,?_,?_,?_⟩,(hb.setCell (p:=⟨w.heap.size,2,none⟩) (Nat.le_refl _) _).setCell (p:=⟨w.heap.size,3,none⟩) (Nat.le_refl _) _⟩
 ·rw [World.cell?_setCell_other _ _ _ _ (by simp),World.cell?_setCell_other _ _ _ _ (by simp)]
  exact c0
 ·rw [World.cell?_setCell_other _ _ _ _ (by simp),World.cell?_setCell_other _ _ _ _ (by simp)]
  exact c1
 ·rw [World.cell?_setCell_other _ _ _ _ (by simp)]
  exact Q8 c2
 ·exact Q8 (by rw [World.cell?_setCell_other _ _ _ _ (by simp)];exact c3)
 all_goals (rw [World.frozen?_setCell,World.frozen?_setCell];assumption)
def CopyTo (w w':World) (W H:Int) (n:Nat) (zs ks:List Int) (e:Ending):Prop := ∃a ca b cb,e=.returned (.agg #[.int .i64 W,.int .i64 H,.slice a zs.length ca,.slice b n cb])∧RowF w' w.heap.size a zs∧RowF w' w.heap.size b ks∧Bl w w'
theorem copy_any (W H:Int) (a b:Option Addr) (ca cb n:Nat) (zs ks:List Int) (w:World) (hz:Row w a zs) (hk:Row w b ks) (hn:ks.length=n*5) (h1:zs.length≤17592186044416) (h2:n≤3518437208883) (ha:a=none∨∃p off,a=some ⟨p,off,none⟩) (hb:b=none∨∃p off,b=some ⟨p,off,none⟩) :
  Calls Tryz.prog 72 #[.agg #[.int .i64 W,.int .i64 H,.slice a zs.length ca,.slice b n cb]] w fun e w'=>CopyTo w w' W H n zs ks e:=by
 have C1:Hid (∀V:World,Bl w V→Calls Tryz.prog 107 #[.slice a zs.length ca] V fun e w'=>∃a' c',e=.returned (.slice a' zs.length c')∧RowF w' V.heap.size a' zs∧Bl V w'):=fun V hV=>cloneI_any V a ca zs (hz.kept hV) h1 ha
 have C2:Hid (∀V:World,Bl w V→Calls Tryz.prog 108 #[.slice b n cb] V fun e w'=>∃a' c',e=.returned (.slice a' n c')∧RowF w' V.heap.size a' ks∧Bl V w'):=fun V hV=>cloneC_any V b n cb ks (hk.kept hV) hn h2 hb
 clear hz hk ha hb
 obtain ⟨m,hm⟩:∃m,m=zs.length:=⟨_,rfl⟩
 rw [←hm] at C1 ⊢
 have HM:Hid (m=zs.length):=hm
 clear hm
 go_enter Tryz.func72,Tryz.ntmps72
 go_upto_region 1 with fail
 refine Qr (fun W0 hW0=>?_)
 have HS0:Hid (CPW w W0 (.int .i64 W) (.int .i64 H) (.slice a m ca) (.slice b n cb)):=by rw [hW0];exact CPW.new w W H _ _
 have hz0:w.heap.size+1<W0.heap.size:=HS0.out.2.2.1.lt
 clear hW0
 obtain ⟨s0,s1,s2,s3⟩:=HS0.out.1
 go_cut [] (fun wx=>∃a' ca' b' cb',CPW w wx (.int .i64 W) (.int .i64 H) (.slice a' m ca') (.slice b' n cb')∧RowF wx (w.heap.size+1+1) a' zs∧RowF wx (w.heap.size+1+1) b' ks)
 case first =>
  go_region_with (first
   | (go_at_call 107;refine (C1.out _ (by first | exact hC2.2.2.2.2 | exact Qf HS0.out.2.2.2.2)).mono ?_;rintro e w1 ⟨a1,k1,rfl,hR1,hb1⟩;have hC1:CPW w w1 (.int .i64 W) (.int .i64 H) (.slice a m ca) (.slice b n cb):=(by first | exact CPW.kept hC2 hb1 | exact CPW.kept (HS0.out.kept (Qf (Qc _))) hb1);have HR1:Hid (RowF w1 (w.heap.size+1+1) a1 zs):=(hR1.low (by first | exact hC2.2.2.1.lt | exact hz0));obtain ⟨p0,p1,p2,p3⟩:=hC1.1;obtain ⟨_,_,pf2,pf3,_,_⟩:=hC1.2.1;have pz:=hC1.1.lt;clear hR1)
   | (go_at_call 108;refine (C2.out _ (by first | exact hC1.2.2.2.2 | exact Qf HS0.out.2.2.2.2)).mono ?_;rintro e w2 ⟨a2,k2,rfl,hR2,hb2⟩;have hC2:CPW w w2 (.int .i64 W) (.int .i64 H) (.slice a m ca) (.slice b n cb):=(by first | exact CPW.kept hC1 hb2 | exact CPW.kept (HS0.out.kept (Qf (Qc _))) hb2);have HR2:Hid (RowF w2 (w.heap.size+1+1) a2 ks):=(hR2.low (by first | exact hC1.2.2.1.lt | exact hz0));obtain ⟨q0,q1,q2,q3⟩:=hC2.1;obtain ⟨_,_,qf2,qf3,_,_⟩:=hC2.2.1;have qz:=hC2.1.lt;clear hR2))
  all_goals
   go_wp2
   go_meet
   case rel =>
    refine ⟨a1,k1,a2,k2,?_,?_,?_⟩
    ·first|exact hC2.set _ _|exact hC1.set _ _
    ·first|exact ((HR1.out.kept hb2).set (by dsimp only;omega)).set (by dsimp only;omega)|exact (HR1.out.set (by dsimp only;omega)).set (by dsimp only;omega)
    ·first|exact ((HR2.out.kept hb1).set (by dsimp only;omega)).set (by dsimp only;omega)|exact (HR2.out.set (by dsimp only;omega)).set (by dsimp only;omega)
 case rest =>
  clear s0 s1 s2 s3 HS0 hz0
  obtain ⟨a1,k1,a2,k2,hC,hR1,hR2⟩:=hcut
  have HF:Hid (CPW w wc (.int .i64 W) (.int .i64 H) (.slice a1 m k1) (.slice a2 n k2)∧RowF wc (w.heap.size+1+1) a1 zs∧RowF wc (w.heap.size+1+1) a2 ks):=⟨hC,hR1,hR2⟩
  obtain ⟨⟨c0,c1,c2,c3⟩,_,⟨d0,d1,d2,d3⟩,⟨g0,g1,g2,g3,_,_⟩,_⟩:=hC
  have z0:w.heap.size<wc.heap.size:=bk c0
  have z1:w.heap.size+1<wc.heap.size:=bk d0
  clear hR1 hR2
  go_wp2
  refine bodyPost_ret (v:=.agg #[.int .i64 W,.int .i64 H,.slice a1 m k1,.slice a2 n k2]) (by simp [results,Tryz.results72,go_sem,d0,d1,d2,d3]) rfl ⟨a1,k1,a2,k2,by rw [HM.out],?_,?_,?_⟩
  ·refine RowF.low (base:=w.heap.size+1+1) ?_ (by omega)
   refine RowF.set ?_ (by dsimp only;omega)
   refine RowF.set ?_ (by dsimp only;omega)
   refine RowF.set ?_ (by dsimp only;omega)
   refine RowF.set ?_ (by dsimp only;omega)
   exact HF.out.2.1
  ·refine RowF.low (base:=w.heap.size+1+1) ?_ (by omega)
   refine RowF.set ?_ (by dsimp only;omega)
   refine RowF.set ?_ (by dsimp only;omega)
   refine RowF.set ?_ (by dsimp only;omega)
   refine RowF.set ?_ (by dsimp only;omega)
   exact HF.out.2.2
  ·with_reducible repeat (first|exact HF.out.1.2.2.2.2|refine Ql ?_ ?_)
   all_goals (first|omega|(dsimp only;omega))
end Go.Proofs.YtgpjaecgkkgehaaGreatDoor
namespace Go.Proofs.YtgpjaecgkkgehaaGreatDoor
open Go.RowKit Go.ChangeMaps
theorem Place_no (W H:Int) (a c:Option Addr) (n1 n2 ca cc:Nat) (w:World) (hcall:∀W':World,Bl w W'→Calls Tryz.prog 65 #[.agg #[.int .i64 W,.int .i64 H,.slice a n1 ca,.slice c n2 cc]] W' fun e w'=>e=.returned (.tuple #[.agg #[.slice none 0 0,.map none,.map none],.bool false])∧Bl W' w') :
  Calls Tryz.prog 64 #[.agg #[.int .i64 W,.int .i64 H,.slice a n1 ca,.slice c n2 cc]] w fun e w'=>e=.returned (.tuple #[.slice none 0 0,.int .i64 10])∧Bl w w':=by
 have HC:Hid (∀W':World,Bl w W'→Calls Tryz.prog 65 #[.agg #[.int .i64 W,.int .i64 H,.slice a n1 ca,.slice c n2 cc]] W' fun e w'=>e=.returned (.tuple #[.agg #[.slice none 0 0,.map none,.map none],.bool false])∧Bl W' w'):=hcall
 clear hcall
 go_enter Tryz.func64,Tryz.ntmps64
 go_wp2_with (go_at_call 65;refine (HC.out _ (by with_reducible exact Qb (Qc _))).mono ?_;rintro e w2 ⟨rfl,hb⟩;have HB:Hid (Bl w w2):=Qe (Qb (Qc _)) hb;clear hb)
 exact bodyPost_ret (v:=.tuple #[.slice none 0 0,.int .i64 10]) (by simp [results,Tryz.results64,go_sem]) rfl ⟨rfl,by with_reducible repeat (first|exact HB.out|refine Qb ?_)⟩
def PlaceTo (kd:Int×Int×Int×Int→Int) (L:List (Int×Int×Int)) (w w':World) (e:Ending):Prop:=Bl w w'∧((∃M g,Cons kd L M∧e=.returned (.tuple #[.slice (some ⟨g,0,none⟩) L.length L.length,.int .i64 0])∧MRow w' g L.length M)∨((¬∃N,Cons kd L N)∧e=.returned (.tuple #[.slice none 0 0,.int .i64 8])))
theorem Place_yes (W H b off cap n ccap:Nat) (cb:Option Addr) (zs ks:List Int) (w:World) (hr:Row w (some ⟨b,off,none⟩) zs) (hW:1≤W∧W≤8) (hH:1≤H∧H≤8) (hl:zs.length=W*H) (hm:maskB zs=true) (hk:Row w cb ks) (hn:ks.length=n*5) (hn2:n≤3518437208883) (hs:Steps w) (hJ:Joined (ty zs W H)) (hC:∀i,i<n→CrOk (ty zs W H) ks i) :
  Calls Tryz.prog 64 #[.agg #[.int .i64 (W:Int),.int .i64 (H:Int),.slice (some ⟨b,off,none⟩) zs.length cap,.slice cb n ccap]] w fun e w'=>PlaceTo (kdn ks n) (ty zs W H) w w' e:=by
 have CL:Hid (∀W':World,Bl w W'→Calls Tryz.prog 65 #[.agg #[.int .i64 (W:Int),.int .i64 (H:Int),.slice (some ⟨b,off,none⟩) zs.length cap,.slice cb n ccap]] W' fun e w'=>∃ad cc base ra rk,e=.returned (.tuple #[.agg #[.slice ad (ty zs W H).length cc,.map (some ra),.map (some rk)],.bool true])∧PK W' w' base ra rk (.slice ad (ty zs W H).length cc) (ty zs W H) (gix (ty zs W H)) (kf ks n)):=fun W' hW'=>lay_yes W H b off cap n ccap cb zs ks W' (hr.kept hW') hW hH hl hm (hk.kept hW') hn hn2 (hs.kept hW') hJ hC
 have hlen:(ty zs W H).length≤300:=by have:=Jn zs W H hW.2;omega
 have CP:Hid (∀(W':World) (ad:Option Addr) (cc ra rk:Nat),Bl w W'→PA W' ad ra (ty zs W H)→KL W' rk (kdn ks n)→Calls Tryz.prog 96 #[.agg #[.slice ad (ty zs W H).length cc,.map (some ra),.map (some rk)]] W' fun e w'=>PlaceTo (kdn ks n) (ty zs W H) W' w' e):=fun W' ad cc ra rk hW' hp hkl=>(placesOf_any W' cc ra rk ad _ (kdn ks n) (hs.kept hW') hp hkl hJ hlen (Jl zs W H) (ty_bd hW.2 hH.2)).mono fun e w' ⟨h1,h2⟩=>⟨h1,h2.imp (fun ⟨M,c1,c2,c3⟩=>⟨M,_,c1,c2,c3⟩) id⟩
 obtain ⟨L,hL⟩:∃L,L=ty zs W H:=⟨_,rfl⟩
 rw [←hL] at CL CP hlen
 rw [←hL]
 clear hr hk hl hm hW hH hn hs hJ hC hL
 go_enter Tryz.func64,Tryz.ntmps64
 go_wp2_with (first
  | (go_at_call 65;refine (CL.out _ (by with_reducible exact Qb (Qc _))).mono ?_;rintro e w2 ⟨ad,cc,base,ra,rk,rfl,hpk⟩;have HB:Hid (Bl w w2):=Qe (Qb (Qc _)) hpk.2.2.2.2;have HPK:Hid (PA w2 ad ra L∧KL w2 rk (kdn ks n)):=⟨hpk.pa,hpk.kl⟩;clear hpk)
  | (go_at_call 96;refine (CP.out _ ad cc ra rk (by with_reducible exact Qb HB.out) (HPK.out.1.kept (by with_reducible exact Qb (Qc _))) (HPK.out.2.kept (by with_reducible exact Qb (Qc _)))).mono ?_;rintro e w3 ⟨hb3,h3⟩;have HB3:Hid (Bl w w3):=Qe (Qb HB.out) hb3;have H3:Hid ((∃M g,Cons (kdn ks n) L M∧e=.returned (.tuple #[.slice (some ⟨g,0,none⟩) L.length L.length,.int .i64 0])∧MRow w3 g L.length M)∨((¬∃N,Cons (kdn ks n) L N)∧e=.returned (.tuple #[.slice none 0 0,.int .i64 8]))):=h3;clear hb3 h3;rcases H3.out with ⟨M,g,hc,rfl,hr⟩ | ⟨hno,rfl⟩))
 ·exact bodyPost_ret (v:=.tuple #[.slice (some ⟨g,0,none⟩) L.length L.length,.int .i64 0]) (by simp [results,Tryz.results64,go_sem]) rfl ⟨HB3.out,Or.inl ⟨M,g,hc,rfl,hr⟩⟩
 ·exact bodyPost_ret (v:=.tuple #[.slice none 0 0,.int .i64 8]) (by simp [results,Tryz.results64,go_sem]) rfl ⟨HB3.out,Or.inr ⟨hno,rfl⟩⟩
end Go.Proofs.YtgpjaecgkkgehaaGreatDoor
namespace Go.Proofs.YtgpjaecgkkgehaaGreatDoor
open Go.RowKit
def sel (L:List (Int×Int×Int)) (who:Nat→Nat) (i:Nat):Nat→List (Int×Int×Int)
 | 0=>[]
 | k+1=>if who k=i then sel L who i k++[L.getD k (0,0,0)] else sel L who i k
def rfs (L:List (Int×Int×Int)) (who:Nat→Nat):Nat→List (List (Int×Int×Int))
 | 0=>[]
 | i+1=>if who i=i then rfs L who i++[sel L who i L.length] else rfs L who i
theorem sel_le (L:List (Int×Int×Int)) (who:Nat→Nat) (i:Nat):∀k,(sel L who i k).length≤k
 | 0=>by simp [sel]
 | k+1=>by
  have:=sel_le L who i k
  unfold sel
  split
  ·simp
   omega
  ·omega
theorem rfs_le (L:List (Int×Int×Int)) (who:Nat→Nat):∀i,(rfs L who i).length≤i
 | 0=>by simp [rfs]
 | i+1=>by
  have:=rfs_le L who i
  unfold rfs
  split
  ·simp
   omega
  ·omega
theorem World_own_le {w:World} {base base' size n:Nat} {e:TypeId} {v:Value} {xs:List Value} (h:w.ownsRow base e size v n xs) (hb:base'≤base):w.ownsRow base' e size v n xs:=by
 refine ⟨h.1,h.2.imp id ?_⟩
 rintro ⟨g,cap,cur,h1,h2,h3⟩
 exact ⟨g,cap,cur,h1,Nat.le_trans hb h2,h3⟩
theorem NestV.add {w w':World} {base:Nat} {v v' fv:Value} {F:List (List (Int×Int×Int))} {vs:List Value} {f:List (Int×Int×Int)} (h:NestV w base v F vs) (hf:w.ownsRow base 56 3 fv f.length (flatV f)) (hfn:∀n (hn:n<vs.length),∀b,fv.ownBlock=some b→vs[n].ownBlock≠some b)
  (ho:w'.ownsRow base 57 1 v' (F.length+1) (vs++[fv])) (hg:w.grownBy w' v.ownBlock):NestV w' base v' (F++[f]) (vs++[fv]):=by
 have hfa:fv.ownBlock=none∨fv.ownBlock≠v.ownBlock:=by
  cases e:fv.ownBlock with
  | none=>exact Or.inl rfl
  | some b =>
   right
   intro e2
   obtain ⟨c1,g1⟩:=own_type hf b e
   obtain ⟨c2,g2⟩:=own_type h.2.1 b e2.symm
   rw [g1] at g2
   simp at g2
 refine ⟨by simp [h.1],by simpa using ho,fun n h1 h2=>?_,fun n m h1 h2 hne b hb=>?_⟩
 ·by_cases hn:n<vs.length
  ·have hn2:n<F.length:=by rw [←h.1];exact hn
   rw [List.getElem_append_left hn,List.getElem_append_left hn2]
   exact (h.2.2.1 n hn hn2).kept hg (h.apart hn)
  ·have e1:n=vs.length:=by simp at h1;omega
   have e2:n=F.length:=by rw [e1,h.1]
   have q1:(vs++[fv])[n]=fv:=by subst e1;simp
   have q2:(F++[f])[n]=f:=by subst e2;simp
   rw [q1,q2]
   exact hf.kept hg hfa
 ·by_cases hn:n<vs.length
  ·rw [List.getElem_append_left hn] at hb
   by_cases hm:m<vs.length
   ·rw [List.getElem_append_left hm]
    exact h.2.2.2 n m hn hm hne b hb
   ·have e1:m=vs.length:=by simp at h2;omega
    have q1:(vs++[fv])[m]=fv:=by subst e1;simp
    rw [q1]
    exact fun q=>hfn n hn b q hb
  ·have e1:n=vs.length:=by simp at h1;omega
   have q1:(vs++[fv])[n]=fv:=by subst e1;simp
   rw [q1] at hb
   have hm:m<vs.length:=by simp at h2;omega
   rw [List.getElem_append_left hm]
   exact hfn m hm b hb
theorem refFaces_any (W H b off cap n ccap:Nat) (cb:Option Addr) (zs ks:List Int) (w:World) (hr:Row w (some ⟨b,off,none⟩) zs) (hW:1≤W∧W≤8) (hH:1≤H∧H≤8) (hl:zs.length=W*H) (hm:maskB zs=true) (hCR:CRow w cb ks n) (hC1:CrOne ks n) (hn2:n≤3518437208883) :
  Calls Tryz.prog 13 #[.agg #[.int .i64 (W:Int),.int .i64 (H:Int),.slice (some ⟨b,off,none⟩) zs.length cap,.slice cb n ccap]] w fun e w'=>∃v who,e=.returned v∧(InvC (fun e=>decide (kdn ks n e=0)) (ty zs W H) who∧∀i e,i<(ty zs W H).length→e<3→OkC (fun e=>decide (kdn ks n e=0)) (ty zs W H) who i e)∧Nest w' w.heap.size v (rfs (ty zs W H) who (ty zs W H).length)∧Bl w w':=by
 have C29:Hid (∀W':World,Bl w W'→Calls Tryz.prog 38 #[.agg #[.int .i64 (W:Int),.int .i64 (H:Int),.slice (some ⟨b,off,none⟩) zs.length cap,.slice cb n ccap]] W' fun e w'=>∃v,e=.returned v∧w'.ownsRow (W'.heap.size+1) 56 3 v (ty zs W H).length (flatV (ty zs W H))∧Bl W' w'):=fun W' hW'=>Jw W H b off cap zs (.slice cb n ccap) W' (hr.kept hW') hW hH hl hm
 have C30:Hid (∀W':World,Bl w W'→Calls Tryz.prog 46 #[.agg #[.int .i64 (W:Int),.int .i64 (H:Int),.slice (some ⟨b,off,none⟩) zs.length cap,.slice cb n ccap],.bool false] W' fun e w'=>∃g who,e=.returned (.slice (some ⟨g,0,none⟩) (ty zs W H).length (ty zs W H).length)∧WRow w' g (ty zs W H).length who∧InvC (fun e=>decide (kdn ks n e=0)) (ty zs W H) who∧(∀i e,i<(ty zs W H).length→e<3→OkC (fun e=>decide (kdn ks n e=0)) (ty zs W H) who i e)∧Bl W' w'):=fun W' hW'=>groupsC_any W H b off cap n ccap cb zs ks W' (hr.kept hW') hW hH hl hm (hCR.kept2 hW') hC1 hn2
 have hlen:(ty zs W H).length≤256:=by have:=Jn zs W H hW.2;omega
 obtain ⟨iS,hi1,hz10,hz11,hz12⟩:=info_parts infS
 have HI1:Hid (Tryz.prog.info? 57=some iS∧iS.zero=some (.slice none 0 0)∧iS.size=1∧iS.bytes=24):=⟨hi1,hz10,hz11,hz12⟩
 obtain ⟨iT,hi2,hz20,hz21,hz22⟩:=info_parts infT
 have HI2:Hid (Tryz.prog.info? 56=some iT∧iT.zero=some (.agg #[.int .i64 0,.int .i64 0,.int .i64 0])∧iT.size=3∧iT.bytes=24):=⟨hi2,hz20,hz21,hz22⟩
 obtain ⟨L,hL⟩:∃L,L=ty zs W H:=⟨_,rfl⟩
 rw [←hL] at C29 C30 hlen
 rw [←hL]
 clear hr hW hH hl hm hCR hC1 hL hi1 hz10 hz11 hz12 hi2 hz20 hz21 hz22
 obtain ⟨zl,hzl⟩:∃n,n=zs.length:=⟨_,rfl⟩
 rw [←hzl] at C29 C30 ⊢
 clear hzl
 go_enter Tryz.func13,Tryz.ntmps13
 go_wp2_with (first
  | (go_at_call 38;refine (C29.out _ (by with_reducible exact Qb (Qc _))).mono ?_;rintro e w1 ⟨v,rfl,ho,hb⟩;obtain ⟨a,ca,rfl,hT⟩:=Jk ho;have HW:Hid (TRow w1 a L∧Bl w w1):=⟨hT,Qe (Qb (Qc _)) hb⟩;have p0:w1.cell? ⟨w.heap.size,0,none⟩=some (.int .i64 (W:Int)):=Qa hb (by simp [go_sem]);have p1:w1.cell? ⟨w.heap.size,1,none⟩=some (.int .i64 (H:Int)):=Qa hb (by simp [go_sem]);have p2:w1.cell? ⟨w.heap.size,2,none⟩=some (.slice (some ⟨b,off,none⟩) zl cap):=Qa hb (by simp [go_sem]);have p3:w1.cell? ⟨w.heap.size,3,none⟩=some (.slice cb n ccap):=Qa hb (by simp [go_sem]);clear hT ho hb)
  | (go_at_call 46;refine (C30.out _ HW.out.2).mono ?_;rintro e w2 ⟨g,who,rfl,hR,hI,hO,hb⟩;have HG:Hid (TRow w2 a L∧WRow w2 g L.length who∧(InvC (fun e=>decide (kdn ks n e=0)) L who∧∀i e,i<L.length→e<3→OkC (fun e=>decide (kdn ks n e=0)) L who i e)∧Bl w w2):=⟨HW.out.1.kept hb,hR,⟨hI,hO⟩,Qe HW.out.2 hb⟩;clear hR hI hO hb))
 clear p0 p1 p2 p3 HW C29 C30
 go_loopg [5,6] L.length (fun gk s5 s6 wx=>∃i:Nat,i≤L.length∧gk=L.length-i∧s6=.int .i64 (i:Int)∧FW w2 wx s5 (rfs L who i))
 case atStart=>exact ⟨0,by omega,rfl,rfl,nest_nil _ _,Qc _⟩
 case round =>
  obtain ⟨i,hi,rfl,rfl,hF⟩:=hrel
  obtain ⟨vA,hvA⟩:∃u,u=u5:=⟨_,rfl⟩
  subst hvA
  have HF:Hid (FW w2 wr vA (rfs L who i)):=hF
  clear hF
  by_cases h1:i<L.length
  ·have i1:(i:Int)<(L.length:Int):=by omega
   have i0:(0:Int)≤(i:Int):=by omega
   have z0:=Qa HF.out.2 (HG.out.2.1 i h1).1
   have zz:g<wr.heap.size:=bk z0
   have hle:=rfs_le L who i
   by_cases hw:who i=i
   ·rw [hw] at z0
    have HN:Hid (rfs L who (i+1)=rfs L who i++[sel L who i L.length]):=by
     have:rfs L who (i+1)=rfs L who i++[sel L who i L.length]:=by rw [rfs,if_pos hw]
     exact this
    clear hw
    obtain ⟨WB,hWB⟩:∃W':World,W'=wr:=⟨_,rfl⟩
    have HF2:Hid (FW w2 WB vA (rfs L who i)):=by
     have:FW w2 WB vA (rfs L who i):=by rw [hWB];exact HF.out
     exact this
    have HWB:Hid (Bl WB wr):=by
     have:Bl WB wr:=by rw [hWB];exact Qc _
     exact this
    clear hWB HF
    go_wp2
    clear z0 zz
    go_loopg [7,8] L.length (fun gk s7 s8 wx=>∃k:Nat,k≤L.length∧gk=L.length-k∧s8=.int .i64 (k:Int)∧wx.ownsRow WB.heap.size 56 3 s7 (sel L who i k).length (flatV (sel L who i k))∧Bl WB wx)
    case atStart=>exact ⟨0,by omega,rfl,rfl,by simpa [sel,flatV] using World.ownsRow_nil _ _ _ _,HWB.out⟩
    case round =>
     clear HWB
     obtain ⟨k,hk,rfl,rfl,ho,hB⟩:=hrel
     obtain ⟨vB,hvB⟩:∃u,u=u7:=⟨_,rfl⟩
     subst hvB
     have HO:Hid (wr.ownsRow WB.heap.size 56 3 vB (sel L who i k).length (flatV (sel L who i k))∧Bl WB wr∧Bl w2 wr):=⟨ho,hB,Qe HF2.out.2 hB⟩
     clear ho hB
     have hsl:=sel_le L who i k
     by_cases hk1:k<L.length
     ·have k1:(k:Int)<(L.length:Int):=by omega
      have k0:(0:Int)≤(k:Int):=by omega
      have z0:=Qa HO.out.2.2 (HG.out.2.1 k hk1).1
      have zz:g<wr.heap.size:=bk z0
      obtain ⟨ga,rfl,t0,t1,t2⟩:=(HG.out.1.kept HO.out.2.2) k hk1
      obtain ⟨t,ht⟩:∃t,t=L[k]:=⟨_,rfl⟩
      obtain ⟨x,y,kk⟩:=t
      rw [←ht] at t0 t1 t2
      dsimp only at t0 t1 t2
      have zt:ga<wr.heap.size:=bk t0
      have HT:Hid (L.getD k (0,0,0)=(x,y,kk)):=by
       have:L.getD k (0,0,0)=(x,y,kk):=by rw [List.getD_eq_getElem?_getD,List.getElem?_eq_getElem hk1,ht];rfl
       exact this
      clear ht
      by_cases hw2:who k=i
      ·rw [hw2] at z0
       have HS:Hid (sel L who i (k+1)=sel L who i k++[(x,y,kk)]):=by
        have:sel L who i (k+1)=sel L who i k++[(x,y,kk)]:=by rw [sel,if_pos hw2,HT.out]
        exact this
       clear hw2
       go_wp2_with (at_builtin;refine wpList_append_own _ rfl (.tmp 37) (.tmp 42) 57 rfl WB.heap.size 56 iT (.agg #[.int .i64 0,.int .i64 0,.int .i64 0]) 3 24 Tryz.underlying57 HI2.out.1 HI2.out.2.1 HI2.out.2.2.1 HI2.out.2.2.2 rfl (by decide) vB (sel L who i k).length (flatV (sel L who i k)) rfl ?own ⟨wr.heap.size,0,none⟩ 1 1 [.int .i64 x,.int .i64 y,.int .i64 kk] rfl rfl ?c1 ?c2 ?b1 ?b2 ?b3 ?grow)
       case own=>exact Qs HO.out.1 (Qb (Qc _))
       case c1=>exact Q9 _ _ _ _
       case c2 =>
        intro u hu
        simp at hu
        rcases hu with rfl|rfl|rfl<;>rfl
       case b1 =>
        unfold maxLen
        omega
       case b2=>omega
       case b3 =>
        have:=HO.out.2.1.size
        simp
        omega
       case grow =>
        intro v' w3 hown hgrow hnil
        have HB3:Hid (Bl WB w3):=(Qb HO.out.2.1).grown hgrow (by have:=HO.out.2.1.size;simp;omega) (Q7 HO.out.1)
        have HO3:Hid (w3.ownsRow WB.heap.size 56 3 v' ((sel L who i k).length+1) (flatV (sel L who i k)++[.int .i64 x,.int .i64 y,.int .i64 kk])):=hown
        clear hown hgrow hnil
        go_wp2
        go_roundg (L.length-(k+1))
        case measure=>omega
        case rel =>
         refine ⟨k+1,by omega,rfl,by go_num,?_,HB3.out⟩
         rw [HS.out,flatV_snoc,List.length_append]
         exact HO3.out
      ·have hw3:¬(who k:Int)=(i:Int):=by omega
       have HS:Hid (sel L who i (k+1)=sel L who i k):=by
        have:sel L who i (k+1)=sel L who i k:=by rw [sel,if_neg hw2]
        exact this
       clear hw2
       go_wp2
       go_roundg (L.length-(k+1))
       case measure=>omega
       case rel =>
        refine ⟨k+1,by omega,rfl,by go_num,?_,HO.out.2.1⟩
        rw [HS.out]
        exact HO.out.1
     ·have k1:¬(k:Int)<(L.length:Int):=by omega
      obtain rfl:k=L.length:=by omega
      obtain ⟨a7,c7,rfl,hg7⟩:=own_form HO.out.1
      clear hg7
      obtain ⟨vs,hvs⟩:=HF2.out.1
      have HV:Hid (NestV wr w2.heap.size vA (rfs L who i) vs):=hvs.kept HO.out.2.1
      have HVB:Hid (NestV WB w2.heap.size vA (rfs L who i) vs):=hvs
      clear hvs
      go_wp2_with (at_builtin;refine wpList_append_own _ rfl (.tmp 44) (.tmp 46) 39 rfl w2.heap.size 57 iS (.slice none 0 0) 1 24 Tryz.underlying39 HI1.out.1 HI1.out.2.1 HI1.out.2.2.1 HI1.out.2.2.2 rfl (by decide) vA (rfs L who i).length vs rfl ?own ⟨wr.heap.size,0,none⟩ 1 1 [.slice a7 (sel L who i L.length).length c7] rfl rfl ?c1 ?c2 ?b1 ?b2 ?b3 ?grow)
      case own=>exact Qs HV.out.2.1 (Qb (Qc _))
      case c2=>rfl
      case b1 =>
       unfold maxLen
       omega
      case b2=>omega
      case b3 =>
       have:=HO.out.2.2.size
       simp
       omega
      case grow =>
       intro v' w3 hown hgrow hnil
       have HB3:Hid (Bl w2 w3):=(Qb HO.out.2.2).grown hgrow (by have:=HO.out.2.2.size;simp;omega) (Q7 HV.out.2.1)
       have hN:=(HV.out.kept (Qb (Qc _))).add (f:=sel L who i L.length) (World_own_le (Qs HO.out.1 (Qb (Qc _))) HF2.out.2.size) (fun q hq b' hb' e=>by
        have h8:=Q7 HO.out.1 b' hb'
        have h9:=((HVB.out.2.2.1 q hq (by rw [←HVB.out.1];exact hq)).lt b' e).2
        omega) hown hgrow
       have HN3:Hid (Nest w3 w2.heap.size v' (rfs L who i++[sel L who i L.length])):=⟨_,hN⟩
       clear hown hgrow hnil hN
       go_wp2
       go_roundg (L.length-(i+1))
       case measure=>omega
       case rel=>exact ⟨i+1,by omega,rfl,by go_num,by rw [HN.out];exact HN3.out,HB3.out⟩
   ·have hw3:¬(who i:Int)=(i:Int):=by omega
    have HN:Hid (rfs L who (i+1)=rfs L who i):=by
     have:rfs L who (i+1)=rfs L who i:=by rw [rfs,if_neg hw]
     exact this
    clear hw
    go_wp2
    go_roundg (L.length-(i+1))
    case measure=>omega
    case rel=>exact ⟨i+1,by omega,rfl,by go_num,by rw [HN.out];exact HF.out.1,HF.out.2⟩
  ·have i1:¬(i:Int)<(L.length:Int):=by omega
   obtain rfl:i=L.length:=by omega
   go_wp2
   exact bodyPost_ret (v:=vA) (by simp [results,Tryz.results13,go_sem]) rfl ⟨vA,rfl,who,HG.out.2.2.1,HF.out.1.mono HG.out.2.2.2.size,Qe HG.out.2.2.2 HF.out.2⟩
theorem adjC_le {cr:Int×Int×Int×Int→Bool} {L:List (Int×Int×Int)} {who:Nat→Nat} (hnd:L.Nodup) (hk:∀t∈L,Kd t) (hO:∀i e,i<L.length→e<3→OkC cr L who i e) {a b:Nat} (ha:a<L.length) (hb:b<L.length) (h:AdjC cr L[a] L[b]):who a≤who b:=by
 obtain ⟨hne,e,e1,e2,e3⟩:=h
 obtain ⟨k,hk3,hke⟩:=hasT_edg e1
 have h1:=hO a k ha hk3 ha (by rw [hke];exact e3) b hb
 apply h1
 rw [hke,←acr_is (hk _ (List.getElem_mem ha)) (hk _ (List.getElem_mem hb)) e1 e2 hne]
 unfold plc
 rw [if_pos (List.getElem_mem hb)]
 have:L.idxOf L[b]=b:=hnd.idxOf_getElem b hb
 rw [this]
theorem Xr {cr:Int×Int×Int×Int→Bool} {L:List (Int×Int×Int)} {f:Nat→Int} (hnd:L.Nodup) (hA:∀a b (ha:a<L.length) (hb:b<L.length),AdjC cr L[a] L[b]→f a=f b) {a b:Nat} (ha:a<L.length) (hb:b<L.length) (h:ReachC cr L L[a] L[b]):f a=f b:=by
 have h1:=h.2 (fun u=>u∈L∧∀c (hc:c<L.length),L[c]=u→f a=f c) ⟨List.getElem_mem ha,fun c hc e=>by
  have:c=a:=by rw [←hnd.idxOf_getElem c hc,e,hnd.idxOf_getElem a ha]
  rw [this]⟩ (fun u v hu hv huv=>by
  refine ⟨hv,fun c hc e=>?_⟩
  obtain ⟨d,hd,e2⟩:=List.getElem_of_mem hu.1
  have h3:=hu.2 d hd e2
  rw [h3]
  exact hA d c hd hc (by rw [e,e2];exact huv))
 exact h1.2 b hb rfl
theorem same_group {cr:Int×Int×Int×Int→Bool} {L:List (Int×Int×Int)} {who:Nat→Nat} {part:Nat→Int} (hnd:L.Nodup) (hk:∀t∈L,Kd t) (hP:PartsOk cr L part) (hI:InvC cr L who) (hO:∀i e,i<L.length→e<3→OkC cr L who i e) {a b:Nat} (ha:a<L.length) (hb:b<L.length):who a=who b↔part a=part b:=by
 have hw:∀a b (ha:a<L.length) (hb:b<L.length),AdjC cr L[a] L[b]→((who a:Int))=(who b:Int):=fun a b ha hb h=>by
  have h1:=adjC_le hnd hk hO ha hb h
  have h2:=adjC_le hnd hk hO hb ha h.symm
  omega
 constructor
 ·intro e
  obtain ⟨_,q1,r1⟩:=hI a ha
  obtain ⟨_,q2,r2⟩:=hI b hb
  have r3:ReachC cr L L[a] L[b]:=by
   have r2':=r2.symm
   have e2:L[who b]=L[who a]:=by simp only [e]
   rw [e2] at r2'
   exact r1.trans r2'
  exact Xr hnd (fun a b ha hb h=>(hP.2.1 a b ha hb h).symm) ha hb r3
 ·intro e
  have h1:=Xr (f:=fun a=>(who a:Int)) hnd hw ha hb (hP.2.2.1 a b ha hb e)
  omega
theorem first_group {cr:Int×Int×Int×Int→Bool} {L:List (Int×Int×Int)} {who:Nat→Nat} {part:Nat→Int} (hnd:L.Nodup) (hk:∀t∈L,Kd t) (hP:PartsOk cr L part) (hI:InvC cr L who) (hO:∀i e,i<L.length→e<3→OkC cr L who i e) {i:Nat} (hi:i<L.length):who i=i↔∀b,b<i→part b≠part i:=by
 constructor
 ·intro e b hb he
  have h1:=(same_group hnd hk hP hI hO (by omega:b<L.length) hi).2 he
  have h2:=(hI b (by omega)).1
  omega
 ·intro h
  obtain ⟨h1,q,r⟩:=hI i hi
  rcases Nat.lt_or_ge (who i) i with h2|h2
  ·have h3:=Xr hnd (fun a b ha hb h=>(hP.2.1 a b ha hb h).symm) hi q r
   exact absurd h3.symm (h _ h2)
  ·omega
def selP (L:List (Int×Int×Int)) (part:Nat→Int) (c:Int):Nat→List (Int×Int×Int)
 | 0=>[]
 | k+1=>if part k=c then selP L part c k++[L.getD k (0,0,0)] else selP L part c k
theorem sel_selP {L:List (Int×Int×Int)} {who:Nat→Nat} {part:Nat→Int} {i:Nat} {c:Int}:∀k,(∀a,a<k→(who a=i↔part a=c))→sel L who i k=selP L part c k
 | 0,_=>rfl
 | k+1,h=>by
  unfold sel selP
  rw [sel_selP k (fun a ha=>h a (by omega))]
  by_cases e:who k=i
  ·rw [if_pos e,if_pos ((h k (by omega)).1 e)]
  ·rw [if_neg e,if_neg (fun q=>e ((h k (by omega)).2 q))]
theorem selP_none {L:List (Int×Int×Int)} {part:Nat→Int} {c:Int}:∀k,(∀a,a<k→part a≠c)→selP L part c k=[]
 | 0,_=>rfl
 | k+1,h=>by
  unfold selP
  rw [if_neg (h k (by omega)),selP_none k (fun a ha=>h a (by omega))]
theorem fcs_eq {L:List (Int×Int×Int)} {part:Nat→Int} {n:Nat} (h:NumOk part n):∀i,i≤n→fcs L part i=(List.range (fcs L part i).length).map fun c:Nat=>selP L part (c:Int) i
 | 0,_=>by simp [fcs]
 | i+1,hi=>by
  have ih:=fcs_eq (L:=L) h i (by omega)
  obtain ⟨h1,h2⟩:=fcs_has L part h i (by omega)
  have h3:=h2 (by omega)
  have h0:=h.1 i (by omega)
  obtain ⟨p,hp⟩:∃p:Nat,part i=(p:Int):=⟨(part i).toNat,by omega⟩
  have hpn:(part i).toNat=p:=by omega
  have hl:(fcs L part (i+1)).length=if p=(fcs L part i).length then (fcs L part i).length+1 else (fcs L part i).length:=by rw [fcs,putF_len,hpn]
  refine List.ext_getElem (by simp) (fun m hm1 hm2=>?_)
  rw [List.getElem_map,List.getElem_range]
  have hs:selP L part (m:Int) (i+1)=if p=m then selP L part (m:Int) i++[L.getD i (0,0,0)] else selP L part (m:Int) i:=by
   rw [selP]
   by_cases e:p=m
   ·rw [if_pos (by omega),if_pos e]
   ·rw [if_neg (by omega),if_neg e]
  rw [hs]
  have hg:∀(q:m<(fcs L part i).length),(fcs L part i)[m]=selP L part (m:Int) i:=fun q=>by
   have:=congrArg (fun l=>l[m]?) ih
   simp only [List.getElem?_map] at this
   rw [List.getElem?_eq_getElem q,List.getElem?_range q] at this
   simpa using this
  have hgg:∀(q:m<(grwF (fcs L part i) p).length),(grwF (fcs L part i) p)[m]=selP L part (m:Int) i:=fun q=>by
   by_cases e:m<(fcs L part i).length
   ·rw [←hg e]
    simp only [grwF]
    split
    ·exact List.getElem_append_left e
    ·rfl
   ·have q2:=q
    rw [grwF_len] at q2
    have e2:p=(fcs L part i).length:=by
     by_cases e3:p=(fcs L part i).length
     ·exact e3
     ·rw [if_neg e3] at q2
      omega
    rw [if_pos e2] at q2
    have e4:m=(fcs L part i).length:=by omega
    rw [selP_none i (fun a ha q3=>by have:=h1 a ha;omega)]
    simp only [grwF,if_pos e2]
    subst e4
    simp
  have hm3:m<(grwF (fcs L part i) p).length:=by
   rw [grwF_len,←hl]
   exact hm1
  simp only [fcs,putF,hpn]
  by_cases e:p=m
  ·subst e
   rw [if_pos rfl,List.getElem_set_self,List.getD_eq_getElem?_getD,List.getElem?_eq_getElem hm3,Option.getD_some,hgg hm3]
  ·rw [if_neg e,List.getElem_set_ne e,hgg hm3]
theorem fcs_come (L:List (Int×Int×Int)) (part:Nat→Int) {n:Nat} (h:NumOk part n):∀i,i≤n→∀c:Nat,c<(fcs L part i).length→∃b,b<i∧part b=(c:Int)
 | 0,_,c,hc=>by simp [fcs] at hc
 | i+1,hi,c,hc=>by
  have h0:=h.1 i (by omega)
  have h3:=(fcs_has L part h i (by omega)).2 (by omega)
  rw [fcs,putF_len] at hc
  by_cases e:c<(fcs L part i).length
  ·obtain ⟨b,hb,he⟩:=fcs_come L part h i (by omega) c e
   exact ⟨b,by omega,he⟩
  ·split at hc
   ·exact ⟨i,by omega,by omega⟩
   ·omega
theorem rfs_eq {cr:Int×Int×Int×Int→Bool} {L:List (Int×Int×Int)} {who:Nat→Nat} {part:Nat→Int} (hnd:L.Nodup) (hk:∀t∈L,Kd t) (hP:PartsOk cr L part) (hI:InvC cr L who) (hO:∀i e,i<L.length→e<3→OkC cr L who i e):∀i,i≤L.length→rfs L who i=(List.range (fcs L part i).length).map fun c:Nat=>selP L part (c:Int) L.length
 | 0,_=>by simp [rfs,fcs]
 | i+1,hi=>by
  have ih:=rfs_eq hnd hk hP hI hO i (by omega)
  have h0:=hP.1 i (by omega)
  obtain ⟨h1,h2⟩:=fcs_has L part hP.num i (by omega)
  have h3:=h2 (by omega)
  have hl:(fcs L part (i+1)).length=if (part i).toNat=(fcs L part i).length then (fcs L part i).length+1 else (fcs L part i).length:=by rw [fcs,putF_len]
  by_cases e:(part i).toNat=(fcs L part i).length
  ·rw [if_pos e] at hl
   have hw:who i=i:=(first_group hnd hk hP hI hO (by omega)).2 (fun b hb q=>by have:=h1 b hb;omega)
   rw [rfs,if_pos hw,ih,hl,List.range_succ,List.map_append]
   congr 1
   simp only [List.map_cons,List.map_nil]
   congr 1
   refine sel_selP L.length (fun a ha=>?_)
   have h5:=same_group hnd hk hP hI hO ha (by omega:i<L.length)
   rw [hw] at h5
   rw [h5]
   constructor
   ·intro q
    omega
   ·intro q
    omega
  ·rw [if_neg e] at hl
   have hw:¬who i=i:=fun q=>by
    obtain ⟨b,hb,he⟩:=fcs_come L part hP.num i (by omega) (part i).toNat (by omega)
    exact (first_group hnd hk hP hI hO (by omega)).1 q b hb (by omega)
   rw [rfs,if_neg hw,ih,hl]
theorem faces_same {cr:Int×Int×Int×Int→Bool} {L:List (Int×Int×Int)} {who:Nat→Nat} {part:Nat→Int} (hnd:L.Nodup) (hk:∀t∈L,Kd t) (hP:PartsOk cr L part) (hI:InvC cr L who) (hO:∀i e,i<L.length→e<3→OkC cr L who i e):fcs L part L.length=rfs L who L.length:=by
 rw [rfs_eq hnd hk hP hI hO L.length (Nat.le_refl _)]
 exact fcs_eq hP.num L.length (Nat.le_refl _)
end Go.Proofs.YtgpjaecgkkgehaaGreatDoor
