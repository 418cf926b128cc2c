/- A part of the proof of stackLays_holds. -/
import Derived.Test.YtgpjaecgkkgehaaGreatDoorQlbj
import Derived.Test.YtgpjaecgkkgehaaGreatDoorQlbm
import Derived.Test.YtgpjaecgkkgehaaGreatDoorQlbu
set_option maxRecDepth 100000
set_option maxHeartbeats 40000000
namespace Go.Proofs.YtgpjaecgkkgehaaGreatDoor
open Go.RowKit Go.ChangeMaps
structure PileAt (w:World) (ad:Option Addr) (cc ra rk gm cm:Nat) (pa:Option Addr) (pc:Nat) (L:List (Int×Int×Int)) (kd:Int×Int×Int×Int→Int) (M:Nat→M6):Prop where
 tr:PA w ad ra L
 kl:KL w rk kd
 mr:MRow w gm L.length M
 pl:TRow w pa (pls L M L.length)
theorem PileAt.kept {w w':World} {ad:Option Addr} {cc ra rk gm cm:Nat} {pa:Option Addr} {pc:Nat} {L:List (Int×Int×Int)} {kd:Int×Int×Int×Int→Int} {M:Nat→M6} (h:PileAt w ad cc ra rk gm cm pa pc L kd M) (hb:Bl w w'):PileAt w' ad cc ra rk gm cm pa pc L kd M:=⟨h.tr.kept hb,h.kl.kept hb,h.mr.kept hb,h.pl.kept hb⟩
def pileV (ad:Option Addr) (n cc ra rk gm cm:Nat) (pa:Option Addr) (pc:Nat):Value:=.agg #[.slice ad n cc,.map (some ra),.map (some rk),.slice (some ⟨gm,0,none⟩) n cm,.slice pa n pc]
def PlacedTo (kd:Int×Int×Int×Int→Int) (L:List (Int×Int×Int)) (w w':World) (e:Ending):Prop:=Bl w w'∧((∃M ad cc ra rk gm cm pa pc,Cons kd L M∧e=.returned (.tuple #[pileV ad L.length cc ra rk gm cm pa pc,.int .i64 0])∧PileAt w' ad cc ra rk gm cm pa pc L kd M)∨((¬∃N,Cons kd L N)∧e=.returned (.tuple #[.agg #[.slice none 0 0,.map none,.map none,.slice none 0 0,.slice none 0 0],.int .i64 8])))
def set5 (w:World) (b:Nat) (u0 u1 u2 u3 u4:Value):World:=((((w.setCell ⟨b,0,none⟩ u0).setCell ⟨b,1,none⟩ u1).setCell ⟨b,2,none⟩ u2).setCell ⟨b,3,none⟩ u3).setCell ⟨b,4,none⟩ u4
theorem set5_grown (w:World) (b:Nat) (u0 u1 u2 u3 u4:Value):w.grownBy (set5 w b u0 u1 u2 u3 u4) (some b):=Qy (Qy (Qy (Qy (Qm _ _ _ _) (Qm _ _ _ _)) (Qm _ _ _ _)) (Qm _ _ _ _)) (Qm _ _ _ _)
theorem MRow.not_at {w:World} {g n b:Nat} {M:Nat→M6} (h:MRow w g n M) (h0:0<n) (hc:w.cell? ⟨b,0,none⟩=some (.slice none 0 0)):some g≠some b:=fun e=>by
 cases e
 have:=(h 0 h0).1.1
 rw [Nat.zero_mul,hc] at this
 cases this
theorem TRow.not_at {w:World} {pa:Option Addr} {l:List (Int×Int×Int)} {b:Nat} (h:TRow w pa l) (h0:0<l.length) (hc:w.cell? ⟨b,0,none⟩=some (.slice none 0 0)):∀g,pa=some ⟨g,0,none⟩→g≠b:=fun g e e2=>by
 obtain ⟨g',e',c0,_⟩:=h 0 h0
 rw [e] at e'
 cases e'
 subst e2
 rw [Nat.zero_mul,hc] at c0
 cases c0
theorem TRow.grown {w w':World} {pa:Option Addr} {l:List (Int×Int×Int)} {b:Nat} (h:TRow w pa l) (hg:w.grownBy w' (some b)) (hn:∀g,pa=some ⟨g,0,none⟩→g≠b):TRow w' pa l:=fun i hi=>by
 obtain ⟨g,e,c0,c1,c2⟩:=h i hi
 have hne:some g≠some b:=fun e2=>hn g e (by simpa using e2)
 exact ⟨g,e,hg.cell c0 hne,hg.cell c1 hne,hg.cell c2 hne⟩
theorem placed_yes (W H b off cap n ccap:Nat) (cb:Option Addr) (zs ks:List Int) (w:World) (hr:Row w (some ⟨b,off,none⟩) zs) (hW:1≤W∧W≤8) (hH:1≤H∧H≤8) (hl:zs.length=W*H) (hm:maskB zs=true) (hk:Row w cb ks) (hn:ks.length=n*5) (hn2:n≤3518437208883) (hs:Steps w) (hJ:Joined (ty zs W H)) (hC:∀i,i<n→CrOk (ty zs W H) ks i) :
  Calls Tryz.prog 28 #[.agg #[.int .i64 (W:Int),.int .i64 (H:Int),.slice (some ⟨b,off,none⟩) zs.length cap,.slice cb n ccap]] w fun e w'=>PlacedTo (kdn ks n) (ty zs W H) w w' e:=by
 have CL:Hid (∀W':World,Bl w W'→Calls Tryz.prog 65 #[.agg #[.int .i64 (W:Int),.int .i64 (H:Int),.slice (some ⟨b,off,none⟩) zs.length cap,.slice cb n ccap]] W' fun e w'=>∃ad cc base ra rk,e=.returned (.tuple #[.agg #[.slice ad (ty zs W H).length cc,.map (some ra),.map (some rk)],.bool true])∧PK W' w' base ra rk (.slice ad (ty zs W H).length cc) (ty zs W H) (gix (ty zs W H)) (kf ks n)):=fun W' hW'=>lay_yes W H b off cap n ccap cb zs ks W' (hr.kept hW') hW hH hl hm (hk.kept hW') hn hn2 (hs.kept hW') hJ hC
 have CP:Hid (∀W':World,Bl w W'→Calls Tryz.prog 64 #[.agg #[.int .i64 (W:Int),.int .i64 (H:Int),.slice (some ⟨b,off,none⟩) zs.length cap,.slice cb n ccap]] W' fun e w'=>PlaceTo (kdn ks n) (ty zs W H) W' w' e):=fun W' hW'=>Place_yes W H b off cap n ccap cb zs ks W' (hr.kept hW') hW hH hl hm (hk.kept hW') hn hn2 (hs.kept hW') hJ hC
 have hlen:(ty zs W H).length≤300:=by have:=Jn zs W H hW.2;omega
 have hnd:=Jl zs W H
 have hbd:=ty_bd (zs:=zs) hW.2 hH.2
 have HS:Hid (Steps w):=hs
 obtain ⟨L,hL⟩:∃L,L=ty zs W H:=⟨_,rfl⟩
 rw [←hL] at CL CP hlen hnd hbd hJ
 rw [←hL]
 have HJ:Hid (Joined L∧L.Nodup∧∀t∈L,(0≤t.1∧t.1≤8)∧(0≤t.2.1∧t.2.1≤8)∧(0≤t.2.2∧t.2.2≤3)):=⟨hJ,hnd,hbd⟩
 clear hr hk hl hm hW hH hn hs hJ hC hL hnd hbd
 go_enter Tryz.func28,Tryz.ntmps28
 go_upto_region 2 with (go_at_call 64;refine (CP.out _ (by with_reducible exact Qb (Qb (Qc _)))).mono ?_;rintro e w2 ⟨hb2,h2⟩;have HB2:Hid (Below ((w.alloc (.cells #[.int .i64 (W:Int),.int .i64 (H:Int),.slice (some ⟨b,off,none⟩) zs.length cap,.slice cb n ccap] 25)).alloc (.cells #[.slice none 0 0,.map none,.map none,.slice none 0 0,.slice none 0 0] 70)).heap.size ((w.alloc (.cells #[.int .i64 (W:Int),.int .i64 (H:Int),.slice (some ⟨b,off,none⟩) zs.length cap,.slice cb n ccap] 25)).alloc (.cells #[.slice none 0 0,.map none,.map none,.slice none 0 0,.slice none 0 0] 70)) w2):=hb2;have H2:Hid ((∃M g,Cons (kdn ks n) L M∧e=.returned (.tuple #[.slice (some ⟨g,0,none⟩) L.length L.length,.int .i64 0])∧MRow w2 g L.length M)∨((¬∃N,Cons (kdn ks n) L N)∧e=.returned (.tuple #[.slice none 0 0,.int .i64 8]))):=h2;clear hb2 h2;rcases H2.out with ⟨M,gm,hc,rfl,hr⟩|⟨hno,rfl⟩)
 ·have HMR:Hid (MRow w2 gm L.length M∧Cons (kdn ks n) L M):=⟨hr,hc⟩
  clear hr hc H2 CP
  have s0:w2.cell? ⟨w.heap.size,0,none⟩=some (.int .i64 (W:Int)):=Qa HB2.out (by simp [go_sem])
  have s1:w2.cell? ⟨w.heap.size,1,none⟩=some (.int .i64 (H:Int)):=Qa HB2.out (by simp [go_sem])
  have s2:w2.cell? ⟨w.heap.size,2,none⟩=some (.slice (some ⟨b,off,none⟩) zs.length cap):=Qa HB2.out (by simp [go_sem])
  have s3:w2.cell? ⟨w.heap.size,3,none⟩=some (.slice cb n ccap):=Qa HB2.out (by simp [go_sem])
  have zS:w.heap.size<w2.heap.size:=bk s0
  have HBw:Hid (Bl w w2):=Qe (Qb (Qb (Qc _))) HB2.out
  go_upto_region 5 with (go_at_call 65;refine (CL.out _ HBw.out).mono ?_;rintro e w3 ⟨ad,cc,base,ra,rk,rfl,hpk⟩;have HB3:Hid (Bl w2 w3):=hpk.2.2.2.2;have HPK:Hid (PA w3 ad ra L∧KL w3 rk (kdn ks n)):=⟨hpk.pa,hpk.kl⟩;have HPX:Hid (PK w2 w3 base ra rk (.slice ad L.length cc) L (gix L) (kf ks n)):=hpk;clear hpk)
  clear s0 s1 s2 s3 zS
  have CS:Hid (∀W':World,Bl w3 W'→Calls Tryz.prog 66 #[.agg #[.slice ad L.length cc,.map (some ra),.map (some rk)],.slice (some ⟨gm,0,none⟩) L.length L.length] W' fun e w'=>∃pa pc,e=.returned (.tuple #[.agg #[.slice ad L.length cc,.map (some ra),.map (some rk),.slice (some ⟨gm,0,none⟩) L.length L.length,.slice pa L.length pc],.bool true])∧TRow w' pa (pls L M L.length)∧Bl W' w'):=fun W' hW'=>spread_pile W' cc ra rk gm L.length ad L (kdn ks n) M (HS.out.kept (Qe HBw.out (Qe HB3.out hW'))) (HPK.out.1.kept hW') (HPK.out.2.kept hW') hlen HJ.out.2.2 (HMR.out.1.kept (Qe HB3.out hW')) HMR.out.2 (cons_good HJ.out.1 HJ.out.2.1 hlen HJ.out.2.2 HMR.out.2)
  go_upto_region 6 with (go_at_call 66;refine (CS.out _ (by with_reducible exact Qb (Qc _))).mono ?_;rintro e w4 ⟨pa,pc,rfl,hT,hb4⟩;have HB4:Hid (Bl w3 w4∧TRow w4 pa (pls L M L.length)):=⟨Qe (Qb (Qc _)) hb4,hT⟩;clear hb4 hT)
  have HB5:Hid (Below ((w.alloc (.cells #[.int .i64 (W:Int),.int .i64 (H:Int),.slice (some ⟨b,off,none⟩) zs.length cap,.slice cb n ccap] 25)).alloc (.cells #[.slice none 0 0,.map none,.map none,.slice none 0 0,.slice none 0 0] 70)).heap.size ((w.alloc (.cells #[.int .i64 (W:Int),.int .i64 (H:Int),.slice (some ⟨b,off,none⟩) zs.length cap,.slice cb n ccap] 25)).alloc (.cells #[.slice none 0 0,.map none,.map none,.slice none 0 0,.slice none 0 0] 70)) w4):=Qe HB2.out (Qe HB3.out HB4.out.1)
  have d0:w4.cell? ⟨w.heap.size+1,0,none⟩=some (.slice none 0 0):=Qa HB5.out (by simp [go_sem])
  have d1:w4.cell? ⟨w.heap.size+1,1,none⟩=some (.map none):=Qa HB5.out (by simp [go_sem])
  have d2:w4.cell? ⟨w.heap.size+1,2,none⟩=some (.map none):=Qa HB5.out (by simp [go_sem])
  have d3:w4.cell? ⟨w.heap.size+1,3,none⟩=some (.slice none 0 0):=Qa HB5.out (by simp [go_sem])
  have d4:w4.cell? ⟨w.heap.size+1,4,none⟩=some (.slice none 0 0):=Qa HB5.out (by simp [go_sem])
  have k0:w4.frozen? ⟨w.heap.size+1,0,none⟩=false:=(Below.frozen HB5.out (by simp)).trans (by simp [go_sem])
  have k1:w4.frozen? ⟨w.heap.size+1,1,none⟩=false:=(Below.frozen HB5.out (by simp)).trans (by simp [go_sem])
  have k2:w4.frozen? ⟨w.heap.size+1,2,none⟩=false:=(Below.frozen HB5.out (by simp)).trans (by simp [go_sem])
  have k3:w4.frozen? ⟨w.heap.size+1,3,none⟩=false:=(Below.frozen HB5.out (by simp)).trans (by simp [go_sem])
  have k4:w4.frozen? ⟨w.heap.size+1,4,none⟩=false:=(Below.frozen HB5.out (by simp)).trans (by simp [go_sem])
  have zD:w.heap.size+1<w4.heap.size:=bk d0
  go_wp2
  refine bodyPost_ret (v:=.tuple #[pileV ad L.length cc ra rk gm L.length pa pc,.int .i64 0]) (by simp [pileV,results,Tryz.results28,go_sem, *]) rfl ⟨?_,Or.inl ⟨M,ad,cc,ra,rk,gm,L.length,pa,pc,HMR.out.2,rfl,?_⟩⟩
  ·have hbF:=Qe (Qb (Qb (Qc w))) HB5.out
   with_reducible repeat' (first|exact hbF|refine Ql ?_ ?_|refine Qb ?_|refine Qf ?_)
   all_goals (dsimp only;omega)
  ·have hgF:=Qy (set5_grown w4 (w.heap.size+1) (.slice ad L.length cc) (.map (some ra)) (.map (some rk)) (.slice (some ⟨gm,0,none⟩) L.length L.length) (.slice pa L.length pc)) (World.grownBy_alloc _ (.cells #[.slice ad L.length cc,.map (some ra),.map (some rk),.slice (some ⟨gm,0,none⟩) L.length L.length,.slice pa L.length pc] 70) (some (w.heap.size+1)))
   have hz:=HB2.out.size
   simp only [World.size_alloc] at hz
   have hpx:=HPX.out
   obtain ⟨_,_,_,⟨a1,a2,a3,a4,a5,a6,a7⟩,_⟩:=hpx
   have hpk:=(((HPX.out.base HBw.out).kept HB4.out.1).grown hgF (by omega) (by omega) (by omega) (by omega))
   have h0:0<L.length:=HJ.out.1.1
   exact ⟨hpk.pa,hpk.kl,(HMR.out.1.kept (Qe HB3.out HB4.out.1)).grown hgF ((HMR.out.1.kept (Qe HB3.out HB4.out.1)).not_at h0 d0),HB4.out.2.grown hgF (HB4.out.2.not_at (by rw [Xs];exact h0) d0)⟩
 ·clear H2 CP CL
  have d0:w2.cell? ⟨w.heap.size+1,0,none⟩=some (.slice none 0 0):=Qa HB2.out (by simp [go_sem])
  have d1:w2.cell? ⟨w.heap.size+1,1,none⟩=some (.map none):=Qa HB2.out (by simp [go_sem])
  have d2:w2.cell? ⟨w.heap.size+1,2,none⟩=some (.map none):=Qa HB2.out (by simp [go_sem])
  have d3:w2.cell? ⟨w.heap.size+1,3,none⟩=some (.slice none 0 0):=Qa HB2.out (by simp [go_sem])
  have d4:w2.cell? ⟨w.heap.size+1,4,none⟩=some (.slice none 0 0):=Qa HB2.out (by simp [go_sem])
  have k0:w2.frozen? ⟨w.heap.size+1,0,none⟩=false:=(Below.frozen HB2.out (by simp)).trans (by simp [go_sem])
  have k1:w2.frozen? ⟨w.heap.size+1,1,none⟩=false:=(Below.frozen HB2.out (by simp)).trans (by simp [go_sem])
  have k2:w2.frozen? ⟨w.heap.size+1,2,none⟩=false:=(Below.frozen HB2.out (by simp)).trans (by simp [go_sem])
  have k3:w2.frozen? ⟨w.heap.size+1,3,none⟩=false:=(Below.frozen HB2.out (by simp)).trans (by simp [go_sem])
  have k4:w2.frozen? ⟨w.heap.size+1,4,none⟩=false:=(Below.frozen HB2.out (by simp)).trans (by simp [go_sem])
  have zD:w.heap.size+1<w2.heap.size:=bk d0
  go_wp2
  refine bodyPost_ret (v:=.tuple #[.agg #[.slice none 0 0,.map none,.map none,.slice none 0 0,.slice none 0 0],.int .i64 8]) (by simp [results,Tryz.results28,go_sem, *]) rfl ⟨?_,Or.inr ⟨hno,rfl⟩⟩
  with_reducible repeat' (first|exact Qe (Qb (Qb (Qc _))) HB2.out|refine Ql ?_ ?_|refine Qf ?_|refine Qb ?_)
  all_goals (dsimp only;omega)
theorem mem_selP {L:List (Int×Int×Int)} {part:Nat→Int} {c:Int} {t:Int×Int×Int}:∀k,t∈selP L part c k↔∃j,j<k∧part j=c∧t=L.getD j (0,0,0)
 | 0=>by simp [selP]
 | k+1=>by
  have ih:=mem_selP (L:=L) (part:=part) (c:=c) (t:=t) k
  unfold selP
  by_cases e:part k=c
  ·rw [if_pos e,List.mem_append,ih]
   constructor
   ·rintro (⟨j,h1,h2,h3⟩|h)
    ·exact ⟨j,by omega,h2,h3⟩
    ·exact ⟨k,by omega,e,by simpa using h⟩
   ·rintro ⟨j,h1,h2,h3⟩
    by_cases q:j=k
    ·subst q
     exact Or.inr (by simpa using h3)
    ·exact Or.inl ⟨j,by omega,h2,h3⟩
  ·rw [if_neg e,ih]
   constructor
   ·rintro ⟨j,h1,h2,h3⟩
    exact ⟨j,by omega,h2,h3⟩
   ·rintro ⟨j,h1,h2,h3⟩
    refine ⟨j,?_,h2,h3⟩
    have:j≠k:=fun q=>e (q ▸ h2)
    omega
def FacesOk (L:List (Int×Int×Int)) (part:Nat→Int) (F:List (List (Int×Int×Int))):Prop :=
 (∀j,j<L.length→0≤part j∧part j<(F.length:Int))∧(∀i (hi:i<F.length) k (hk:k<F[i].length),∃j,∃hj:j<L.length,F[i][k]=L[j]∧part j=(i:Int)) ∧
 (∀j (hj:j<L.length) i (hi:i<F.length),part j=(i:Int)→∃k,∃hk:k<F[i].length,F[i][k]=L[j])∧∀c:Nat,c<F.length→∃b,b<L.length∧part b=(c:Int)
theorem faces_ok {cr:Int×Int×Int×Int→Bool} {L:List (Int×Int×Int)} {part:Nat→Int} (hP:PartsOk cr L part):FacesOk L part (fcs L part L.length):=by
 have h1:=fcs_has L part hP.num L.length (Nat.le_refl _)
 have h2:=fcs_eq (L:=L) hP.num L.length (Nat.le_refl _)
 have h3:=fcs_come L part hP.num L.length (Nat.le_refl _)
 obtain ⟨F,hF⟩:∃F,F=fcs L part L.length:=⟨_,rfl⟩
 rw [←hF] at h1 h2 h3 ⊢
 obtain ⟨m,hm⟩:∃m,m=F.length:=⟨_,rfl⟩
 rw [←hm] at h2
 have hg:∀i (hi:i<F.length),F[i]=selP L part (i:Int) L.length:=fun i hi=>by
  have e:F[i]?=some (selP L part (i:Int) L.length):=by
   rw [h2,List.getElem?_map,List.getElem?_range (by omega)]
   rfl
  rw [List.getElem?_eq_getElem hi] at e
  exact Option.some.inj e
 refine ⟨fun j hj=>⟨hP.1 j hj,h1.1 j hj⟩,fun i hi k hk=>?_,fun j hj i hi e=>?_,fun c hc=>h3 c hc⟩
 ·have hm:F[i][k]∈selP L part (i:Int) L.length:=by rw [←hg i hi];exact List.getElem_mem hk
  obtain ⟨j,h5,h6,h7⟩:=(mem_selP _).1 hm
  exact ⟨j,h5,by rw [h7,List.getD_eq_getElem?_getD,List.getElem?_eq_getElem h5];rfl,h6⟩
 ·have hm:L[j]∈F[i]:=by
   rw [hg i hi]
   exact (mem_selP _).2 ⟨j,hj,e,by rw [List.getD_eq_getElem?_getD,List.getElem?_eq_getElem hj];rfl⟩
  obtain ⟨k,hk,e2⟩:=List.getElem_of_mem hm
  exact ⟨k,hk,e2⟩
def NRe (w:World) (a:Option Addr) (F:List (List (Int×Int×Int))):Prop := ∀m (h:m<F.length),∃g a' c',a=some ⟨g,0,none⟩∧w.cell? ⟨g,m,none⟩=some (.slice a' F[m].length c')∧TRow w a' F[m]
theorem Nest.readE {w:World} {base:Nat} {v:Value} {F:List (List (Int×Int×Int))} (h:Nest w base v F):∃a c,v=.slice a F.length c∧NRe w a F:=by
 obtain ⟨vs,hv⟩:=h
 obtain ⟨a,c,rfl,hg⟩:=own_form hv.2.1
 refine ⟨a,c,rfl,fun m hm=>?_⟩
 obtain ⟨g,rfl⟩:=hg (by omega)
 have hm2:m<vs.length:=by rw [hv.1];exact hm
 obtain ⟨a',c',e,hT⟩:=Jk (hv.2.2.1 m hm2 hm)
 exact ⟨g,a',c',rfl,by rw [hv.2.1.cellAt m (by omega),List.getElem?_eq_getElem hm2,e],hT⟩
def HQ (L:List (Int×Int×Int)) (part:Nat→Int) (hs:List Int) (i:Nat) (hq:Nat→Int):Prop := ∀j,j<L.length→part j<(i:Int)→hq j=hs.getD (part j).toNat 0
def HQk (L:List (Int×Int×Int)) (f:List (Int×Int×Int)) (v:Int) (k:Nat) (hq:Nat→Int):Prop := ∀m (hm:m<f.length),m<k→∀j (hj:j<L.length),f[m]=L[j]→hq j=v
theorem hq_next {L:List (Int×Int×Int)} {part:Nat→Int} {hs:List Int} {F:List (List (Int×Int×Int))} {i:Nat} {hq:Nat→Int} (hF:FacesOk L part F) (hi:i<F.length) (h:HQ L part hs i hq) (hk:HQk L F[i] (hs.getD i 0) F[i].length hq):HQ L part hs (i+1) hq:=fun j hj hp=>by
 by_cases e:part j=(i:Int)
 ·obtain ⟨k,hk2,e2⟩:=hF.2.2.1 j hj i hi e
  rw [hk k hk2 hk2 j hj e2,e]
  rfl
 ·exact h j hj (by omega)
theorem hq_set {L:List (Int×Int×Int)} {part:Nat→Int} {hs:List Int} {i j:Nat} {hq:Nat→Int} (h:HQ L part hs i hq) (e:part j=(i:Int)) (v:Int):HQ L part hs i (fun q=>if q=j then v else hq q):=fun q hq2 hp=>by
 have:q≠j:=fun e2=>by rw [e2] at hp;omega
 dsimp only
 rw [if_neg this]
 exact h q hq2 hp
theorem hqk_set {L:List (Int×Int×Int)} {f:List (Int×Int×Int)} {v:Int} {k j:Nat} {hq:Nat→Int} (hnd:L.Nodup) (h:HQk L f v k hq) (hk:k<f.length) (hj:j<L.length) (e:f[k]=L[j]):HQk L f v (k+1) (fun q=>if q=j then v else hq q):=fun m hm hmk q hq2 e2=>by
 dsimp only
 by_cases e3:q=j
 ·rw [if_pos e3]
 ·rw [if_neg e3]
  by_cases e4:m=k
  ·subst e4
   exact absurd (nodup_atH hnd hq2 hj (e2.symm.trans e)) e3
  ·exact h m hm (by omega) q hq2 e2
theorem zrow_row {w:World} {g n:Nat} {f:Nat→Int} (h:ZRow w g n f):Row w (some ⟨g,0,none⟩) ((List.range n).map f):=fun i hi=>by
 have hi2:i<n:=by simpa using hi
 exact ⟨g,0,rfl,by rw [Nat.zero_add,(h i hi2).1];simp⟩
theorem hvs_range (f:Nat→Int) {n j:Nat} (h:j<n):hvs ((List.range n).map f) j=f j:=by
 unfold hvs
 rw [List.getD_eq_getElem?_getD]
 simp [h]
theorem ints_made {w:World} {base n g:Nat} (h:w.ownsRow base 3 1 (.slice (some ⟨g,0,none⟩) n n) n (madeCells #[.int .i64 0] n).toList):ZRow w g n (fun _=>0):=fun i hi=>by
 have h0:(madeCells #[Value.int .i64 0] n).toList[i]?=some (.int .i64 0):=by
  rw [Array.getElem?_toList]
  unfold madeCells
  have:i % 1=0:=by omega
  simp [hi,this]
 exact ⟨(h.cellAt i (by omega)).trans h0,h.frozenAt i⟩
theorem heap_congr {n:Nat} {pl pl':Nat→Int×Int×Int} {h h':Nat→Int} {S:List ((Int×Int×Int)×List Nat)} (H:Heap n pl h S) (h1:∀j,j<n→pl j=pl' j) (h2:∀j,j<n→h j=h' j):Heap n pl' h' S:=by
 refine ⟨H.1,fun s hs=>?_,H.2.2⟩
 obtain ⟨a,b,c⟩:=H.2.1 s hs
 refine ⟨a,?_,fun j hj=>⟨(c j hj).1,by rw [←h1 j (c j hj).1];exact (c j hj).2⟩⟩
 exact List.Pairwise.imp_of_mem (fun {x y} hx hy q=>by rw [←h2 x (c x hx).1,←h2 y (c y hy).1];exact q) b
theorem heap_hpN {pl:Nat→Int×Int×Int} {h:Nat→Int}:∀n,(∀i j,i<n→j<n→pl i=pl j→i≠j→h i≠h j)→Heap n pl h (hpN pl h n)
 | 0,_=>heap_nil pl h
 | n+1,hd=>by
  unfold hpN
  exact (heap_hpN n (fun i j hi hj=>hd i j (by omega) (by omega))).ins (fun j hj e=>hd j n (by omega) (by omega) e (by omega))
theorem layOf_any (W H b off cap m n ccap nn gm cm gh oh ch fl:Nat) (cb:Option Addr) (zs ks hs:List Int) (L:List (Int×Int×Int)) (M:Nat→M6) (F:List (List (Int×Int×Int))) (part:Nat→Int) (w:World)
  (CT:Hid (∀W':World,Bl w W'→Calls Tryz.prog 38 #[.agg #[.int .i64 (W:Int),.int .i64 (H:Int),.slice (some ⟨b,off,none⟩) m cap,.slice cb n ccap]] W' fun e w'=>∃a c,e=.returned (.slice a nn c)∧TRow w' a L∧Bl W' w'))
  (CF:Hid (∀W':World,Bl w W'→Calls Tryz.prog 13 #[.agg #[.int .i64 (W:Int),.int .i64 (H:Int),.slice (some ⟨b,off,none⟩) m cap,.slice cb n ccap]] W' fun e w'=>∃v,e=.returned v∧Nest w' W'.heap.size v F∧Bl W' w'))
  (CO:Hid (∀W':World,Bl w W'→Calls Tryz.prog 8 #[.agg #[.int .i64 (W:Int),.int .i64 (H:Int),.slice (some ⟨b,off,none⟩) m cap,.slice cb n ccap]] W' fun e w'=>∃a' ca' b' cb',e=.returned (.agg #[.int .i64 (W:Int),.int .i64 (H:Int),.slice a' m ca',.slice b' n cb'])∧RowF w' W'.heap.size a' zs∧RowF w' W'.heap.size b' ks∧Bl W' w'))
  (hF:FacesOk L part F) (hhl:fl=hs.length) (hFl:hs.length=F.length) (hF3:F.length≤256) (hF4:∀f∈F,f.length≤256)
  (hnn:nn=L.length) (h0:0<nn) (hlen:nn≤256) (hM:MRow w gm nn M) (hG:∀i,i<nn→GoodM (M i) 48000) (hh:Row w (some ⟨gh,oh,none⟩) hs) (hbd:∀t∈L,(0≤t.1∧t.1≤8)∧(0≤t.2.1∧t.2.1≤8)∧(0≤t.2.2∧t.2.2≤3)) (hnd:L.Nodup) :
  Calls Tryz.prog 15 #[.agg #[.int .i64 (W:Int),.int .i64 (H:Int),.slice (some ⟨b,off,none⟩) m cap,.slice cb n ccap],.slice (some ⟨gm,0,none⟩) nn cm,.slice (some ⟨gh,oh,none⟩) fl ch] w fun e w'=>∃hq:List Int,(∀j,j<nn→hvs hq j=hs.getD (part j).toNat 0)∧HeapF w w' (W:Int) (H:Int) m n nn zs ks M (trS L (hpN (mvP L M) (hvs hq) nn)) e:=by
 obtain ⟨i3,hi3,hz0,hz1,hz2⟩:=info_parts inf3
 have HI3:Hid (Tryz.prog.info? 3=some i3∧i3.zero=some (.int .i64 0)∧i3.size=1∧i3.bytes=8):=⟨hi3,hz0,hz1,hz2⟩
 have HX:Hid (FacesOk L part F∧fl=hs.length∧hs.length=F.length∧(∀f∈F,f.length≤256)∧nn=L.length∧L.Nodup∧Row w (some ⟨gh,oh,none⟩) hs):=⟨hF,hhl,hFl,hF4,hnn,hnd,hh⟩
 have HFL:Hid (fl=F.length):=hhl.trans hFl
 have hfl2:fl≤256:=by omega
 have CH:Hid (∀(W':World) (g9:Nat) (hq:Nat→Int),Bl w W'→ZRow W' g9 nn hq→Calls Tryz.prog 48 #[.agg #[.int .i64 (W:Int),.int .i64 (H:Int),.slice (some ⟨b,off,none⟩) m cap,.slice cb n ccap],.slice (some ⟨gm,0,none⟩) nn cm,.slice (some ⟨g9,0,none⟩) nn nn] W' fun e w'=>HeapF W' w' (W:Int) (H:Int) m n nn zs ks M (trS L (hpN (mvP L M) (hvs ((List.range nn).map hq)) nn)) e):=fun W' g9 hq hb hz=>heaped_any W H b off cap m n ccap nn gm cm g9 0 nn cb zs ks ((List.range nn).map hq) L M W' (fun V hV=>CT.out V (Qe hb hV)) (fun V hV=>CO.out V (Qe hb hV)) hnn h0 hlen (hM.kept hb) hG (zrow_row hz) (by simp) hbd hnd
 clear hF hhl hFl hF4 hnn hM hG hh hbd hnd hi3 hz0 hz1 hz2 hF3 CO
 go_enter Tryz.func15,Tryz.ntmps15
 go_upto_region 1 with fail
 refine Qr (fun W0 hW0=>?_)
 have hw0:Bl w W0:=by rw [hW0];exact Qb (Qb (Qc _))
 have x00:W0.cell? ⟨w.heap.size,0,none⟩=some (.int .i64 (W:Int)):=by rw [hW0];simp [go_sem]
 have x01:W0.cell? ⟨w.heap.size,1,none⟩=some (.int .i64 (H:Int)):=by rw [hW0];simp [go_sem]
 have x02:W0.cell? ⟨w.heap.size,2,none⟩=some (.slice (some ⟨b,off,none⟩) m cap):=by rw [hW0];simp [go_sem]
 have x03:W0.cell? ⟨w.heap.size,3,none⟩=some (.slice cb n ccap):=by rw [hW0];simp [go_sem]
 have z0:w.heap.size+1<W0.heap.size:=by rw [hW0];simp
 have HXB0:Hid (BoxR W0 (w.heap.size+1)):=by
  have:BoxR W0 (w.heap.size+1):=by rw [hW0];exact boxR_new _
  exact this
 clear hW0
 go_cut [7,8] (fun s7 s8 wx=>∃a7 c7,s7=.slice a7 nn c7∧TRow wx a7 L∧(∃base,Nest wx base s8 F)∧Bl W0 wx)
 case first =>
  go_region_held3 (fun w'=>w'.cell? ⟨w.heap.size,0,none⟩=some (.int .i64 (W:Int))∧w'.cell? ⟨w.heap.size,1,none⟩=some (.int .i64 (H:Int))∧w'.cell? ⟨w.heap.size,2,none⟩=some (.slice (some ⟨b,off,none⟩) m cap)∧w'.cell? ⟨w.heap.size,3,none⟩=some (.slice cb n ccap))
   ((refine ⟨?_,?_,?_,?_⟩<;>(with_reducible repeat (first|assumption|refine Qi ?_|refine Qa hb1 ?_|refine Qa hb2 ?_))))
   (first
    | (go_at_call 38;refine (CT.out _ (by with_reducible repeat (first | exact hw0 | exact hw1 | exact hw2 | refine Qf ?_))).mono ?_;rintro e w1 ⟨a7,c7,rfl,hT,hb1⟩;have hw1:Bl w w1:=Qe (by with_reducible repeat (first | exact hw0 | exact hw2 | refine Qf ?_)) hb1;have HV1:Hid (Bl W0 w1):=Qe (by with_reducible repeat (first | exact Qc _ | exact HV2.out | refine Qf ?_)) hb1;have HT1:Hid (TRow w1 a7 L):=hT;have HQ1:Hid (∀V v,Nest V V.heap.size v F→True):=fun _ _ _=>trivial;clear hT)
    | (go_at_call 13;refine (CF.out _ (by with_reducible repeat (first | exact hw0 | exact hw1 | exact hw2 | refine Qf ?_))).mono ?_;rintro e w2 ⟨v8,rfl,hN8,hb2⟩;have hw2:Bl w w2:=Qe (by with_reducible repeat (first | exact hw0 | exact hw1 | refine Qf ?_)) hb2;have HV2:Hid (Bl W0 w2):=Qe (by with_reducible repeat (first | exact Qc _ | exact HV1.out | refine Qf ?_)) hb2;have HT2:Hid (TRow w2 a7 L):=HT1.out.kept (Qe (by with_reducible repeat (first | exact Qc _ | refine Qf ?_)) hb2);have HN2:Hid (∃base,Nest w2 base v8 F):=⟨_,hN8⟩;clear hN8))
  all_goals
   go_wp2
   go_meet
   case rel=>exact ⟨_,_,rfl,HT2.out,HN2.out,HV2.out⟩
 case rest =>
  obtain ⟨a7,c7,rfl,hT,⟨base,hN⟩,hb⟩:=hcut
  obtain ⟨w2,hw2⟩:∃x,x=wc:=⟨_,rfl⟩
  subst hw2
  obtain ⟨a8,c8,hv8,hNR⟩:=hN.readE
  rw [←HFL.out] at hv8
  subst hv8
  replace x00:=Qa hb x00
  replace x01:=Qa hb x01
  replace x02:=Qa hb x02
  replace x03:=Qa hb x03
  have z2:w.heap.size+1<w2.heap.size:=Nat.lt_of_lt_of_le z0 hb.size
  have HXB:Hid (BoxR w2 (w.heap.size+1)):=HXB0.out.kept hb
  have H2:Hid (TRow w2 a7 L∧NRe w2 a8 F∧Bl w w2):=⟨hT,hNR,Qe hw0 hb⟩
  clear hT hN hNR hb hw0 CT CF
  go_wp2_with (at_make;refine wpList_make_full _ rfl (.tmp 17) (.tmp 17) 22 rfl w2.heap.size 3 i3 (.int .i64 0) 1 Tryz.underlying22 HI3.out.1 HI3.out.2.1 HI3.out.2.2.1 .i64 .i64 _ _ nn rfl rfl rfl rfl ?b2 ?b3 ?b4 ?mk)
  case b2 =>
   rw [HI3.out.2.2.2]
   omega
  case b3 =>
   unfold maxLen
   omega
  case b4=>exact Nat.le_refl _
  case mk =>
   intro w3 ho hg
   have hbel:Bl w2 w3:=(Below.refl _ _).grown hg (Nat.le_refl _) (fun k h=>by cases h)
   obtain ⟨g9,hg9⟩:∃g,g=w2.heap.size:=⟨_,rfl⟩
   have hZ:ZRow w3 g9 nn (fun _=>0):=fun i hi=>by
    rw [hg9]
    exact ints_made (by simpa using ho) i hi
   have H3:Hid (ZRow w3 g9 nn (fun _=>0)∧Bl w2 w3∧g9=w2.heap.size):=⟨hZ,hbel,hg9⟩
   rw [←hg9]
   clear hZ hbel ho hg hg9
   go_wp2
   go_loopg [10] fl (fun gk s10 wx=>∃(i:Nat) (hq:Nat→Int),i≤fl∧gk=fl-i∧s10=.int .i64 (i:Int)∧ZRow wx g9 nn hq∧HQ L part hs i hq∧Bl w2 wx)
   case atStart=>exact ⟨0,_,by omega,rfl,rfl,H3.out.1,fun j hj hp=>by have:=(HX.out.1.1 j hj).1;omega,H3.out.2.1⟩
   case round =>
    obtain ⟨i,hq,hi,rfl,rfl,hz,hQ,hbx⟩:=hrel
    have HR:Hid (ZRow wr g9 nn hq∧HQ L part hs i hq∧Bl w2 wr):=⟨hz,hQ,hbx⟩
    clear hz hQ hbx
    by_cases h1:i<fl
    ·have i1:(i:Int)<(fl:Int):=by omega
     have i0:(0:Int)≤(i:Int):=by omega
     have hiF:i<F.length:=by rw [←HFL.out];exact h1
     obtain ⟨g8,a',c',e8,_,_⟩:=H2.out.2.1 i hiF
     subst e8
     obtain ⟨g8',a',c',e8,f0,ft⟩:=H2.out.2.1 i hiF
     cases e8
     obtain ⟨f,hf⟩:∃f,f=F[i]:=⟨_,rfl⟩
     rw [←hf] at f0 ft
     obtain ⟨fn,hfn⟩:∃fn,fn=f.length:=⟨_,rfl⟩
     rw [←hfn] at f0
     have hfn2:fn≤256:=by rw [hfn,hf];exact HX.out.2.2.2.1 _ (List.getElem_mem hiF)
     obtain ⟨vi,hvi⟩:∃v,v=hs.getD i 0:=⟨_,rfl⟩
     have HF:Hid (f=F[i]∧fn=f.length∧TRow w2 a' f∧vi=hs.getD i 0):=⟨hf,hfn,ft,hvi⟩
     have HE:Hid (w2.cell? ⟨g8,i,none⟩=some (.slice a' fn c')):=f0
     clear hf hfn ft hvi f0
     go_wp2
     go_loopg [11] fn (fun gk s11 wx=>∃(k:Nat) (hq:Nat→Int),k≤fn∧gk=fn-k∧s11=.int .i64 (k:Int)∧ZRow wx g9 nn hq∧HQ L part hs i hq∧HQk L f vi k hq∧Bl w2 wx)
     case atStart=>exact ⟨0,hq,by omega,rfl,rfl,HR.out.1,HR.out.2.1,fun m hm hmk=>by omega,HR.out.2.2⟩
     case round =>
      clear HR
      obtain ⟨k,hq,hk,rfl,rfl,hz,hQ,hQk,hbx⟩:=hrel
      have HR:Hid (ZRow wr g9 nn hq∧HQ L part hs i hq∧HQk L f vi k hq∧Bl w2 wr):=⟨hz,hQ,hQk,hbx⟩
      have f0:=Qa hbx HE.out
      have zf:g8<wr.heap.size:=bk f0
      clear hz hQ hQk hbx
      by_cases h2:k<fn
      ·have k1:(k:Int)<(fn:Int):=by omega
       have k0:(0:Int)≤(k:Int):=by omega
       have hkf:k<f.length:=by rw [←HF.out.2.1];exact h2
       obtain ⟨gt,et,t0,t1,t2⟩:=(HF.out.2.2.1.kept HR.out.2.2.2) k hkf
       subst et
       obtain ⟨j,hj,ej,hpj⟩:∃j,∃hj:j<L.length,f[k]=L[j]∧part j=(i:Int):=by
        have e9:=HF.out.1
        subst e9
        exact HX.out.1.2.1 i hiF k hkf
       have hpl:plc L f[k]=(j:Int):=by rw [ej];exact plc_self HX.out.2.2.2.2.2.1 hj
       obtain ⟨t,ht⟩:∃t,t=f[k]:=⟨_,rfl⟩
       have HJ:Hid (f[k]=L[j]∧part j=(i:Int)∧j<L.length):=⟨ej,hpj,hj⟩
       rw [←ht] at t0 t1 t2 hpl
       obtain ⟨U0,U1,U2⟩:=t
       dsimp only at t0 t1 t2
       have hjn:j<nn:=by rw [HX.out.2.2.2.2.1];exact hj
       have C41:Hid (∀V:World,Bl wr V→Calls Tryz.prog 41 #[.slice a7 nn c7,.agg #[.int .i64 U0,.int .i64 U1,.int .i64 U2]] V fun e w'=>e=.returned (.int .i64 (j:Int))∧Bl V w'):=fun V hV=>by
        have:=Ja a7 c7 L U0 U1 U2 V (H2.out.1.kept (Qe HR.out.2.2.2 hV)) (by rw [←HX.out.2.2.2.2.1];exact hlen)
        rw [hpl,←HX.out.2.2.2.2.1] at this
        exact this
       have hv:=J0 (HX.out.2.2.2.2.2.2.kept (Qe H2.out.2.2 HR.out.2.2.2)) (i:=i) (by rw [HX.out.2.2.1];exact hiF)
       rw [←HF.out.2.2.2] at hv
       obtain ⟨u0,q0⟩:=HR.out.1 j hjn
       have zt:gt<wr.heap.size:=bk t0
       have zh:gh<wr.heap.size:=bk hv
       have z9:g9<wr.heap.size:=bk u0
       have j1:(j:Int)<(nn:Int):=by omega
       have j0:(0:Int)≤(j:Int):=by omega
       have nt:gt≠g9:=by
        have e9:=H3.out.2.2
        obtain ⟨gt',et,s0,_⟩:=HF.out.2.2.1 k hkf
        cases et
        have:gt<w2.heap.size:=bk s0
        omega
       have nf:g8≠g9:=by
        have e9:=H3.out.2.2
        have:g8<w2.heap.size:=bk HE.out
        omega
       have nh:gh≠g9:=by
        have e9:=H3.out.2.2
        have hv2:=J0 HX.out.2.2.2.2.2.2 (i:=i) (by rw [HX.out.2.2.1];exact hiF)
        have:gh<w.heap.size:=bk hv2
        have:=H2.out.2.2.size
        omega
       clear ht hpl ej hpj
       have HK:Hid (∀V:World,Bl wr V→ZRow (V.setCell ⟨g9,j,none⟩ (.int .i64 vi)) g9 nn (fun q=>if q=j then vi else hq q)∧Bl w2 (V.setCell ⟨g9,j,none⟩ (.int .i64 vi))):=fun V hV=>⟨(HR.out.1.kept hV).set vi hjn,Ql (Qe HR.out.2.2.2 hV) (by rw [H3.out.2.2];exact Nat.le_refl _)⟩
       go_upto_region 9 with fail
       go_region_held3 (fun w'=>w'.cell? ⟨g8,i,none⟩=some (.slice (some ⟨gt,0,none⟩) fn c')∧w'.cell? ⟨gt,k*3,none⟩=some (.int .i64 U0)∧w'.cell? ⟨gt,k*3+1,none⟩=some (.int .i64 U1)∧w'.cell? ⟨gt,k*3+2,none⟩=some (.int .i64 U2)∧w'.cell? ⟨gh,oh+i,none⟩=some (.int .i64 vi))
        ((refine ⟨?_,?_,?_,?_,?_⟩<;>(with_reducible repeat (first|assumption|refine Qi ?_|refine Qa hb4 ?_|refine Qj ?_ (by dsimp only;omega)))))
        (first
         | (go_at_call 41;refine (C41.out _ (by with_reducible repeat (first | exact Qc _ | refine Qf ?_))).mono ?_;rintro e w4 ⟨rfl,hb4⟩;have HB4:Hid (Bl wr w4):=Qe (by with_reducible repeat (first | exact Qc _ | refine Qf ?_)) hb4;have u4:=Qa HB4.out u0;have q4:=(HB4.out.frozen (p:=⟨g9,j,none⟩) z9).trans q0))
       all_goals
        go_wp2
        go_roundg (fn-(k+1))
        case measure=>omega
        case rel=>exact ⟨k+1,_,by omega,rfl,by go_num,(HK.out _ (by with_reducible repeat (first|exact HB4.out|refine Qf ?_))).1,hq_set HR.out.2.1 HJ.out.2.1 vi,hqk_set HX.out.2.2.2.2.2.1 HR.out.2.2.1 hkf HJ.out.2.2 HJ.out.1,(HK.out _ (by with_reducible repeat (first|exact HB4.out|refine Qf ?_))).2⟩
      ·have k1:¬(k:Int)<(fn:Int):=by omega
       go_wp2
       go_roundg (fl-(i+1))
       case measure=>omega
       case rel =>
        refine ⟨i+1,hq,by omega,rfl,by go_num,HR.out.1,?_,HR.out.2.2.2⟩
        have e9:=HF.out.1
        have e8:=HF.out.2.1
        have e7:=HF.out.2.2.2
        obtain rfl:k=fn:=by omega
        have hk9:=HR.out.2.2.1
        subst e9 e8 e7
        exact hq_next HX.out.1 hiF HR.out.2.1 hk9
    ·have i1:¬(i:Int)<(fl:Int):=by omega
     have y0:=Qa HR.out.2.2 x00
     have y1:=Qa HR.out.2.2 x01
     have y2:=Qa HR.out.2.2 x02
     have y3:=Qa HR.out.2.2 x03
     have zr:w.heap.size+1<wr.heap.size:=Nat.lt_of_lt_of_le z2 HR.out.2.2.size
     obtain rfl:i=fl:=by omega
     have HQF:Hid (∀j,j<nn→hvs ((List.range nn).map hq) j=hs.getD (part j).toNat 0):=fun j hj=>by
      have hjL:j<L.length:=by rw [←HX.out.2.2.2.2.1];exact hj
      rw [hvs_range hq hj]
      exact HR.out.2.1 j hjL (by rw [HFL.out];exact (HX.out.1.1 j hjL).2)
     clear x00 x01 x02 x03
     go_wp2_with (go_at_call 48;refine (CH.out _ _ _ (Qe H2.out.2.2 HR.out.2.2) HR.out.1).mono ?_;rintro e w5 ⟨a5,ca5,b5,cb5,g5,c5,t5,u5,rfl,r1,r2,r3,r4,hb5⟩;have H5:Hid (RowF w5 wr.heap.size a5 zs∧RowF w5 wr.heap.size b5 ks∧(MRow w5 g5 nn M∧wr.heap.size≤g5)∧SRowE w5 wr.heap.size t5 (trS L (hpN (mvP L M) (hvs ((List.range nn).map hq)) nn))∧Bl w w5∧BoxR w5 (w.heap.size+1)):=⟨r1,r2,r3,r4,Qe (Qe H2.out.2.2 HR.out.2.2) hb5,(HXB.out.kept HR.out.2.2).kept hb5⟩;obtain ⟨⟨b0,b1,b2,b3,b4,b5'⟩,bf⟩:=H5.out.2.2.2.2.2;have k0:=bf 0;have k1:=bf 1;have k2:=bf 2;have k3:=bf 3;have k4:=bf 4;have k5:=bf 5;have zb:w.heap.size+1<w5.heap.size:=bk b0;clear r1 r2 r3 r4 hb5 bf)
     refine bodyPost_ret (v:=.agg #[.int .i64 (W:Int),.int .i64 (H:Int),.slice a5 m ca5,.slice b5 n cb5,.slice (some ⟨g5,0,none⟩) nn c5,.slice t5 (trS L (hpN (mvP L M) (hvs ((List.range nn).map hq)) nn)).length u5]) (by simp [results,Tryz.results15,go_sem, *]) rfl ⟨_,HQF.out,a5,ca5,b5,cb5,g5,c5,t5,u5,rfl,?_,?_,⟨?_,?_⟩,?_,?_⟩
     ·refine RowF.low (base:=wr.heap.size) ?_ (by omega)
      with_reducible repeat (refine RowF.set ?_ (by dsimp only;exact zr))
      exact H5.out.1
     ·refine RowF.low (base:=wr.heap.size) ?_ (by omega)
      with_reducible repeat (refine RowF.set ?_ (by dsimp only;exact zr))
      exact H5.out.2.1
     ·have h1:=H5.out.2.2.1.2
      have hne:g5≠w.heap.size+1:=by omega
      with_reducible repeat (refine MRow.setE ?_ hne)
      exact H5.out.2.2.1.1
     ·have h1:=H5.out.2.2.1.2
      omega
     ·refine SRowE.low (base:=wr.heap.size) ?_ (by omega)
      with_reducible repeat (refine SRowE.set ?_ (by dsimp only;exact zr))
      exact H5.out.2.2.2.1
     ·with_reducible repeat (refine Ql ?_ ?_)
      all_goals first|exact H5.out.2.2.2.2.1|(dsimp only;omega)
end Go.Proofs.YtgpjaecgkkgehaaGreatDoor
