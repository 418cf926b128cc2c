/- A part of the proof of foldFlat_holds. -/
import Derived.Test.YtgpjaecgkkgehaaGreatDoorQfbj
import Derived.Test.YtgpjaecgkkgehaaGreatDoorQfbl
import Derived.Test.YtgpjaecgkkgehaaGreatDoorQfbh
import Derived.Test.YtgpjaecgkkgehaaGreatDoorQfam
import Derived.Test.YtgpjaecgkkgehaaGreatDoorQfas
namespace Go.Proofs.YtgpjaecgkkgehaaGreatDoor
open Go.RowKit Go.ChangeMaps
structure PileAt (w:World) (ad:Option Addr) (cc ra rk gm cm:Nat) (pa:Option Addr) (pc:Nat) (L:List (Int×Int×Int)) (kd:Int×Int×Int×Int→Int) (M:Nat→M6):Prop where
 tr:PA w ad ra L
 kl:KL w rk kd
 mr:MRow w gm L.length M
 pl:TRow w pa (pls L M L.length)
theorem PileAt.kept {w w':World} {ad:Option Addr} {cc ra rk gm cm:Nat} {pa:Option Addr} {pc:Nat} {L:List (Int×Int×Int)} {kd:Int×Int×Int×Int→Int} {M:Nat→M6} (h:PileAt w ad cc ra rk gm cm pa pc L kd M) (hb:Below w.heap.size w w'):PileAt w' ad cc ra rk gm cm pa pc L kd M:=⟨h.tr.kept hb,h.kl.kept hb,h.mr.kept hb,h.pl.kept hb⟩
def pileV (ad:Option Addr) (n cc ra rk gm cm:Nat) (pa:Option Addr) (pc:Nat):Value:=.agg #[.slice ad n cc,.map (some ra),.map (some rk),.slice (some ⟨gm,0,none⟩) n cm,.slice pa n pc]
def PlacedTo (kd:Int×Int×Int×Int→Int) (L:List (Int×Int×Int)) (w w':World) (e:Ending):Prop:=Below w.heap.size w w'∧((∃ M ad cc ra rk gm cm pa pc,Cons kd L M∧e=.returned (.tuple #[pileV ad L.length cc ra rk gm cm pa pc,.int .i64 0])∧PileAt w' ad cc ra rk gm cm pa pc L kd M)∨((¬ ∃ N,Cons kd L N)∧e=.returned (.tuple #[.agg #[.slice none 0 0,.map none,.map none,.slice none 0 0,.slice none 0 0],.int .i64 8])))
def set5 (w:World) (b:Nat) (u0 u1 u2 u3 u4:Value):World:=((((w.setCell ⟨b,0,none⟩ u0).setCell ⟨b,1,none⟩ u1).setCell ⟨b,2,none⟩ u2).setCell ⟨b,3,none⟩ u3).setCell ⟨b,4,none⟩ u4
theorem set5_grown (w:World) (b:Nat) (u0 u1 u2 u3 u4:Value):w.grownBy (set5 w b u0 u1 u2 u3 u4) (some b):=gb_then (gb_then (gb_then (gb_then (grown_cell _ _ _ _) (grown_cell _ _ _ _)) (grown_cell _ _ _ _)) (grown_cell _ _ _ _)) (grown_cell _ _ _ _)
theorem MRow.not_at {w:World} {g n b:Nat} {M:Nat→M6} (h:MRow w g n M) (h0:0<n) (hc:w.cell? ⟨b,0,none⟩=some (.slice none 0 0)):some g≠some b:=fun e=>by
 cases e
 have:=(h 0 h0).1.1
 rw [Nat.zero_mul,hc] at this
 cases this
theorem TRow.not_at {w:World} {pa:Option Addr} {l:List (Int×Int×Int)} {b:Nat} (h:TRow w pa l) (h0:0<l.length) (hc:w.cell? ⟨b,0,none⟩=some (.slice none 0 0)):∀ g,pa=some ⟨g,0,none⟩→g≠b:=fun g e e2=>by
 obtain ⟨g',e',c0,_⟩:=h 0 h0
 rw [e] at e'
 cases e'
 subst e2
 rw [Nat.zero_mul,hc] at c0
 cases c0
theorem TRow.grown {w w':World} {pa:Option Addr} {l:List (Int×Int×Int)} {b:Nat} (h:TRow w pa l) (hg:w.grownBy w' (some b)) (hn:∀ g,pa=some ⟨g,0,none⟩→g≠b):TRow w' pa l:=fun i hi=>by
 obtain ⟨g,e,c0,c1,c2⟩:=h i hi
 have hne:some g≠some b:=fun e2=>hn g e (by simpa using e2)
 exact ⟨g,e,hg.cell c0 hne,hg.cell c1 hne,hg.cell c2 hne⟩
set_option maxRecDepth 100000 in
set_option maxHeartbeats 3200000 in
theorem placed_yes (W H b off cap n ccap:Nat) (cb:Option Addr) (zs ks:List Int) (w:World) (hr:Row w (some ⟨b,off,none⟩) zs) (hW:1≤W∧W≤8) (hH:1≤H∧H≤8) (hl:zs.length=W*H) (hm:maskB zs=true) (hk:Row w cb ks) (hn:ks.length=n*5) (hn2:n≤3518437208883) (hs:Steps w) (hJ:Joined (ty zs W H)) (hC:∀ i,i<n→CrOk (ty zs W H) ks i) :
  Calls Tryz.prog 28 #[.agg #[.int .i64 (W:Int),.int .i64 (H:Int),.slice (some ⟨b,off,none⟩) zs.length cap,.slice cb n ccap]] w fun e w'=>PlacedTo (kdn ks n) (ty zs W H) w w' e:=by
 have CL:Hid (∀ W':World,Below w.heap.size w W'→Calls Tryz.prog 65 #[.agg #[.int .i64 (W:Int),.int .i64 (H:Int),.slice (some ⟨b,off,none⟩) zs.length cap,.slice cb n ccap]] W' fun e w'=>∃ ad cc base ra rk,e=.returned (.tuple #[.agg #[.slice ad (ty zs W H).length cc,.map (some ra),.map (some rk)],.bool true])∧PK W' w' base ra rk (.slice ad (ty zs W H).length cc) (ty zs W H) (gix (ty zs W H)) (kf ks n)):=fun W' hW'=>lay_yes W H b off cap n ccap cb zs ks W' (hr.kept hW') hW hH hl hm (hk.kept hW') hn hn2 (hs.kept hW') hJ hC
 have CP:Hid (∀ W':World,Below w.heap.size w W'→Calls Tryz.prog 64 #[.agg #[.int .i64 (W:Int),.int .i64 (H:Int),.slice (some ⟨b,off,none⟩) zs.length cap,.slice cb n ccap]] W' fun e w'=>PlaceTo (kdn ks n) (ty zs W H) W' w' e):=fun W' hW'=>Place_yes W H b off cap n ccap cb zs ks W' (hr.kept hW') hW hH hl hm (hk.kept hW') hn hn2 (hs.kept hW') hJ hC
 have hlen:(ty zs W H).length≤300:=by have:=ty_len zs W H hW.2;omega
 have hnd:=ty_nodup zs W H
 have hbd:=ty_bd (zs:=zs) hW.2 hH.2
 have HS:Hid (Steps w):=hs
 obtain ⟨L,hL⟩:∃ L,L=ty zs W H:=⟨_,rfl⟩
 rw [← hL] at CL CP hlen hnd hbd hJ
 rw [← hL]
 have HJ:Hid (Joined L∧L.Nodup∧∀ t∈L,(0≤t.1∧t.1≤8)∧(0≤t.2.1∧t.2.1≤8)∧(0≤t.2.2∧t.2.2≤3)):=⟨hJ,hnd,hbd⟩
 clear hr hk hl hm hW hH hn hs hJ hC hL hnd hbd
 go_enter Tryz.func28,Tryz.ntmps28
 go_upto_region 2 with (go_at_call 64;refine (CP.out _ (by with_reducible exact bl_alloc (bl_alloc (bl_refl _)))).mono ?_;rintro e w2 ⟨hb2,h2⟩;have HB2:Hid (Below ((w.alloc (.cells #[.int .i64 (W:Int),.int .i64 (H:Int),.slice (some ⟨b,off,none⟩) zs.length cap,.slice cb n ccap] 25)).alloc (.cells #[.slice none 0 0,.map none,.map none,.slice none 0 0,.slice none 0 0] 70)).heap.size ((w.alloc (.cells #[.int .i64 (W:Int),.int .i64 (H:Int),.slice (some ⟨b,off,none⟩) zs.length cap,.slice cb n ccap] 25)).alloc (.cells #[.slice none 0 0,.map none,.map none,.slice none 0 0,.slice none 0 0] 70)) w2):=hb2;have H2:Hid ((∃ M g,Cons (kdn ks n) L M∧e=.returned (.tuple #[.slice (some ⟨g,0,none⟩) L.length L.length,.int .i64 0])∧MRow w2 g L.length M)∨((¬ ∃ N,Cons (kdn ks n) L N)∧e=.returned (.tuple #[.slice none 0 0,.int .i64 8]))):=h2;clear hb2 h2;rcases H2.out with ⟨M,gm,hc,rfl,hr⟩ | ⟨hno,rfl⟩)
 ·have HMR:Hid (MRow w2 gm L.length M∧Cons (kdn ks n) L M):=⟨hr,hc⟩
  clear hr hc H2 CP
  have s0:w2.cell? ⟨w.heap.size,0,none⟩=some (.int .i64 (W:Int)):=cl_kept HB2.out (by simp [go_sem])
  have s1:w2.cell? ⟨w.heap.size,1,none⟩=some (.int .i64 (H:Int)):=cl_kept HB2.out (by simp [go_sem])
  have s2:w2.cell? ⟨w.heap.size,2,none⟩=some (.slice (some ⟨b,off,none⟩) zs.length cap):=cl_kept HB2.out (by simp [go_sem])
  have s3:w2.cell? ⟨w.heap.size,3,none⟩=some (.slice cb n ccap):=cl_kept HB2.out (by simp [go_sem])
  have zS:w.heap.size<w2.heap.size:=World.block_lt_of_cell? _ _ s0
  have HBw:Hid (Below w.heap.size w w2):=bl_via (bl_alloc (bl_alloc (bl_refl _))) HB2.out
  go_upto_region 5 with (go_at_call 65;refine (CL.out _ HBw.out).mono ?_;rintro e w3 ⟨ad,cc,base,ra,rk,rfl,hpk⟩;have HB3:Hid (Below w2.heap.size w2 w3):=hpk.2.2.2.2;have HPK:Hid (PA w3 ad ra L∧KL w3 rk (kdn ks n)):=⟨hpk.pa,hpk.kl⟩;have HPX:Hid (PK w2 w3 base ra rk (.slice ad L.length cc) L (gix L) (kf ks n)):=hpk;clear hpk)
  clear s0 s1 s2 s3 zS
  have CS:Hid (∀ W':World,Below w3.heap.size w3 W'→Calls Tryz.prog 66 #[.agg #[.slice ad L.length cc,.map (some ra),.map (some rk)],.slice (some ⟨gm,0,none⟩) L.length L.length] W' fun e w'=>∃ pa pc,e=.returned (.tuple #[.agg #[.slice ad L.length cc,.map (some ra),.map (some rk),.slice (some ⟨gm,0,none⟩) L.length L.length,.slice pa L.length pc],.bool true])∧TRow w' pa (pls L M L.length)∧Below W'.heap.size W' w'):=fun W' hW'=>spread_pile W' cc ra rk gm L.length ad L (kdn ks n) M (HS.out.kept (bl_via HBw.out (bl_via HB3.out hW'))) (HPK.out.1.kept hW') (HPK.out.2.kept hW') hlen HJ.out.2.2 (HMR.out.1.kept (bl_via HB3.out hW')) HMR.out.2 (cons_good HJ.out.1 HJ.out.2.1 hlen HJ.out.2.2 HMR.out.2)
  go_upto_region 6 with (go_at_call 66;refine (CS.out _ (by with_reducible exact bl_alloc (bl_refl _))).mono ?_;rintro e w4 ⟨pa,pc,rfl,hT,hb4⟩;have HB4:Hid (Below w3.heap.size w3 w4∧TRow w4 pa (pls L M L.length)):=⟨bl_via (bl_alloc (bl_refl _)) hb4,hT⟩;clear hb4 hT)
  have HB5:Hid (Below ((w.alloc (.cells #[.int .i64 (W:Int),.int .i64 (H:Int),.slice (some ⟨b,off,none⟩) zs.length cap,.slice cb n ccap] 25)).alloc (.cells #[.slice none 0 0,.map none,.map none,.slice none 0 0,.slice none 0 0] 70)).heap.size ((w.alloc (.cells #[.int .i64 (W:Int),.int .i64 (H:Int),.slice (some ⟨b,off,none⟩) zs.length cap,.slice cb n ccap] 25)).alloc (.cells #[.slice none 0 0,.map none,.map none,.slice none 0 0,.slice none 0 0] 70)) w4):=bl_via HB2.out (bl_via HB3.out HB4.out.1)
  have d0:w4.cell? ⟨w.heap.size+1,0,none⟩=some (.slice none 0 0):=cl_kept HB5.out (by simp [go_sem])
  have d1:w4.cell? ⟨w.heap.size+1,1,none⟩=some (.map none):=cl_kept HB5.out (by simp [go_sem])
  have d2:w4.cell? ⟨w.heap.size+1,2,none⟩=some (.map none):=cl_kept HB5.out (by simp [go_sem])
  have d3:w4.cell? ⟨w.heap.size+1,3,none⟩=some (.slice none 0 0):=cl_kept HB5.out (by simp [go_sem])
  have d4:w4.cell? ⟨w.heap.size+1,4,none⟩=some (.slice none 0 0):=cl_kept HB5.out (by simp [go_sem])
  have k0:w4.frozen? ⟨w.heap.size+1,0,none⟩=false:=(Below.frozen HB5.out (by simp)).trans (by simp [go_sem])
  have k1:w4.frozen? ⟨w.heap.size+1,1,none⟩=false:=(Below.frozen HB5.out (by simp)).trans (by simp [go_sem])
  have k2:w4.frozen? ⟨w.heap.size+1,2,none⟩=false:=(Below.frozen HB5.out (by simp)).trans (by simp [go_sem])
  have k3:w4.frozen? ⟨w.heap.size+1,3,none⟩=false:=(Below.frozen HB5.out (by simp)).trans (by simp [go_sem])
  have k4:w4.frozen? ⟨w.heap.size+1,4,none⟩=false:=(Below.frozen HB5.out (by simp)).trans (by simp [go_sem])
  have zD:w.heap.size+1<w4.heap.size:=World.block_lt_of_cell? _ _ d0
  go_wp2
  refine bodyPost_ret (v:=.tuple #[pileV ad L.length cc ra rk gm L.length pa pc,.int .i64 0]) (by simp [pileV,results,Tryz.results28,go_sem, *]) rfl ⟨?_,Or.inl ⟨M,ad,cc,ra,rk,gm,L.length,pa,pc,HMR.out.2,rfl, ?_⟩⟩
  ·have hbF:=bl_via (bl_alloc (bl_alloc (bl_refl w))) HB5.out
   with_reducible repeat' (first | exact hbF | refine bl_set ?_ ?_ | refine bl_alloc ?_ | refine bl_drew ?_)
   all_goals (dsimp only;omega)
  ·have hgF:=gb_then (set5_grown w4 (w.heap.size+1) (.slice ad L.length cc) (.map (some ra)) (.map (some rk)) (.slice (some ⟨gm,0,none⟩) L.length L.length) (.slice pa L.length pc)) (World.grownBy_alloc _ (.cells #[.slice ad L.length cc,.map (some ra),.map (some rk),.slice (some ⟨gm,0,none⟩) L.length L.length,.slice pa L.length pc] 70) (some (w.heap.size+1)))
   have hz:=HB2.out.size
   simp only [World.size_alloc] at hz
   have hpx:=HPX.out
   obtain ⟨_,_,_,⟨a1,a2,a3,a4,a5,a6,a7⟩,_⟩:=hpx
   have hpk:=(((HPX.out.base HBw.out).kept HB4.out.1).grown hgF (by omega) (by omega) (by omega) (by omega))
   have h0:0<L.length:=HJ.out.1.1
   exact ⟨hpk.pa,hpk.kl,(HMR.out.1.kept (bl_via HB3.out HB4.out.1)).grown hgF ((HMR.out.1.kept (bl_via HB3.out HB4.out.1)).not_at h0 d0),HB4.out.2.grown hgF (HB4.out.2.not_at (by rw [pls_len];exact h0) d0)⟩
 ·clear H2 CP CL
  have d0:w2.cell? ⟨w.heap.size+1,0,none⟩=some (.slice none 0 0):=cl_kept HB2.out (by simp [go_sem])
  have d1:w2.cell? ⟨w.heap.size+1,1,none⟩=some (.map none):=cl_kept HB2.out (by simp [go_sem])
  have d2:w2.cell? ⟨w.heap.size+1,2,none⟩=some (.map none):=cl_kept HB2.out (by simp [go_sem])
  have d3:w2.cell? ⟨w.heap.size+1,3,none⟩=some (.slice none 0 0):=cl_kept HB2.out (by simp [go_sem])
  have d4:w2.cell? ⟨w.heap.size+1,4,none⟩=some (.slice none 0 0):=cl_kept HB2.out (by simp [go_sem])
  have k0:w2.frozen? ⟨w.heap.size+1,0,none⟩=false:=(Below.frozen HB2.out (by simp)).trans (by simp [go_sem])
  have k1:w2.frozen? ⟨w.heap.size+1,1,none⟩=false:=(Below.frozen HB2.out (by simp)).trans (by simp [go_sem])
  have k2:w2.frozen? ⟨w.heap.size+1,2,none⟩=false:=(Below.frozen HB2.out (by simp)).trans (by simp [go_sem])
  have k3:w2.frozen? ⟨w.heap.size+1,3,none⟩=false:=(Below.frozen HB2.out (by simp)).trans (by simp [go_sem])
  have k4:w2.frozen? ⟨w.heap.size+1,4,none⟩=false:=(Below.frozen HB2.out (by simp)).trans (by simp [go_sem])
  have zD:w.heap.size+1<w2.heap.size:=World.block_lt_of_cell? _ _ d0
  go_wp2
  refine bodyPost_ret (v:=.tuple #[.agg #[.slice none 0 0,.map none,.map none,.slice none 0 0,.slice none 0 0],.int .i64 8]) (by simp [results,Tryz.results28,go_sem, *]) rfl ⟨?_,Or.inr ⟨hno,rfl⟩⟩
  with_reducible repeat' (first | exact bl_via (bl_alloc (bl_alloc (bl_refl _))) HB2.out | refine bl_set ?_ ?_ | refine bl_drew ?_ | refine bl_alloc ?_)
  all_goals (dsimp only;omega)
open Go.RowKit
def rowS (R:List ((Int×Int×Int)×Value)):List Value:=R.flatMap fun s=>[.int .i64 s.1.1,.int .i64 s.1.2.1,.int .i64 s.1.2.2,s.2]
theorem rowS_add (l m:List ((Int×Int×Int)×Value)):rowS (l ++ m)=rowS l ++ rowS m:=by simp [rowS]
theorem rowS_len (R:List ((Int×Int×Int)×Value)):(rowS R).length=R.length*4:=by
 induction R with
 | nil=>rfl
 | cons s r ih =>
  have:rowS (s :: r)=[Value.int .i64 s.1.1,.int .i64 s.1.2.1,.int .i64 s.1.2.2,s.2] ++ rowS r:=by simp [rowS]
  rw [this,List.length_append,ih]
  simp
  omega
theorem rowS_at:∀ (R:List ((Int×Int×Int)×Value)) (i:Nat) (h:i<R.length),(rowS R)[i*4]?=some (.int .i64 R[i].1.1)∧(rowS R)[i*4+1]?=some (.int .i64 R[i].1.2.1)∧(rowS R)[i*4+2]?=some (.int .i64 R[i].1.2.2)∧(rowS R)[i*4+3]?=some R[i].2
 | s :: r,0,_=>by simp [rowS]
 | s :: r,i+1,h=>by
  have ih:=rowS_at r i (by simpa using h)
  have e:rowS (s :: r)=[Value.int .i64 s.1.1,.int .i64 s.1.2.1,.int .i64 s.1.2.2,s.2] ++ rowS r:=by simp [rowS]
  have f:∀ k,(rowS (s :: r))[(i+1)*4+k]?=(rowS r)[i*4+k]?:=fun k=>by
   rw [e,List.getElem?_append_right (by simp;omega)]
   congr 1
   simp
   omega
  have f0:=f 0
  rw [Nat.add_zero,Nat.add_zero] at f0
  simp only [List.getElem_cons_succ]
  exact ⟨f0.trans ih.1,(f 1).trans ih.2.1,(f 2).trans ih.2.2.1,(f 3).trans ih.2.2.2⟩
theorem rowS_set:∀ (R:List ((Int×Int×Int)×Value)) (i:Nat) (t:Int×Int×Int) (u:Value),i<R.length→((((rowS R).set (i*4) (.int .i64 t.1)).set (i*4+1) (.int .i64 t.2.1)).set (i*4+2) (.int .i64 t.2.2)).set (i*4+3) u=rowS (R.set i (t,u))
 | s :: r,0,t,u,_=>by simp [rowS]
 | s :: r,i+1,t,u,h=>by
  have ih:=rowS_set r i t u (by simpa using h)
  have e:rowS (s :: r)=[Value.int .i64 s.1.1,.int .i64 s.1.2.1,.int .i64 s.1.2.2,s.2] ++ rowS r:=by simp [rowS]
  have e2:rowS ((s :: r).set (i+1) (t,u))=[Value.int .i64 s.1.1,.int .i64 s.1.2.1,.int .i64 s.1.2.2,s.2] ++ rowS (r.set i (t,u)):=by simp [rowS]
  have st:∀ (k:Nat) (x:Value) (l:List Value),([Value.int .i64 s.1.1,.int .i64 s.1.2.1,.int .i64 s.1.2.2,s.2] ++ l).set (4+k) x=[Value.int .i64 s.1.1,.int .i64 s.1.2.1,.int .i64 s.1.2.2,s.2] ++ l.set k x:=fun k x l=>by
   rw [Nat.add_comm]
   rfl
  rw [e2,← ih,e,show (i+1)*4=4+i*4 by omega,st,show 4+i*4+1=4+(i*4+1) by omega,st,show 4+i*4+2=4+(i*4+2) by omega,st,show 4+i*4+3=4+(i*4+3) by omega,st]
theorem set_same {l:List Value} {n:Nat} {a:Value} (h:l[n]?=some a):l.set n a=l:=by
 apply List.ext_getElem?
 intro m
 rw [List.getElem?_set]
 by_cases e:n=m
 ·subst e
  have hl:n<l.length:=by
   rcases Nat.lt_or_ge n l.length with q | q
   ·exact q
   ·rw [List.getElem?_eq_none q] at h
    cases h
  rw [if_pos rfl,if_pos hl,h]
 ·rw [if_neg e]
theorem rowS_set3 (R:List ((Int×Int×Int)×Value)) (i:Nat) (u:Value) (h:i<R.length):(rowS R).set (i*4+3) u=rowS (R.set i (R[i].1,u)):=by
 rw [← rowS_set R i R[i].1 u h]
 obtain ⟨h0,h1,h2,_⟩:=rowS_at R i h
 rw [set_same h0,set_same h1,set_same h2]
def TrisAt (w:World) (v:Value) (l:List (Int×Int×Int)):Prop := ∃ a c,v=.slice a l.length c∧TRow w a l
theorem TrisAt.kept {w w':World} {v:Value} {l:List (Int×Int×Int)} (h:TrisAt w v l) (hb:Below w.heap.size w w'):TrisAt w' v l:=by
 obtain ⟨a,c,e,ht⟩:=h
 exact ⟨a,c,e,ht.kept hb⟩
theorem TRow.grownN {w w':World} {pa:Option Addr} {l:List (Int×Int×Int)} {row:Option Nat} (h:TRow w pa l) (hg:w.grownBy w' row) (hn:∀ g,pa=some ⟨g,0,none⟩→some g≠row):TRow w' pa l:=fun i hi=>by
 obtain ⟨g,e,c0,c1,c2⟩:=h i hi
 have hne:=hn g e
 exact ⟨g,e,hg.cell c0 hne,hg.cell c1 hne,hg.cell c2 hne⟩
theorem TrisAt.grown {w w':World} {v:Value} {l:List (Int×Int×Int)} {row:Option Nat} (h:TrisAt w v l) (hg:w.grownBy w' row) (hn:∀ g,v.ownBlock=some g→some g≠row):TrisAt w' v l:=by
 obtain ⟨a,c,rfl,ht⟩:=h
 exact ⟨a,c,rfl,ht.grownN hg fun g e=>hn g (by rw [e];rfl)⟩
structure HSt (w0 wx:World) (B:Nat) (p0 p1 p2 p3 p4 v:Value) (R:List ((Int×Int×Int)×Value)) (S:List ((Int×Int×Int)×List (Int×Int×Int))):Prop where
 c0:wx.cell? ⟨B,0,none⟩=some p0
 c1:wx.cell? ⟨B,1,none⟩=some p1
 c2:wx.cell? ⟨B,2,none⟩=some p2
 c3:wx.cell? ⟨B,3,none⟩=some p3
 c4:wx.cell? ⟨B,4,none⟩=some p4
 c5:wx.cell? ⟨B,5,none⟩=some v
 f5:wx.frozen? ⟨B,5,none⟩=false
 own:wx.ownsRow (B+1) 102 4 v R.length (rowS R)
 apart:∀ s∈R,∀ g,s.2.ownBlock=some g→B<g∧g<wx.heap.size∧v.ownBlock≠some g
 len:R.length=S.length
 hold:∀ i (h:i<R.length) (h':i<S.length),R[i].1=S[i].1∧TrisAt wx R[i].2 S[i].2
 low:w0.heap.size≤B
 bel:Below w0.heap.size w0 wx
theorem HSt.lt {w0 wx:World} {B:Nat} {p0 p1 p2 p3 p4 v:Value} {R:List ((Int×Int×Int)×Value)} {S:List ((Int×Int×Int)×List (Int×Int×Int))} (h:HSt w0 wx B p0 p1 p2 p3 p4 v R S):B<wx.heap.size:=World.block_lt_of_cell? _ _ h.c0
theorem HSt.kept {w0 wx w':World} {B:Nat} {p0 p1 p2 p3 p4 v:Value} {R:List ((Int×Int×Int)×Value)} {S:List ((Int×Int×Int)×List (Int×Int×Int))} (h:HSt w0 wx B p0 p1 p2 p3 p4 v R S) (hb:Below wx.heap.size wx w'):HSt w0 w' B p0 p1 p2 p3 p4 v R S :=
 ⟨cl_kept hb h.c0,cl_kept hb h.c1,cl_kept hb h.c2,cl_kept hb h.c3,cl_kept hb h.c4,cl_kept hb h.c5,(hb.frozen h.lt).trans h.f5,own_below h.own hb,fun s hs g hg=>by
  have:=h.apart s hs g hg
  exact ⟨this.1,Nat.lt_of_lt_of_le this.2.1 hb.size,this.2.2⟩,h.len,fun i hi hi'=>⟨(h.hold i hi hi').1,(h.hold i hi hi').2.kept hb⟩,h.low,bl_via h.bel hb⟩
theorem HSt.more {w0 wx w2:World} {B:Nat} {p0 p1 p2 p3 p4 v v':Value} {R:List ((Int×Int×Int)×Value)} {S:List ((Int×Int×Int)×List (Int×Int×Int))} (h:HSt w0 wx B p0 p1 p2 p3 p4 v R S) (hg:wx.grownBy w2 v.ownBlock) (ho:w2.ownsRow (B+1) 102 4 v' (R.length+1) (rowS R ++ [.int .i64 0,.int .i64 0,.int .i64 0,.slice none 0 0])) (hv:v'.ownBlock=v.ownBlock∨v'.ownBlock=some wx.heap.size) :
  HSt w0 (w2.setCell ⟨B,5,none⟩ v') B p0 p1 p2 p3 p4 v' (R ++ [((0,0,0),.slice none 0 0)]) (S ++ [((0,0,0),[])]):=by
 have hn:some B≠v.ownBlock:=fun e=>by
  have:=own_base h.own B e.symm
  omega
 have hn':v'.ownBlock≠some B:=fun e=>by
  have:=own_base ho B e
  omega
 have g1:=h.bel.grown hg h.bel.size (fun k hk=>by have:=own_base h.own k hk;have:=h.low;omega)
 have gB:=grown_cell w2 B 5 v'
 have c5:=hg.cell h.c5 hn
 have f5:w2.frozen? ⟨B,5,none⟩=false:=(World.frozen?_of_block (a:=⟨B,5,none⟩) (hg.block B h.lt hn)).trans h.f5
 refine ⟨st_else (hg.cell h.c0 hn) (by omega),st_else (hg.cell h.c1 hn) (by omega),st_else (hg.cell h.c2 hn) (by omega),st_else (hg.cell h.c3 hn) (by omega),st_else (hg.cell h.c4 hn) (by omega),st_same c5,by simp [go_sem,f5], ?_, ?_,by simp [h.len], ?_,h.low,g1.setCell (p:=⟨B,5,none⟩) h.low _⟩
 ·rw [rowS_add,List.length_append,List.length_singleton]
  exact ho.kept gB (Or.inr hn')
 ·intro s hs g hgb
  rcases List.mem_append.1 hs with hs | hs
  ·obtain ⟨a1,a2,a3⟩:=h.apart s hs g hgb
   refine ⟨a1,Nat.lt_of_lt_of_le a2 (Nat.le_trans hg.size gB.size),fun e=>?_⟩
   rcases hv with e2 | e2
   ·exact a3 (e2 ▸ e)
   ·rw [e2] at e
    cases e
    omega
  ·simp at hs
   subst hs
   simp [Value.ownBlock] at hgb
 ·intro i hi hi'
  by_cases hiR:i<R.length
  ·have hiS:i<S.length:=by rw [← h.len];exact hiR
   obtain ⟨e1,e2⟩:=h.hold i hiR hiS
   have q1:(R ++ [((0,0,0),Value.slice none 0 0)])[i]=R[i]:=List.getElem_append_left hiR
   have q2:(S ++ [((0,0,0),[])])[i]=S[i]:=List.getElem_append_left hiS
   rw [q1,q2]
   refine ⟨e1,(e2.grown hg fun g e=>?_).grown gB fun g e=>?_⟩
   ·exact fun e3=>(h.apart _ (List.getElem_mem hiR) g e).2.2 e3.symm
   ·have:=(h.apart _ (List.getElem_mem hiR) g e).1
    intro e3
    cases e3
    omega
  ·have e1:i=R.length:=by simp at hi;omega
   have e2:i=S.length:=by rw [e1,h.len]
   have q1:(R ++ [((0,0,0),Value.slice none 0 0)])[i]=((0,0,0),Value.slice none 0 0):=by
    rw [List.getElem_append_right (by omega)]
    simp [e1]
   have q2:(S ++ [((0,0,0),[])])[i]=((0,0,0),[]):=by
    rw [List.getElem_append_right (by omega)]
    simp [e2]
   rw [q1,q2]
   exact ⟨rfl,none,0,rfl,fun i hi=>by simp at hi⟩
theorem HSt.put {w0 wx w2:World} {B gv cv:Nat} {p0 p1 p2 p3 p4:Value} {R:List ((Int×Int×Int)×Value)} {S:List ((Int×Int×Int)×List (Int×Int×Int))} (h:HSt w0 wx B p0 p1 p2 p3 p4 (.slice (some ⟨gv,0,none⟩) R.length cv) R S) {i:Nat} (_hi:i<R.length) {t:Int×Int×Int} {u:Value} {l:List (Int×Int×Int)}
  (hg:wx.grownBy w2 (some gv)) (ho:w2.ownsRow (B+1) 102 4 (.slice (some ⟨gv,0,none⟩) R.length cv) R.length (rowS (R.set i (t,u)))) (hu:∀ g,u.ownBlock=some g→B<g∧g<wx.heap.size∧g≠gv) (hT:TrisAt wx u l) :
  HSt w0 w2 B p0 p1 p2 p3 p4 (.slice (some ⟨gv,0,none⟩) R.length cv) (R.set i (t,u)) (S.set i (t,l)):=by
 have hB:B+1≤gv:=own_base h.own gv rfl
 have hn:some B≠some gv:=fun e=>by
  cases e
  omega
 refine ⟨hg.cell h.c0 hn,hg.cell h.c1 hn,hg.cell h.c2 hn,hg.cell h.c3 hn,hg.cell h.c4 hn,hg.cell h.c5 hn,(World.frozen?_of_block (a:=⟨B,5,none⟩) (hg.block B h.lt hn)).trans h.f5,by rw [List.length_set];exact ho, ?_,by simp [h.len], ?_,h.low,h.bel.grown hg h.bel.size (fun k hk=>by cases hk;have:=h.low;omega)⟩
 ·intro s hs g hgb
  rcases List.mem_or_eq_of_mem_set hs with hs | hs
  ·obtain ⟨a1,a2,a3⟩:=h.apart s hs g hgb
   exact ⟨a1,Nat.lt_of_lt_of_le a2 hg.size,a3⟩
  ·subst hs
   obtain ⟨a1,a2,a3⟩:=hu g hgb
   refine ⟨a1,Nat.lt_of_lt_of_le a2 hg.size,fun e=>a3 ?_⟩
   cases e
   rfl
 ·intro j hj hj'
  rw [List.getElem_set,List.getElem_set]
  by_cases e:i=j
  ·rw [if_pos e,if_pos e]
   exact ⟨rfl,hT.grown hg fun g eg e2=>(hu g eg).2.2 (by cases e2;rfl)⟩
  ·rw [if_neg e,if_neg e]
   have hjR:j<R.length:=by simpa using hj
   have hjS:j<S.length:=by simpa using hj'
   obtain ⟨e1,e2⟩:=h.hold j hjR hjS
   exact ⟨e1,e2.grown hg fun g eg e3=>(h.apart _ (List.getElem_mem hjR) g eg).2.2 (by rw [e3];rfl)⟩
open Go.RowKit
theorem insN_at {h:Nat→Int} {i:Nat}:∀ (l:List Nat) (n:Nat),n≤l.length→(∀ j (hj:j<l.length),j<n→h l[j]<h i)→(∀ hn:n<l.length,¬ h l[n]<h i)→insN h i l=l.take n ++ i :: l.drop n
 | [],n,hn,_,_=>by
  have:n=0:=by simpa using hn
  subst this
  rfl
 | a :: r,0,_,_,h2=>by
  have:=h2 (by simp)
  simp at this
  unfold insN
  rw [if_neg (by omega)]
  rfl
 | a :: r,n+1,hn,h1,h2=>by
  have h0:=h1 0 (by simp) (by omega)
  simp at h0
  unfold insN
  rw [if_pos h0,insN_at r n (by simpa using hn) (fun j hj hjn=>h1 (j+1) (Nat.succ_lt_succ hj) (by omega)) (fun hn'=>h2 (Nat.succ_lt_succ hn'))]
  rfl
theorem insS_new {h:Nat→Int} {i:Nat} {at_:Int×Int×Int}:∀ (S:List ((Int×Int×Int)×List Nat)) (k:Nat),k≤S.length→(∀ j (hj:j<S.length),j<k→ltB S[j].1 at_=true)→(∀ hk:k<S.length,ltB S[k].1 at_=false∧S[k].1≠at_)→insS h i at_ S=S.take k ++ (at_,[i]) :: S.drop k
 | [],k,hk,_,_=>by
  have:k=0:=by simpa using hk
  subst this
  rfl
 | a :: r,0,_,_,h2=>by
  have:=h2 (by simp)
  simp at this
  unfold insS
  rw [if_neg (by simp [this.1]),if_neg this.2]
  rfl
 | a :: r,k+1,hk,h1,h2=>by
  have h0:=h1 0 (by simp) (by omega)
  simp at h0
  unfold insS
  rw [if_pos h0,insS_new r k (by simpa using hk) (fun j hj hjn=>h1 (j+1) (Nat.succ_lt_succ hj) (by omega)) (fun hk'=>h2 (Nat.succ_lt_succ hk'))]
  rfl
theorem insS_old {h:Nat→Int} {i:Nat} {at_:Int×Int×Int}:∀ (S:List ((Int×Int×Int)×List Nat)) (k:Nat) (hk:k<S.length),(∀ j (hj:j<S.length),j<k→ltB S[j].1 at_=true)→S[k].1=at_→insS h i at_ S=S.set k (at_,insN h i S[k].2)
 | a :: r,0,_,_,h2=>by
  simp at h2
  have hn:¬ ltB a.1 at_=true:=fun e=>ltT_irr at_ (by rw [← h2] at e ⊢;exact ltB_iff.1 e)
  unfold insS
  rw [if_neg hn,if_pos h2]
  simp [h2]
 | a :: r,k+1,hk,h1,h2=>by
  have h0:=h1 0 (by simp) (by omega)
  simp at h0
  unfold insS
  rw [if_pos h0,insS_old r k (by simpa using hk) (fun j hj hjn=>h1 (j+1) (Nat.succ_lt_succ hj) (by omega)) h2]
  rfl
theorem shift_step {α:Type} (S:List α) (y : α) (j:Nat) (hj:j+1≤S.length):(S.take (j+1) ++ y :: S.drop (j+1)).set (j+1) (S[j]'(by omega))=S.take j ++ (S[j]'(by omega)) :: S.drop j:=by
 have e1:(S.take (j+1)).length=j+1:=by rw [List.length_take];omega
 have e2:S.drop j=S[j]'(by omega) :: S.drop (j+1):=List.drop_eq_getElem_cons (by omega)
 have e3:S.take (j+1)=S.take j ++ [S[j]'(by omega)]:=by
  rw [List.take_add_one,List.getElem?_eq_getElem (by omega)]
  rfl
 rw [List.set_append_right _ _ (by omega),e1,Nat.sub_self,List.set_cons_zero,← e2,e3,List.append_assoc]
 rfl
theorem shift_put {α:Type} (S:List α) (x y : α) (k:Nat) (hk:k≤S.length):(S.take k ++ y :: S.drop k).set k x=S.take k ++ x :: S.drop k:=by
 have e1:(S.take k).length=k:=by rw [List.length_take];omega
 rw [List.set_append_right _ _ (by omega),e1,Nat.sub_self,List.set_cons_zero]
theorem shift_start {α:Type} (S:List α) (y : α):S ++ [y]=S.take S.length ++ y :: S.drop S.length:=by simp
theorem shift_before {α:Type} (S:List α) (y : α) (j:Nat) (hj:j+1≤S.length):(S.take (j+1) ++ y :: S.drop (j+1))[j]?=some (S[j]'(by omega)):=by
 rw [List.getElem?_append_left (by rw [List.length_take];omega),List.getElem?_take_of_lt (by omega),List.getElem?_eq_getElem (by omega)]
def flatM (M:Nat→M6) (n:Nat):List Value:=(List.range n).flatMap fun i=>[.int .i64 (M i).1,.int .i64 (M i).2.1,.int .i64 (M i).2.2.1,.int .i64 (M i).2.2.2.1,.int .i64 (M i).2.2.2.2.1,.int .i64 (M i).2.2.2.2.2]
theorem flatM_succ (M:Nat→M6) (n:Nat):flatM M (n+1)=flatM M n ++ [.int .i64 (M n).1,.int .i64 (M n).2.1,.int .i64 (M n).2.2.1,.int .i64 (M n).2.2.2.1,.int .i64 (M n).2.2.2.2.1,.int .i64 (M n).2.2.2.2.2]:=by
 unfold flatM
 rw [List.range_succ,List.flatMap_append]
 simp
theorem flatM_len (M:Nat→M6):∀ n,(flatM M n).length=n*6
 | 0=>rfl
 | n+1=>by
  rw [flatM_succ,List.length_append,flatM_len M n]
  simp
  omega
theorem flatM_at (M:Nat→M6):∀ (n i:Nat),i<n→(flatM M n)[i*6]?=some (.int .i64 (M i).1)∧(flatM M n)[i*6+1]?=some (.int .i64 (M i).2.1)∧(flatM M n)[i*6+2]?=some (.int .i64 (M i).2.2.1)∧(flatM M n)[i*6+3]?=some (.int .i64 (M i).2.2.2.1)∧(flatM M n)[i*6+4]?=some (.int .i64 (M i).2.2.2.2.1)∧(flatM M n)[i*6+5]?=some (.int .i64 (M i).2.2.2.2.2)
 | 0,i,h=>by omega
 | n+1,i,h=>by
  have hl:=flatM_len M n
  rw [flatM_succ]
  by_cases e:i=n
  ·subst e
   refine ⟨?_, ?_, ?_, ?_, ?_, ?_⟩
   all_goals
    rw [List.getElem?_append_right (by omega)]
    simp [hl]
  ·obtain ⟨h0,h1,h2,h3,h4,h5⟩:=flatM_at M n i (by omega)
   refine ⟨?_, ?_, ?_, ?_, ?_, ?_⟩
   all_goals
    rw [List.getElem?_append_left (by omega)]
    assumption
theorem MRow.flat {w:World} {g n:Nat} {M:Nat→M6} (h:MRow w g n M):∀ j u,(flatM M n)[j]?=some u→w.cell? ((⟨g,0,none⟩:Addr).add j)=some u:=fun j u hu=>by
 have hj:j<n*6:=by
  rcases Nat.lt_or_ge j (n*6) with q | q
  ·exact q
  ·rw [List.getElem?_eq_none (by rw [flatM_len];exact q)] at hu
   cases hu
 have hi:j / 6<n:=by omega
 obtain ⟨⟨c0,c1,c2,c3,c4,c5⟩,_⟩:=h (j / 6) hi
 obtain ⟨f0,f1,f2,f3,f4,f5⟩:=flatM_at M n (j / 6) hi
 have ej:(⟨g,0,none⟩:Addr).add j=⟨g,j,none⟩:=by simp [Addr.add] <;> omega
 rw [ej]
 have:j % 6=0∨j % 6=1∨j % 6=2∨j % 6=3∨j % 6=4∨j % 6=5:=by omega
 rcases this with e | e | e | e | e | e
 ·have q:j=j / 6*6:=by omega
  rw [q] at hu ⊢
  rw [f0] at hu
  rw [c0]
  exact hu
 ·have q:j=j / 6*6+1:=by omega
  rw [q] at hu ⊢
  rw [f1] at hu
  rw [c1]
  exact hu
 ·have q:j=j / 6*6+2:=by omega
  rw [q] at hu ⊢
  rw [f2] at hu
  rw [c2]
  exact hu
 ·have q:j=j / 6*6+3:=by omega
  rw [q] at hu ⊢
  rw [f3] at hu
  rw [c3]
  exact hu
 ·have q:j=j / 6*6+4:=by omega
  rw [q] at hu ⊢
  rw [f4] at hu
  rw [c4]
  exact hu
 ·have q:j=j / 6*6+5:=by omega
  rw [q] at hu ⊢
  rw [f5] at hu
  rw [c5]
  exact hu
theorem own_maps {w:World} {base g n c:Nat} {M:Nat→M6} (h:w.ownsRow base 89 6 (.slice (some ⟨g,0,none⟩) n c) n (flatM M n)):MRow w g n M:=fun i hi=>by
 obtain ⟨f0,f1,f2,f3,f4,f5⟩:=flatM_at M n i hi
 exact ⟨⟨(h.cellAt _ (by omega)).trans f0,(h.cellAt _ (by omega)).trans f1,(h.cellAt _ (by omega)).trans f2,(h.cellAt _ (by omega)).trans f3,(h.cellAt _ (by omega)).trans f4,(h.cellAt _ (by omega)).trans f5⟩,h.frozenAt _,h.frozenAt _,h.frozenAt _,h.frozenAt _,h.frozenAt _,h.frozenAt _⟩
open Go.RowKit Go.ChangeMaps
def hpN (pl:Nat→Int×Int×Int) (h:Nat→Int):Nat→List ((Int×Int×Int)×List Nat)
 | 0=>[]
 | i+1=>insS h i (pl i) (hpN pl h i)
theorem insS_len (h:Nat→Int) (i:Nat) (a:Int×Int×Int):∀ S:List ((Int×Int×Int)×List Nat),(insS h i a S).length≤S.length+1
 | []=>by simp [insS]
 | s :: r=>by
  have:=insS_len h i a r
  unfold insS
  repeat' split
  all_goals (simp only [List.length_cons];omega)
theorem hpN_len (pl:Nat→Int×Int×Int) (h:Nat→Int):∀ i,(hpN pl h i).length≤i
 | 0=>by simp [hpN]
 | i+1=>by
  have:=hpN_len pl h i
  have:=insS_len h i (pl i) (hpN pl h i)
  unfold hpN
  omega
def tg (L:List (Int×Int×Int)) (j:Nat):Int×Int×Int:=L.getD j (0,0,0)
def trS (L:List (Int×Int×Int)) (S:List ((Int×Int×Int)×List Nat)):List ((Int×Int×Int)×List (Int×Int×Int)):=S.map fun s=>(s.1,s.2.map (tg L))
def hvs (hs:List Int) (k:Nat):Int:=hs.getD k 0
def mvP (L:List (Int×Int×Int)) (M:Nat→M6) (i:Nat):Int×Int×Int:=mvt (M i) (tg L i)
theorem own_sliceW {w:World} {base e k n:Nat} {v:Value} {xs:List Value} (h:w.ownsRow base e k v n xs) (hn:0<n):∃ g q,v=.slice (some ⟨g,0,none⟩) n q:=by
 rcases h.2 with ⟨_,h0⟩ | ⟨g,cap,cur,hv,_⟩
 ·omega
 ·exact ⟨g,cap,hv⟩
theorem box3 {w w8:World} (hb:Below (w.drew.alloc (.cells #[.int .i64 0,.int .i64 0,.int .i64 0] 56)).heap.size (w.drew.alloc (.cells #[.int .i64 0,.int .i64 0,.int .i64 0] 56)) w8):w8.cell? ⟨w.heap.size,0,none⟩=some (.int .i64 0)∧w8.cell? ⟨w.heap.size,1,none⟩=some (.int .i64 0)∧w8.cell? ⟨w.heap.size,2,none⟩=some (.int .i64 0)∧w8.frozen? ⟨w.heap.size,0,none⟩=false∧w8.frozen? ⟨w.heap.size,1,none⟩=false∧w8.frozen? ⟨w.heap.size,2,none⟩=false :=
 ⟨cl_kept hb (by simp [go_sem]),cl_kept hb (by simp [go_sem]),cl_kept hb (by simp [go_sem]),(Below.frozen hb (by simp)).trans (by simp [go_sem]),(Below.frozen hb (by simp)).trans (by simp [go_sem]),(Below.frozen hb (by simp)).trans (by simp [go_sem])⟩
theorem box3k {w w8:World} {G:Prop} (hb:Below (w.drew.alloc (.cells #[.int .i64 0,.int .i64 0,.int .i64 0] 56)).heap.size (w.drew.alloc (.cells #[.int .i64 0,.int .i64 0,.int .i64 0] 56)) w8) (h:(w8.cell? ⟨w.heap.size,0,none⟩=some (.int .i64 0)∧w8.cell? ⟨w.heap.size,1,none⟩=some (.int .i64 0)∧w8.cell? ⟨w.heap.size,2,none⟩=some (.int .i64 0)∧w8.frozen? ⟨w.heap.size,0,none⟩=false∧w8.frozen? ⟨w.heap.size,1,none⟩=false∧w8.frozen? ⟨w.heap.size,2,none⟩=false)→G):G:=h (box3 hb)
def Past (S:List ((Int×Int×Int)×List Nat)) (P:Int×Int×Int) (k:Nat):Prop := ∀ j (hj:j<S.length),j<k→ltB S[j].1 P=true
def Found (S:List ((Int×Int×Int)×List Nat)) (P:Int×Int×Int) (k:Nat):Prop:=Past S P k∧∀ hk:k<S.length,ltB S[k].1 P=false
theorem past_next {S:List ((Int×Int×Int)×List Nat)} {P:Int×Int×Int} {k:Nat} (h:Past S P k) (hk:k<S.length) (hl:ltB S[k].1 P=true):Past S P (k+1):=fun j hj hjk=>by
 by_cases e:j=k
 ·subst e
  exact hl
 ·exact h j hj (by omega)
theorem own_any {w:World} {base e k n:Nat} {v:Value} {xs:List Value} (h:w.ownsRow base e k v n xs):∃ a c,v=.slice a n c:=by
 rcases h.2 with ⟨e1,e2⟩ | ⟨g,cap,cur,hv,_⟩
 ·subst e2
  exact ⟨none,0,e1⟩
 ·exact ⟨_,cap,hv⟩
theorem own_some2 {w:World} {base e k n m c:Nat} {a:Option Addr} {xs:List Value} (h:w.ownsRow base e k (.slice a m c) n xs) (h0:0<n):∃ g,a=some ⟨g,0,none⟩:=by
 obtain ⟨g,q,e⟩:=own_sliceW h h0
 cases e
 exact ⟨g,rfl⟩
theorem HSt.cells {w0 wx:World} {B gv r cv:Nat} {p0 p1 p2 p3 p4:Value} {R:List ((Int×Int×Int)×Value)} {S:List ((Int×Int×Int)×List (Int×Int×Int))} (h:HSt w0 wx B p0 p1 p2 p3 p4 (.slice (some ⟨gv,0,none⟩) r cv) R S) (hr:r=R.length) {k:Nat} (hk:k<R.length):wx.cell? ⟨gv,k*4,none⟩=some (.int .i64 R[k].1.1)∧wx.cell? ⟨gv,k*4+1,none⟩=some (.int .i64 R[k].1.2.1)∧wx.cell? ⟨gv,k*4+2,none⟩=some (.int .i64 R[k].1.2.2)∧wx.cell? ⟨gv,k*4+3,none⟩=some R[k].2:=by
 obtain ⟨e0,e1,e2,e3⟩:=rowS_at R k hk
 have hl:=rowS_len R
 subst hr
 have ho:=h.own
 exact ⟨(ho.cellAt (k*4) (by omega)).trans e0,(ho.cellAt (k*4+1) (by omega)).trans e1,(ho.cellAt (k*4+2) (by omega)).trans e2,(ho.cellAt (k*4+3) (by omega)).trans e3⟩
theorem neq85 (x y k X Y K:Int) (w:World) :
  (binOp .neq 56 (.agg #[.int .i64 x,.int .i64 y,.int .i64 k]) (.agg #[.int .i64 X,.int .i64 Y,.int .i64 K])).run Tryz.prog w=.ok (.bool (!sameT x y k X Y K)) w:=by
 by_cases h1:x=X
 ·subst h1
  by_cases h2:y=Y
  ·subst h2
   by_cases h3:k=K
   ·subst h3
    simp [go_sem,sameT]
   ·have e:(k == K)=false:=by simpa using h3
    simp [go_sem,sameT,e,h3]
  ·have e:(y == Y)=false:=by simpa using h2
   simp [go_sem,sameT,e,h2]
 ·have e:(x == X)=false:=by simpa using h1
  simp [go_sem,sameT,e,h1]
def withP (S:List ((Int×Int×Int)×List Nat)) (P:Int×Int×Int) (k:Nat):List ((Int×Int×Int)×List Nat):=if decide (¬ ∃ h:k<S.length,S[k].1=P)=true then S.take k ++ (P,[]) :: S.drop k else S
def ShiftS (w4 wx:World) (B _r:Nat) (v:Value) (R:List ((Int×Int×Int)×Value)) (T:List ((Int×Int×Int)×List (Int×Int×Int))) (A:Nat) (P0 P1 P2:Int) (p0 p1 p2 p3 p4:Value) (j:Nat):Prop := ∃ y z,HSt w4 wx B p0 p1 p2 p3 p4 v (R.take j ++ y :: R.drop j) (T.take j ++ z :: T.drop j)∧wx.cell? ⟨A,0,none⟩=some (.int .i64 P0)∧wx.cell? ⟨A,1,none⟩=some (.int .i64 P1)∧wx.cell? ⟨A,2,none⟩=some (.int .i64 P2)
theorem HSt.put4 {w0 wx:World} {B gv cv r:Nat} {p0 p1 p2 p3 p4:Value} {R:List ((Int×Int×Int)×Value)} {S:List ((Int×Int×Int)×List (Int×Int×Int))} (h:HSt w0 wx B p0 p1 p2 p3 p4 (.slice (some ⟨gv,0,none⟩) r cv) R S) (hr:r=R.length) {i:Nat} (hi:i<R.length) (t:Int×Int×Int) (u:Value) (l:List (Int×Int×Int)) (hu:∀ g,u.ownBlock=some g→B<g∧g<wx.heap.size∧g≠gv) (hT:TrisAt wx u l) :
  HSt w0 ((((wx.setCell ⟨gv,i*4,none⟩ (.int .i64 t.1)).setCell ⟨gv,i*4+1,none⟩ (.int .i64 t.2.1)).setCell ⟨gv,i*4+2,none⟩ (.int .i64 t.2.2)).setCell ⟨gv,i*4+3,none⟩ u) B p0 p1 p2 p3 p4 (.slice (some ⟨gv,0,none⟩) r cv) (R.set i (t,u)) (S.set i (t,l)):=by
 subst hr
 obtain ⟨o1,g1⟩:=h.own.stored (i*4) (.int .i64 t.1)
 obtain ⟨o2,g2⟩:=o1.stored (i*4+1) (.int .i64 t.2.1)
 obtain ⟨o3,g3⟩:=o2.stored (i*4+2) (.int .i64 t.2.2)
 obtain ⟨o4,g4⟩:=o3.stored (i*4+3) u
 rw [rowS_set R i t u hi] at o4
 exact h.put hi (gb_then (gb_then (gb_then g1 g2) g3) g4) o4 hu hT
theorem wrap_small {a:Int} (h:0≤a∧a≤300):IntKind.i64.wrap a=a:=by rw [IntKind.wrap_i64];omega
theorem insS_mem (h:Nat→Int) (i:Nat) (a:Int×Int×Int):∀ S:List ((Int×Int×Int)×List Nat),∀ s∈insS h i a S,∀ j∈s.2,j=i∨∃ s'∈S,j∈s'.2
 | []=>by simp [insS]
 | x :: r=>by
  intro s hs j hj
  unfold insS at hs
  split at hs
  ·rcases List.mem_cons.1 hs with rfl | hs
   ·exact Or.inr ⟨_,by simp,hj⟩
   ·rcases insS_mem h i a r s hs j hj with e | ⟨s',h1,h2⟩
    ·exact Or.inl e
    ·exact Or.inr ⟨s',by simp [h1],h2⟩
  ·split at hs
   ·rcases List.mem_cons.1 hs with rfl | hs
    ·rcases mem_insN.1 hj with e | e
     ·exact Or.inl e
     ·exact Or.inr ⟨x,by simp,e⟩
    ·exact Or.inr ⟨s,by simp [hs],hj⟩
   ·rcases List.mem_cons.1 hs with rfl | hs
    ·simp at hj
     exact Or.inl hj
    ·exact Or.inr ⟨s,hs,hj⟩
theorem hpN_lt (pl:Nat→Int×Int×Int) (h:Nat→Int):∀ i,∀ s∈hpN pl h i,∀ j∈s.2,j<i
 | 0=>by simp [hpN]
 | i+1=>fun s hs j hj=>by
  unfold hpN at hs
  rcases insS_mem h i (pl i) _ s hs j hj with e | ⟨s',h1,h2⟩
  ·omega
  ·have:=hpN_lt pl h i s' h1 j h2
   omega
theorem insN_len (h:Nat→Int) (i:Nat):∀ l:List Nat,(insN h i l).length=l.length+1
 | []=>by simp [insN]
 | x :: r=>by
  unfold insN
  split
  ·simp [insN_len h i r]
  ·simp
theorem insS_lens (h:Nat→Int) (i:Nat) (a:Int×Int×Int) (b:Nat):∀ S:List ((Int×Int×Int)×List Nat),(∀ s∈S,s.2.length≤b)→∀ s∈insS h i a S,s.2.length≤b+1
 | [],_=>by simp [insS]
 | x :: r,hS=>by
  intro s hs
  unfold insS at hs
  split at hs
  ·rcases List.mem_cons.1 hs with rfl | hs
   ·have:=hS s (by simp)
    omega
   ·exact insS_lens h i a b r (fun q hq=>hS q (by simp [hq])) s hs
  ·split at hs
   ·rcases List.mem_cons.1 hs with rfl | hs
    ·have:=hS x (by simp)
     simp only [insN_len]
     omega
    ·have:=hS s (by simp [hs])
     omega
   ·rcases List.mem_cons.1 hs with rfl | hs
    ·simp
    ·have:=hS s hs
     omega
theorem hpN_lens (pl:Nat→Int×Int×Int) (h:Nat→Int):∀ i,∀ s∈hpN pl h i,s.2.length≤i
 | 0=>by simp [hpN]
 | i+1=>by
  unfold hpN
  exact insS_lens h i (pl i) i _ (hpN_lens pl h i)
def Spot (h:Nat→Int) (i:Nat) (l:List Nat) (p:Nat):Prop:=(∀ j (hj:j<l.length),j<p→h l[j]<h i)∧∀ hp:p<l.length,¬ h l[p]<h i
def LowN (h:Nat→Int) (i:Nat) (l:List Nat) (p:Nat):Prop := ∀ j (hj:j<l.length),j<p→h l[j]<h i
theorem lowN_next {h:Nat→Int} {i p:Nat} {l:List Nat} (hL:LowN h i l p) (hp:p<l.length) (hl:h l[p]<h i):LowN h i l (p+1):=fun j hj hjp=>by
 by_cases e:j=p
 ·subst e
  exact hl
 ·exact hL j hj (by omega)
theorem withP_at {S:List ((Int×Int×Int)×List Nat)} {P:Int×Int×Int} {k:Nat} (h:Nat→Int) (i:Nat) (hF:Found S P k) (hk:k≤S.length):∃ hk':k<(withP S P k).length,(withP S P k)[k].1=P∧(∀ j∈(withP S P k)[k].2,∃ s∈S,j∈s.2)∧insS h i P S=(withP S P k).set k (P,insN h i (withP S P k)[k].2)∧((withP S P k)[k].2=[]∨∃ s∈S,(withP S P k)[k].2=s.2):=by
 by_cases e:∃ h:k<S.length,S[k].1=P
 ·have ew:withP S P k=S:=by
   unfold withP
   rw [if_neg (by simpa using e)]
  obtain ⟨h1,h2⟩:=e
  rw [ew]
  exact ⟨h1,h2,fun j hj=>⟨_,List.getElem_mem h1,hj⟩,insS_old S k h1 hF.1 h2,Or.inr ⟨_,List.getElem_mem h1,rfl⟩⟩
 ·have ew:withP S P k=S.take k ++ (P,[]) :: S.drop k:=by
   unfold withP
   rw [if_pos (by simpa using e)]
  rw [ew]
  have eg:(S.take k ++ (P,[]) :: S.drop k)[k]'(by simp;omega)=(P,[]):=by
   rw [List.getElem_append_right (by simp;omega)]
   simp [Nat.min_eq_left hk]
  refine ⟨by simp;omega,by rw [eg],by rw [eg];simp, ?_,Or.inl (by rw [eg])⟩
  rw [eg,shift_put S (P,insN h i []) (P,[]) k hk]
  exact insS_new S k hk hF.1 (fun hk'=>⟨hF.2 hk',fun e9=>e ⟨hk',e9⟩⟩)
def CapsOk (R:List ((Int×Int×Int)×Value)):Prop := ∀ x∈R,∀ a n c,x.2=.slice a n c→n≤c
theorem caps_put {R:List ((Int×Int×Int)×Value)} (h:CapsOk R) (t:Int×Int×Int) (k:Nat):CapsOk (R.take k ++ (t,.slice none 0 0) :: R.drop k):=fun x hx a n c e=>by
 rcases List.mem_append.1 hx with hx | hx
 ·exact h x (List.mem_of_mem_take hx) a n c e
 ·rcases List.mem_cons.1 hx with rfl | hx
  ·simp at e
   omega
  ·exact h x (List.mem_of_mem_drop hx) a n c e
theorem flatV_len3:∀ l:List (Int×Int×Int),(flatV l).length=l.length*3
 | []=>rfl
 | x :: r=>by
  have:=flatV_len3 r
  simp only [flatV,List.flatMap_cons,List.length_append,List.length_cons,List.length_nil] at this ⊢
  omega
theorem flatV_one (l:List (Int×Int×Int)):∀ u∈flatV l,u.oneCell'=true:=fun u hu=>by
 simp only [flatV,List.mem_flatMap] at hu
 obtain ⟨x,_,hx⟩:=hu
 simp at hx
 rcases hx with rfl | rfl | rfl <;> rfl
theorem trow_flat {w:World} {g:Nat} {l:List (Int×Int×Int)} (h:TRow w (some ⟨g,0,none⟩) l) (j:Nat) (u:Value) (hu:(flatV l)[j]?=some u):w.cell? ⟨g,j,none⟩=some u:=by
 have hj:j<(flatV l).length:=(List.getElem?_eq_some_iff.1 hu).1
 rw [flatV_len3] at hj
 obtain ⟨q,hq⟩:∃ q,q=j / 3:=⟨_,rfl⟩
 have hql:q<l.length:=by omega
 obtain ⟨g',e,c0,c1,c2⟩:=h q hql
 cases e
 obtain ⟨f0,f1,f2⟩:=flatV_at l q hql
 have e3:j=q*3∨j=q*3+1∨j=q*3+2:=by omega
 clear hq hj
 rcases e3 with rfl | rfl | rfl
 ·rw [f0] at hu
  exact c0.trans hu
 ·rw [f1] at hu
  exact c1.trans hu
 ·rw [f2] at hu
  exact c2.trans hu
theorem trow_take {w:World} {g:Nat} {l:List (Int×Int×Int)} (h:TRow w (some ⟨g,0,none⟩) l) (p j:Nat) (u:Value) (hu:(flatV (l.take p))[j]?=some u):w.cell? ⟨g,j,none⟩=some u:=by
 refine trow_flat h j u ?_
 have e:flatV l=flatV (l.take p) ++ flatV (l.drop p):=by rw [← flatV_add,List.take_append_drop]
 rw [e,List.getElem?_append_left (List.getElem?_eq_some_iff.1 hu).1]
 exact hu
theorem addr_add (g o j:Nat):(⟨g,o,none⟩:Addr).add j=⟨g,o+j,none⟩:=by
 unfold Addr.add
 split <;> simp_all
theorem trow_drop {w:World} {g:Nat} {l:List (Int×Int×Int)} (h:TRow w (some ⟨g,0,none⟩) l) (p j:Nat) (u:Value) (hu:(flatV (l.drop p))[j]?=some u):w.cell? ⟨g,p*3+j,none⟩=some u:=by
 refine trow_flat h _ u ?_
 have e:flatV l=flatV (l.take p) ++ flatV (l.drop p):=by rw [← flatV_add,List.take_append_drop]
 have hj:j<(flatV (l.drop p)).length:=(List.getElem?_eq_some_iff.1 hu).1
 rw [flatV_len3,List.length_drop] at hj
 have hl:(flatV (l.take p)).length=p*3:=by rw [flatV_len3,List.length_take,Nat.min_eq_left (by omega)]
 rw [e,List.getElem?_append_right (by omega),hl,Nat.add_sub_cancel_left]
 exact hu
theorem hst_nil {w W5:World} {B:Nat} {p0 p1 p2 p3 p4:Value} (c0:W5.cell? ⟨B,0,none⟩=some p0) (c1:W5.cell? ⟨B,1,none⟩=some p1) (c2:W5.cell? ⟨B,2,none⟩=some p2) (c3:W5.cell? ⟨B,3,none⟩=some p3) (c4:W5.cell? ⟨B,4,none⟩=some p4) (c5:W5.cell? ⟨B,5,none⟩=some (.slice none 0 0)) (f5:W5.frozen? ⟨B,5,none⟩=false) (hB:w.heap.size≤B) (hb:Below w.heap.size w W5):HSt w W5 B p0 p1 p2 p3 p4 (.slice none 0 0) [] [] :=
 ⟨c0,c1,c2,c3,c4,c5,f5,⟨by simp [rowS],Or.inl ⟨rfl,rfl⟩⟩,by simp,rfl,fun i hi=>by simp at hi,hB,hb⟩
end Go.Proofs.YtgpjaecgkkgehaaGreatDoor
