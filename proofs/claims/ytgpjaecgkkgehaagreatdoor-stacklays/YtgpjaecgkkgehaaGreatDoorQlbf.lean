/- A part of the proof of stackLays_holds. -/
import Derived.Test.YtgpjaecgkkgehaaGreatDoorQlaq
import Derived.Test.YtgpjaecgkkgehaaGreatDoorQlad
import Derived.Shelf.SlSortCmp.Kit1
import Derived.Test.YtgpjaecgkkgehaaGreatDoorQlbb
import Derived.Test.YtgpjaecgkkgehaaGreatDoorQlap
import Derived.Test.YtgpjaecgkkgehaaGreatDoorQlbe
import Derived.Test.YtgpjaecgkkgehaaGreatDoorQlac
import Derived.Test.YtgpjaecgkkgehaaGreatDoorQlal
set_option maxRecDepth 100000
set_option maxHeartbeats 40000000
namespace Go.Proofs.YtgpjaecgkkgehaaGreatDoor
open Go.RowKit Go.Shelf Go.Lib
open Go.Sort hiding Below
attribute [local go_sem ↓] Go.wp_at_zero Go.wp_at_succ
def GD (w w':World):Prop := ∃q os,w'=grow (w.drewN q) os
theorem gd_refl (w:World):GD w w:=⟨0,#[],by rw [grow_empty];rfl⟩
theorem gd_alloc {w v:World} {o:Obj} (h:GD w v):GD w (v.alloc o):=by
 obtain ⟨q,os,rfl⟩:=h
 exact ⟨q,os ++ #[o],by rw [alloc_eq_grow,grow_grow]⟩
theorem gd_drew {w v:World} (h:GD w v):GD w v.drew:=by
 obtain ⟨q,os,rfl⟩:=h
 exact ⟨q+1,os,rfl⟩
theorem gd_via {w v u:World} (h:GD w v) (k:GD v u):GD w u:=by
 obtain ⟨q,os,rfl⟩:=h
 obtain ⟨q2,os2,rfl⟩:=k
 refine ⟨q+q2,os++os2,?_⟩
 rw [←grow_grow]
 have e:(grow (w.drewN q) os).drewN q2=grow (w.drewN (q+q2)) os:=by
  simp [grow,World.drewN,Nat.add_assoc]
 rw [e]
theorem gd_below {w v:World} (h:GD w v):Bl w v:=by
 obtain ⟨q,os,rfl⟩:=h
 exact ⟨rfl,rfl,rfl,by simp [grow,World.drewN],fun k hk=>heap_grow_old (w.drewN q) os hk⟩
theorem compareTris_gd (a b c p q r:Int) (w:World) :
  Calls Tryz.prog 113 #[.agg #[.int .i64 a,.int .i64 b,.int .i64 c],.agg #[.int .i64 p,.int .i64 q,.int .i64 r]] w fun e w'=>e=.returned (.int .i64 (cmpT a b c p q r))∧GD w w':=by
 go_enter Tryz.func113,Tryz.ntmps113
 go_wp2
 go_region_held3 (fun w'=>w'.cell? ⟨w.heap.size,0,none⟩=some (.int .i64 a)∧w'.cell? ⟨w.heap.size,1,none⟩=some (.int .i64 b)∧w'.cell? ⟨w.heap.size,2,none⟩=some (.int .i64 c)∧w'.cell? ⟨w.heap.size+1,0,none⟩=some (.int .i64 p)∧w'.cell? ⟨w.heap.size+1,1,none⟩=some (.int .i64 q)∧w'.cell? ⟨w.heap.size+1,2,none⟩=some (.int .i64 r))
  ((refine ⟨?_,?_,?_,?_,?_,?_⟩<;>(repeat' (first|(with_reducible assumption)|(dsimp only;omega)|(simp [go_sem];done)|(with_reducible refine Qh ?_)|(with_reducible refine Qi ?_)))))
  (first|(go_at_call 146;refine (compare_any _ _ _).mono ?_;rintro e w2 ⟨rfl,rfl⟩)|(go_at_call 145;refine (or3_any (cmp3 b q) (cmp3 a p) (cmp3 c r) _ _ _ (by first|(simp [go_sem];done)|(simp [go_sem,World.cell?_alloc_past];done)) (by first|(simp [go_sem];done)|(simp [go_sem,World.cell?_alloc_past];done)) (by first|(simp [go_sem];done)|(simp [go_sem,World.cell?_alloc_past];done))).mono ?_;rintro e w3 ⟨rfl,rfl⟩))
 all_goals
  go_wp2
  go_ret
  refine ⟨rfl,?_⟩
  with_reducible repeat' (first|exact gd_refl _|refine gd_alloc ?_|refine gd_drew ?_)
structure Kig (W:World) where
 w:World
 h:GD W w
theorem Kig.cells (W:World):∀(n:Kig W) (b o:Nat),b<W.heap.size→n.w.cell? ⟨b,o,none⟩=W.cell? ⟨b,o,none⟩:=fun n b o hb=>(gd_below n.h).cell (p:=⟨b,o,none⟩) hb
theorem wp_region_kig {P:Program} {id:Nat} {Q:Exit→Act→World→Prop} {a:Act} {W:World} {l:List Oper} (hm:P.follows .mixedOrders=true) (hB:Region.lexB .any l.toArray=true)
  (h:wpQuiet P l.toArray (fun w'=>∃n:Kig W,w'=n.w) (fun a'=>∀w',(∃n:Kig W,w'=n.w)→Q .normal a' w') l a):(Code.region id l.toArray true).wp P Q a W :=
 wp_region_quiet (C:=fun w'=>∃n:Kig W,w'=n.w) hm hB ⟨⟨W.drew,gd_drew (gd_refl _)⟩,rfl⟩ (by simpa using h)
theorem kig_of {P:Program} {f:FuncId} {args:Array Value} {W:World} {n:Kig W} {v:Value}
  (h:Calls P f args n.w fun e w'=>e=.returned v∧GD n.w w'):Calls P f args n.w fun e w''=>e=.returned v∧∃m:Kig W,w''=m.w :=
 h.mono fun _ w' ⟨he,hb⟩=>⟨he,⟨w',gd_via n.h hb⟩,rfl⟩
def At3 (w:World) (g o:Nat) (t:Int×Int×Int):Prop:=w.cell? ⟨g,o,none⟩=some (.int .i64 t.1)∧w.cell? ⟨g,o+1,none⟩=some (.int .i64 t.2.1)∧w.cell? ⟨g,o+2,none⟩=some (.int .i64 t.2.2)
theorem piledCmp_gd (w:World) (pb gp n pc ga na ca gb nb cb i j:Nat) (s t:Int×Int×Int) (hp:w.cell? ⟨pb,4,none⟩=some (.slice (some ⟨gp,0,none⟩) n pc)) (hna:0<na) (hnb:0<nb) (ha:w.cell? ⟨ga,0,none⟩=some (.int .i64 (i:Int))) (hb:w.cell? ⟨gb,0,none⟩=some (.int .i64 (j:Int))) (hi:i<n) (hj:j<n) (hs:At3 w gp (i*3) s) (ht:At3 w gp (j*3) t) :
  Calls Tryz.prog 143 #[.slice (some ⟨ga,0,none⟩) na ca,.slice (some ⟨gb,0,none⟩) nb cb,.pointer (some ⟨pb,0,none⟩)] w fun e w'=>e=.returned (.int .i64 (cmpT s.1 s.2.1 s.2.2 t.1 t.2.1 t.2.2))∧GD w w':=by
 obtain ⟨s1,s2,s3⟩:=s
 obtain ⟨t1,t2,t3⟩:=t
 obtain ⟨p0,p1,p2⟩:=hs
 obtain ⟨q0,q1,q2⟩:=ht
 dsimp only at p0 p1 p2 q0 q1 q2
 dsimp only
 have C:Hid (∀W':World,Calls Tryz.prog 113 #[.agg #[.int .i64 s1,.int .i64 s2,.int .i64 s3],.agg #[.int .i64 t1,.int .i64 t2,.int .i64 t3]] W' fun e w'=>e=.returned (.int .i64 (cmpT s1 s2 s3 t1 t2 t3))∧GD W' w'):=fun W'=>compareTris_gd _ _ _ _ _ _ W'
 generalize cmpT s1 s2 s3 t1 t2 t3=z at C ⊢
 have z1:pb<w.heap.size:=bk hp
 have z2:ga<w.heap.size:=bk ha
 have z3:gb<w.heap.size:=bk hb
 have z4:gp<w.heap.size:=bk p0
 have i1:(i:Int)<(n:Int):=by omega
 have i2:(j:Int)<(n:Int):=by omega
 have i3:(0:Int)<(na:Int):=by omega
 have i4:(0:Int)<(nb:Int):=by omega
 have k1:(0:Int)≤(i:Int):=by omega
 have k2:(0:Int)≤(j:Int):=by omega
 go_enter Tryz.func143,Tryz.ntmps143
 go_wp2
 have kc:=Kig.cells w
 have kn:Nonempty (Kig w):=⟨⟨w,gd_refl _⟩⟩
 refine wp_region_kig (by kernel_rfl) (by kernel_rfl) ?_
 repeat (go_big_quiet_step ((go_at_call 113;exact kig_of (C.out _))))
 refine wpQuiet_nil ?_
 intro wq hw'
 obtain ⟨nq,hw''⟩:=hw'
 have hq:GD w wq:=hw'' ▸ nq.h
 clear hw'' nq kc kn
 have HG:Hid (GD w wq):=hq
 clear hq
 go_wp2
 go_ret
 exact ⟨rfl,HG.out⟩
end Go.Proofs.YtgpjaecgkkgehaaGreatDoor
namespace Go.Proofs.YtgpjaecgkkgehaaGreatDoor
open Go.RowKit
def kdT (vx vy:Int):Int:=if vx=1 then 1 else if vx=-1 then 3 else if vy=-1 then 0 else 2
def mvt (m:M6) (t:Int×Int×Int):Int×Int×Int :=
 ((m.1*(2*t.1+1)+m.2.1*(2*t.2.1+1)+m.2.2.2.2.1 - 1) / 2,(m.2.2.1*(2*t.1+1)+m.2.2.2.1*(2*t.2.1+1)+m.2.2.2.2.2 - 1) / 2,
  kdT (m.1*outX t.2.2+m.2.1*outY t.2.2) (m.2.2.1*outX t.2.2+m.2.2.2.1*outY t.2.2))
theorem map_even {a b c d e f:Int} (h:mapB a b c d e f=true):e % 2=0∧f % 2=0:=by
 unfold mapB at h
 simp only [Bool.and_eq_true,evenB,decide_eq_true_eq] at h
 omega
theorem k_four {k:Int} (h:0≤k∧k≤3):k=0∨k=1∨k=2∨k=3:=by omega
theorem mvt_facts {a b c d e f x y k:Int} (hm:GoodM (a,b,c,d,e,f) 48000) (hx:0≤x∧x≤8) (hy:0≤y∧y≤8) (hk:0≤k∧k≤3) {X Y K:Int} (hX:(X,Y,K)=mvt (a,b,c,d,e,f) (x,y,k)) :
  dot a b (2*x+1) (2*y+1)+e=2*X+1∧dot c d (2*x+1) (2*y+1)+f=2*Y+1∧(0≤K∧K≤3)∧dot a b (outX k) (outY k)=outX K∧dot c d (outX k) (outY k)=outY K∧triB X Y K=true∧triB x y k=true∧mapB a b c d e f=true:=by
 obtain ⟨h1,h2,h3⟩:=hm
 have h1:mapB a b c d e f=true:=h1
 have he:=map_even h1
 simp only [mvt,Prod.mk.injEq] at hX
 obtain ⟨eX,eY,eK⟩:=hX
 dsimp only at h2 h3
 rcases map_lin h1 with ⟨ha,rfl,rfl,hd⟩|⟨rfl,hb,hc,rfl⟩
 ·rcases ha with rfl|rfl<;>rcases hd with rfl|rfl<;>rcases k_four hk with rfl|rfl|rfl|rfl<;>simp [outX,outY,kdT,dot,triB,h1] at * <;> (subst eK;simp;omega)
 ·rcases hb with rfl|rfl<;>rcases hc with rfl|rfl<;>rcases k_four hk with rfl|rfl|rfl|rfl<;>simp [outX,outY,kdT,dot,triB,h1] at * <;> (subst eK;simp;omega)
theorem mvt_inj {m:M6} (hm:mapM m=true) {t u:Int×Int×Int} (ht:0≤t.2.2∧t.2.2≤3) (hu:0≤u.2.2∧u.2.2≤3) (h:mvt m t=mvt m u):t=u:=by
 obtain ⟨a,b,c,d,e,f⟩:=m
 obtain ⟨x,y,k⟩:=t
 obtain ⟨p,q,r⟩:=u
 have hm:mapB a b c d e f=true:=hm
 have he:=map_even hm
 simp only [mvt,Prod.mk.injEq] at h
 obtain ⟨eX,eY,eK⟩:=h
 dsimp only at ht hu
 simp only [Prod.mk.injEq]
 rcases map_lin hm with ⟨ha,rfl,rfl,hd⟩|⟨rfl,hb,hc,rfl⟩
 ·rcases ha with rfl|rfl<;>rcases hd with rfl|rfl<;>refine ⟨by omega,by omega,?_⟩<;>rcases k_four ht with rfl|rfl|rfl|rfl<;>rcases k_four hu with rfl|rfl|rfl|rfl<;>simp [outX,outY,kdT] at eK ⊢
 ·rcases hb with rfl|rfl<;>rcases hc with rfl|rfl<;>refine ⟨by omega,by omega,?_⟩<;>rcases k_four ht with rfl|rfl|rfl|rfl<;>rcases k_four hu with rfl|rfl|rfl|rfl<;>simp [outX,outY,kdT] at eK ⊢
theorem Move_small (m:M6) (t:Int×Int×Int) (w:World) (hm:GoodM m 48000) (hb:(0≤t.1∧t.1≤8)∧(0≤t.2.1∧t.2.1≤8)∧(0≤t.2.2∧t.2.2≤3)) (hs:Steps w) :
  Calls Tryz.prog 102 #[.agg #[.int .i64 m.1,.int .i64 m.2.1,.int .i64 m.2.2.1,.int .i64 m.2.2.2.1,.int .i64 m.2.2.2.2.1,.int .i64 m.2.2.2.2.2],.agg #[.int .i64 t.1,.int .i64 t.2.1,.int .i64 t.2.2]] w fun r w'=>r=.returned (.tuple #[.agg #[.int .i64 (mvt m t).1,.int .i64 (mvt m t).2.1,.int .i64 (mvt m t).2.2],.int .i64 0])∧Bl w w':=by
 obtain ⟨a,b,c,d,e,f⟩:=m
 obtain ⟨x,y,k⟩:=t
 obtain ⟨h1,h2,h3,h4,h5,h6,h7,h8⟩:=mvt_facts hm hb.1 hb.2.1 hb.2.2 (X:=(mvt (a,b,c,d,e,f) (x,y,k)).1) (Y:=(mvt (a,b,c,d,e,f) (x,y,k)).2.1) (K:=(mvt (a,b,c,d,e,f) (x,y,k)).2.2) rfl
 exact Move_yes a b c d e f x y k _ _ _ w h8 h7 h1 h2 h3 h4 h5 h6 hs
theorem out_one {K K':Int} (h:0≤K∧K≤3) (h':0≤K'∧K'≤3) (hx:outX K=outX K') (hy:outY K=outY K'):K=K':=by
 rcases k_four h with rfl|rfl|rfl|rfl<;>rcases k_four h' with rfl|rfl|rfl|rfl<;>simp [outX,outY] at hx hy ⊢
theorem MoveOf_small (m:M6) (t:Int×Int×Int) (w:World) (hm:GoodM m 48000) (hb:(0≤t.1∧t.1≤8)∧(0≤t.2.1∧t.2.1≤8)∧(0≤t.2.2∧t.2.2≤3)) :
  Calls Tryz.prog 57 #[.agg #[.int .i64 m.1,.int .i64 m.2.1,.int .i64 m.2.2.1,.int .i64 m.2.2.2.1,.int .i64 m.2.2.2.2.1,.int .i64 m.2.2.2.2.2],.agg #[.int .i64 t.1,.int .i64 t.2.1,.int .i64 t.2.2]] w fun r w'=>r=.returned (.agg #[.int .i64 (mvt m t).1,.int .i64 (mvt m t).2.1,.int .i64 (mvt m t).2.2])∧Bl w w':=by
 obtain ⟨a,b,c,d,e,f⟩:=m
 obtain ⟨x,y,k⟩:=t
 obtain ⟨h1,h2,h3,h4,h5,h6,h7,h8⟩:=mvt_facts hm hb.1 hb.2.1 hb.2.2 (X:=(mvt (a,b,c,d,e,f) (x,y,k)).1) (Y:=(mvt (a,b,c,d,e,f) (x,y,k)).2.1) (K:=(mvt (a,b,c,d,e,f) (x,y,k)).2.2) rfl
 obtain ⟨X,Y,K,q1,q2,r1,r2,g1,g2,g3,g4,g5,g6,g7,g8,g9,g10⟩:=move_data a b c d e f x y k h8 h7
 have e1:(mvt (a,b,c,d,e,f) (x,y,k)).1=X:=by have:=h1.symm.trans g1;omega
 have e2:(mvt (a,b,c,d,e,f) (x,y,k)).2.1=Y:=by have:=h2.symm.trans g2;omega
 have e3:(mvt (a,b,c,d,e,f) (x,y,k)).2.2=K:=out_one h3 g3 (h4.symm.trans g4) (h5.symm.trans g5)
 have hsm:Sm a b c d:=by
  rcases map_lin h8 with ⟨ha,rfl,rfl,hd⟩|⟨rfl,hb',hc,rfl⟩
  ·rcases ha with rfl|rfl<;>rcases hd with rfl|rfl<;>(unfold Sm;omega)
  ·rcases hb' with rfl|rfl<;>rcases hc with rfl|rfl<;>(unfold Sm;omega)
 have hk:=hm.2
 dsimp only at hk
 have:=moveOf_any a b c d e f x y k X Y K q1 q2 r1 r2 w hsm ⟨by omega,by omega⟩ h7 ⟨⟨g1,g2⟩,by have:=hb.1;dsimp only at this;omega,by have:=hb.2.1;dsimp only at this;omega⟩ g6 g7 g8 g9 g10
 rw [e1,e2,e3]
 exact this
theorem lessTri_any (a b c p q r:Int) (w:World):Calls Tryz.prog 56 #[.agg #[.int .i64 a,.int .i64 b,.int .i64 c],.agg #[.int .i64 p,.int .i64 q,.int .i64 r]] w fun e w'=>e=.returned (.bool (ltB (a,b,c) (p,q,r)))∧Bl w w':=by
 by_cases h1:b=q
 ·subst h1
  have q1:(b != b)=false:=by simp
  by_cases h2:a=p
  ·subst h2
   have q2:(a != a)=false:=by simp
   go_enter Tryz.func56,Tryz.ntmps56
   go_wp2
   go_ret
   exact ⟨Qz (by simp [ltB]),Qb (Qb (Qc _))⟩
  ·have q2:(a != p)=true:=by simpa using h2
   have HE:Hid (ltB (a,b,c) (p,b,r)=decide (a<p)):=by
    have:ltB (a,b,c) (p,b,r)=decide (a<p):=by
     rw [Bool.eq_iff_iff]
     simp [ltB,h2]
    exact this
   clear h2
   go_enter Tryz.func56,Tryz.ntmps56
   go_wp2
   go_ret
   exact ⟨Qz HE.out.symm,Qb (Qb (Qc _))⟩
 ·have q1:(b != q)=true:=by simpa using h1
  have HE:Hid (ltB (a,b,c) (p,q,r)=decide (b<q)):=by
   have:ltB (a,b,c) (p,q,r)=decide (b<q):=by
    rw [Bool.eq_iff_iff]
    simp [ltB,h1]
   exact this
  clear h1
  go_enter Tryz.func56,Tryz.ntmps56
  go_wp2
  go_ret
  exact ⟨Qz HE.out.symm,Qb (Qb (Qc _))⟩
end Go.Proofs.YtgpjaecgkkgehaaGreatDoor
namespace Go.Proofs.YtgpjaecgkkgehaaGreatDoor
open Go.RowKit Go.ChangeMaps
theorem J0 {w:World} {g o:Nat} {hs:List Int} (h:Row w (some ⟨g,o,none⟩) hs) {i:Nat} (hi:i<hs.length):w.cell? ⟨g,o+i,none⟩=some (.int .i64 (hs.getD i 0)):=by
 obtain ⟨b,off,e,hc⟩:=h i hi
 cases e
 rw [hc,List.getD_eq_getElem?_getD,List.getElem?_eq_getElem hi]
 rfl
theorem nodup_atH {α:Type} {l:List α} (h:l.Nodup) {i j:Nat} (hi:i<l.length) (hj:j<l.length) (e:l[i]=l[j]):i=j:=by
 have hp:=List.pairwise_iff_getElem.1 h
 rcases Nat.lt_trichotomy i j with q|q|q
 ·exact absurd e (hp i j hi hj q)
 ·exact q
 ·exact absurd e.symm (hp j i hj hi q)
theorem four_oneH (a b c:Int) (d:Option Addr) (n m:Nat):∀u ∈ [Value.int .i64 a,.int .i64 b,.int .i64 c,.slice d n m],u.oneCell'=true:=by
 intro u hu
 simp at hu
 rcases hu with rfl|rfl|rfl|rfl<;>rfl
theorem inf98H:(Tryz.prog.info? 102).map (fun i=>(i.zero,i.size,i.bytes))=some (some (.agg #[.int .i64 0,.int .i64 0,.int .i64 0,.slice none 0 0]),4,48):=by kernel_rfl
theorem cell_fourH (w:World) (a b c d:Value) (T:TypeId):∀j u,([a,b,c,d])[j]?=some u→(w.alloc (.cells #[a,b,c,d] T)).cell? ((⟨w.heap.size,0,none⟩:Addr).add j)=some u:=by
 intro j u hu
 match j,hu with
 | 0,hu=>simp at hu;subst hu;simp [Addr.add,go_sem]
 | 1,hu=>simp at hu;subst hu;simp [Addr.add,go_sem]
 | 2,hu=>simp at hu;subst hu;simp [Addr.add,go_sem]
 | 3,hu=>simp at hu;subst hu;simp [Addr.add,go_sem]
theorem run_append_empty {P:Program} (w:World) (t ty e:TypeId) (i:TypeInfo) (ht:P.underlying t=some (.slice e)) (hi:P.info? e=some i) (g n cap:Nat) (hn:n≤cap) (ao:Option Addr) (c:Nat) :
  (Builtin.append_ #[t,t] ty #[.slice (some ⟨g,0,none⟩) n cap,.slice ao 0 c]).run P w=.ok (.slice (some ⟨g,0,none⟩) n cap) w:=by
 cases ao<;>simp [Builtin.append_,run_underlying ht,run_sizeOf w hi,Builtin.lenOf,Builtin.firstCells,loadCells,loadCellsFrom,hn,storeCells]
theorem Js {P:Program} {ops:Array Oper} {o:Oper} {a:Act} {w:World} {K:Act→World→Prop} {Q:Exit→Act→World→Prop} {E:Prop} (hgd:o.guard=none) (s x:Operand) (t:TypeId)
  (ho:o.op=.call { callee:=.builtin .append,args:=#[s,x],argTypes:=#[t,t] })
  (e:TypeId) (i:TypeInfo) (ht:P.underlying t=some (.slice e)) (hi:P.info? e=some i) (g n cap:Nat) (hn:n≤cap) (ao:Option Addr) (c:Nat)
  (hs:a.eval s=.slice (some ⟨g,0,none⟩) n cap) (hx:a.eval x=.slice ao 0 c)
  (h:K (a.put o.dst (.slice (some ⟨g,0,none⟩) n cap)) w) :
  if Region.wanted o (yielded ops a.tmps)=true then Oper.wp P o a w K Q else E:=by
 have hw:Region.wanted o (yielded ops a.tmps)=true:=by simp [Region.wanted,hgd]
 rw [if_pos hw]
 have hrun:=run_append_empty (P:=P) w t o.type e i ht hi g n cap hn ao c
 unfold Oper.wp
 simp [execOp,ho,resolve,invoke,builtin,hs,hx,hrun,Result.andThen]
 exact h
end Go.Proofs.YtgpjaecgkkgehaaGreatDoor
