/- A part of the proof of stackLays_holds. -/
import Derived.Test.YtgpjaecgkkgehaaGreatDoorQlao
import Derived.Test.YtgpjaecgkkgehaaGreatDoorQlag
import Derived.RangeFuncNested
import Derived.RangeFuncBound
import Derived.RangeFuncCalls
import Derived.RangeFuncLeaves
import Derived.RangeFuncBox
import Derived.Shelf.Abstract
import Derived.Shelf.RegionOpen
import Derived.WalkKit
import Derived.OwnWalkIn
import Derived.TacticsInMore
import Derived.LoopNIn
import Derived.LoopIn
import Derived.Sort.LoopGhostIn
import Derived.Sort.MapsRangeIn
import Derived.Maps.OwnIn
import Derived.Maps.RangeRun
import Derived.Test.YtgpjaecgkkgehaaGreatDoorQlad
import Derived.Test.YtgpjaecgkkgehaaGreatDoorQlal
set_option maxRecDepth 100000
set_option maxHeartbeats 40000000
namespace Go.Proofs.YtgpjaecgkkgehaaGreatDoor
open Go.RowKit Go.ChangeMaps
def AdjC (cr:Int×Int×Int×Int→Bool) (t u:Int×Int×Int):Prop:=u≠t∧∃e,hasT t e=true∧hasT u e=true∧cr e=true
theorem AdjC.symm {cr:Int×Int×Int×Int→Bool} {t u:Int×Int×Int} (h:AdjC cr t u):AdjC cr u t:=⟨fun e=>h.1 e.symm,h.2.imp fun _ he=>⟨he.2.1,he.1,he.2.2⟩⟩
def ReachC (cr:Int×Int×Int×Int→Bool) (l:List (Int×Int×Int)) (t u:Int×Int×Int):Prop:=t∈l∧∀p:Int×Int×Int→Prop,p t→(∀a b,p a→b∈l→AdjC cr a b→p b)→p u
theorem ReachC.here {cr:Int×Int×Int×Int→Bool} {l:List (Int×Int×Int)} {t:Int×Int×Int} (h:t∈l):ReachC cr l t t:=⟨h,fun _ k _=>k⟩
theorem ReachC.step {cr:Int×Int×Int×Int→Bool} {l:List (Int×Int×Int)} {t u v:Int×Int×Int} (h:ReachC cr l t u) (hv:v∈l) (ha:AdjC cr u v):ReachC cr l t v:=⟨h.1,fun p k s=>s _ _ (h.2 p k s) hv ha⟩
theorem ReachC.ind {cr:Int×Int×Int×Int→Bool} {l:List (Int×Int×Int)} {t:Int×Int×Int} {motive:∀u,ReachC cr l t u→Prop} (here:∀h:t∈l,motive t (ReachC.here h))
  (step:∀{u v} (h:ReachC cr l t u) (hv:v∈l) (ha:AdjC cr u v),motive u h→motive v (ReachC.step h hv ha)) {u:Int×Int×Int} (h:ReachC cr l t u):motive u h:=by
 obtain ⟨_,m⟩:=h.2 (fun x=>∃k:ReachC cr l t x,motive x k) ⟨ReachC.here h.1,here h.1⟩ (fun _ _ ⟨_,m⟩ hb hab=>⟨_,step _ hb hab m⟩)
 exact m
theorem ReachC.mem {cr:Int×Int×Int×Int→Bool} {l:List (Int×Int×Int)} {t u:Int×Int×Int} (h:ReachC cr l t u):t∈l∧u∈l:=by
 induction h using ReachC.ind with
 | here h=>exact ⟨h,h⟩
 | step _ hv _ ih=>exact ⟨ih.1,hv⟩
theorem ReachC.trans {cr:Int×Int×Int×Int→Bool} {l:List (Int×Int×Int)} {t u v:Int×Int×Int} (h:ReachC cr l t u) (k:ReachC cr l u v):ReachC cr l t v:=by
 induction k using ReachC.ind with
 | here _=>exact h
 | step _ hv ha ih=>exact ih.step hv ha
theorem ReachC.symm {cr:Int×Int×Int×Int→Bool} {l:List (Int×Int×Int)} {t u:Int×Int×Int} (h:ReachC cr l t u):ReachC cr l u t:=by
 induction h using ReachC.ind with
 | here h=>exact .here h
 | step h hv ha ih=>exact ((ReachC.here hv).step h.mem.2 ha.symm).trans ih
theorem reach_all {l:List (Int×Int×Int)} {t u:Int×Int×Int}:ReachC (fun _=>true) l t u↔Reach l t u:=by
 constructor
 ·intro h
  induction h using ReachC.ind with
  | here h=>exact .here h
  | step _ hv ha ih=>exact ih.step hv ⟨ha.1,ha.2.imp fun _ he=>⟨he.1,he.2.1⟩⟩
 ·intro h
  induction h using Reach.ind with
  | here h=>exact .here h
  | step _ hv ha ih=>exact ih.step hv ⟨ha.1,ha.2.imp fun _ he=>⟨he.1,he.2,rfl⟩⟩
def lab (part:Nat→Int) (num:Int) (R:List Nat):Nat→Int:=fun i=>if i∈R then num else part i
def Sp (cr:Int×Int×Int×Int→Bool) (L:List (Int×Int×Int)) (part:Nat→Int) (f:Nat) (R:List Nat):Prop :=
 f∈R∧R.Nodup∧∀i∈R,∃h:i<L.length,part i<0∧∃hf:f<L.length,ReachC cr L L[f] L[i]
def DoneE (L:List (Int×Int×Int)) (part:Nat→Int) (R:List Nat) (e:Int×Int×Int×Int):Prop := ∀j (hj:j<L.length),hasT L[j] e=true→j∈R∨0≤part j
def DoneT (cr:Int×Int×Int×Int→Bool) (L:List (Int×Int×Int)) (part:Nat→Int) (R:List Nat) (t:Int×Int×Int) (k:Nat):Prop := ∀k',k'<k→cr (edg t k')=true→DoneE L part R (edg t k')
theorem DoneE.mono {L:List (Int×Int×Int)} {part:Nat→Int} {R R':List Nat} {e:Int×Int×Int×Int} (h:DoneE L part R e) (hs:∀i∈R,i∈R'):DoneE L part R' e:=fun j hj ht=>(h j hj ht).imp (hs j) id
theorem DoneT.mono {cr:Int×Int×Int×Int→Bool} {L:List (Int×Int×Int)} {part:Nat→Int} {R R':List Nat} {t:Int×Int×Int} {k:Nat} (h:DoneT cr L part R t k) (hs:∀i∈R,i∈R'):DoneT cr L part R' t k:=fun k' hk hc=>(h k' hk hc).mono hs
theorem erase_len {R:List Nat} (n:Nat) (_hn:R.Nodup):R.length≤(R.erase n).length+1:=by
 by_cases h:n∈R
 ·rw [List.length_erase_of_mem h]
  omega
 ·rw [List.erase_of_not_mem h]
  omega
theorem J5:∀(n:Nat) (R:List Nat),R.Nodup→(∀i∈R,i<n)→R.length≤n
 | 0,R,_,h=>by
  cases R with
  | nil=>simp
  | cons a r=>exact absurd (h a (by simp)) (by omega)
 | n+1,R,hn,h=>by
  have h1:=J5 n (R.erase n) (hn.erase n) (fun i hi=>by
   have h2:=h i (List.mem_of_mem_erase hi)
   have h3:i≠n:=fun e=>by
    subst e
    exact (List.Nodup.not_mem_erase hn) hi
   omega)
  have:=erase_len n hn
  omega
theorem Sp.len {cr:Int×Int×Int×Int→Bool} {L:List (Int×Int×Int)} {part:Nat→Int} {f:Nat} {R:List Nat} (h:Sp cr L part f R):R.length≤L.length:=J5 _ _ h.2.1 (fun i hi=>(h.2.2 i hi).1)
theorem Sp.found {cr:Int×Int×Int×Int→Bool} {L:List (Int×Int×Int)} {part:Nat→Int} {f:Nat} {R:List Nat} (h:Sp cr L part f R) (hnd:L.Nodup) {i j:Nat} (hi:i∈R) (hj:j<L.length) (hn:j ∉ R) (hp:part j<0) {e:Int×Int×Int×Int} (hc:cr e=true) (h1:∀hi':i<L.length,hasT L[i] e=true) (h2:hasT L[j] e=true):Sp cr L part f (R++[j]):=by
 obtain ⟨hi1,hi2,hf,hr⟩:=h.2.2 i hi
 refine ⟨List.mem_append_left _ h.1,?_,fun k hk=>?_⟩
 ·rw [List.nodup_append]
  refine ⟨h.2.1,by simp,fun a ha b hb=>?_⟩
  simp at hb
  subst hb
  exact fun e=>hn (e ▸ ha)
 ·rcases List.mem_append.1 hk with hk|hk
  ·exact h.2.2 k hk
  ·simp at hk
   subst hk
   refine ⟨hj,hp,hf,hr.step (List.getElem_mem hj) ⟨fun e1=>?_,e,h1 hi1,h2,hc⟩⟩
   have:=Jp hnd hj hi1 e1
   exact hn (this ▸ hi)
theorem lab_found (part:Nat→Int) (num:Int) (R:List Nat) (j:Nat):lab part num (R++[j])=fun i=>if i=j then num else lab part num R i:=by
 funext i
 unfold lab
 by_cases e:i=j
 ·simp [e]
 ·simp [e]
def ZRow (w:World) (g n:Nat) (f:Nat→Int):Prop := ∀i,i<n→w.cell? ⟨g,i,none⟩=some (.int .i64 (f i))∧w.frozen? ⟨g,i,none⟩=false
theorem ZRow.grown {w w':World} {g n:Nat} {f:Nat→Int} {row:Option Nat} (h:ZRow w g n f) (hg:w.grownBy w' row) (hne:some g≠row):ZRow w' g n f:=fun i hi =>
 ⟨hg.cell (h i hi).1 hne,(World.frozen?_of_block (a:=⟨g,i,none⟩) (hg.block g (bk (h i hi).1) hne)).trans (h i hi).2⟩
theorem ZRow.kept {w w':World} {g n:Nat} {f:Nat→Int} (h:ZRow w g n f) (hb:Bl w w'):ZRow w' g n f:=h.grown (Qw hb) (by simp)
theorem ZRow.set {w:World} {g n:Nat} {f:Nat→Int} (h:ZRow w g n f) {i:Nat} (v:Int) (hi:i<n):ZRow (w.setCell ⟨g,i,none⟩ (.int .i64 v)) g n (fun j=>if j=i then v else f j):=fun j hj=>by
 refine ⟨?_,by rw [World.frozen?_setCell];exact (h j hj).2⟩
 by_cases e:j=i
 ·subst e
  rw [World.cell?_setCell_same _ _ _ (h j hj).1]
  simp
 ·rw [World.cell?_setCell_other _ _ _ _ (by simp<;>omega)]
  rw [(h j hj).1]
  simp [e]
def PA (wE:World) (ad:Option Addr) (ra:Nat) (L:List (Int×Int×Int)):Prop :=
 TRow wE ad L∧∀e,∃a cap,Row wE a (gix L e)∧∀wx:World,Bl wE wx→(Instr.lookup 65 (.map (some ra)) (ek e) false).run Tryz.prog wx=.ok (.slice a (gix L e).length cap) wx
theorem PA.kept {w w':World} {ad:Option Addr} {ra:Nat} {L:List (Int×Int×Int)} (h:PA w ad ra L) (hb:Bl w w'):PA w' ad ra L :=
 ⟨h.1.kept hb,fun e=>by
  obtain ⟨a,cap,h1,h2⟩:=h.2 e
  exact ⟨a,cap,h1.kept hb,fun wx hx=>h2 wx (Qe hb hx)⟩⟩
abbrev M6:=Int×Int×Int×Int×Int×Int
def idM:M6:=(1,0,0,1,0,0)
def noM:M6:=(0,0,0,0,0,0)
def aft (m n:M6):M6 :=
 (dot n.1 n.2.1 m.1 m.2.2.1,dot n.1 n.2.1 m.2.1 m.2.2.2.1,dot n.2.2.1 n.2.2.2.1 m.1 m.2.2.1,dot n.2.2.1 n.2.2.2.1 m.2.1 m.2.2.2.1,dot n.1 n.2.1 m.2.2.2.2.1 m.2.2.2.2.2+n.2.2.2.2.1,dot n.2.2.1 n.2.2.2.1 m.2.2.2.2.1 m.2.2.2.2.2+n.2.2.2.2.2)
def lnW (e:Int×Int×Int×Int):Int:=if e.1=e.2.2.1 then 0 else if e.2.1=e.2.2.2 then 1 else if e.2.2.2<e.2.1 then 2 else 3
def lnC (e:Int×Int×Int×Int):Int:=if e.1=e.2.2.1 then e.1 else if e.2.1=e.2.2.2 then e.2.1 else if e.2.2.2<e.2.1 then e.1+e.2.1 else e.1-e.2.1
def mir (v c:Int):M6:=(mA v,mB v,mB v,mD v,mE v c,mF v c)
def farM (kd:Int×Int×Int×Int→Int) (e:Int×Int×Int×Int) (m:M6):M6:=if kd e=0 then m else aft (mir (lnW e) (lnC e)) m
def mapM (m:M6):Bool:=mapB m.1 m.2.1 m.2.2.1 m.2.2.2.1 m.2.2.2.2.1 m.2.2.2.2.2
def GoodM (m:M6) (B:Int):Prop:=mapM m=true∧(-B≤m.2.2.2.2.1∧m.2.2.2.2.1≤B)∧(-B≤m.2.2.2.2.2∧m.2.2.2.2.2≤B)
theorem GoodM.mono {m:M6} {B C:Int} (h:GoodM m B) (hB:B≤C):GoodM m C:=⟨h.1,⟨by have:=h.2.1;omega,by have:=h.2.1;omega⟩,⟨by have:=h.2.2;omega,by have:=h.2.2;omega⟩⟩
theorem idM_good:GoodM idM 0:=⟨by decide,by decide,by decide⟩
theorem line_may {t:Int×Int×Int} {e:Int×Int×Int×Int} (h:hasT t e=true) (hb:(0≤t.1∧t.1≤8)∧(0≤t.2.1∧t.2.1≤8)∧(0≤t.2.2∧t.2.2≤3)):lineB (lnW e) (lnC e)=true∧-40≤lnC e∧lnC e≤40:=by
 obtain ⟨x,y,k⟩:=t
 obtain ⟨p,q,r,s⟩:=e
 simp only [hasT] at h hb
 rw [Xw] at h
 obtain ⟨hx,hy,hk⟩:=hb
 have hk4:k=0∨k=1∨k=2∨k=3:=by omega
 have key:(p=r→p % 2=0)∧(q=s→q % 2=0)∧(p+q) % 2=0∧(0≤p∧p≤18)∧(0≤q∧q≤18):=by
  rcases hk4 with rfl|rfl|rfl|rfl<;>simp only [e0_0,e0_1,e0_2,e0_3,e1_0,e1_1,e1_2,e1_3,e2_0,e2_1,e2_2,e2_3] at h<;>omega
 clear h hk4
 by_cases c1:p=r
 ·simp only [lineB,lnW,lnC,if_pos c1,decide_eq_true_eq]
  omega
 ·by_cases c2:q=s
  ·simp only [lineB,lnW,lnC,if_neg c1,if_pos c2,decide_eq_true_eq]
   omega
  ·by_cases c3:s<q
   ·simp only [lineB,lnW,lnC,if_neg c1,if_neg c2,if_pos c3,decide_eq_true_eq]
    omega
   ·simp only [lineB,lnW,lnC,if_neg c1,if_neg c2,if_neg c3,decide_eq_true_eq]
    omega
theorem mir_may {v c:Int} (h:lineB v c=true) (hb : -40≤c∧c≤40):GoodM (mir v c) 80:=by
 obtain ⟨h0,h3,b1,b2,b3⟩:=line_bd h
 have hv:v=0∨v=1∨v=2∨v=3:=by omega
 rcases hv with rfl|rfl|rfl|rfl<;>simp [GoodM,mapM,mir,mapB,mA,mB,mD,mE,mF,unitB,evenB]<;>omega
theorem map_lin {a b c d e f:Int} (h:mapB a b c d e f=true):((a=1∨a=-1)∧b=0∧c=0∧(d=1∨d=-1))∨(a=0∧(b=1∨b=-1)∧(c=1∨c=-1)∧d=0):=by
 simp only [mapB,unitB,Bool.and_eq_true,Bool.or_eq_true,decide_eq_true_eq] at h
 omega
theorem map_of {a b c d e f:Int} (h:((a=1∨a=-1)∧b=0∧c=0∧(d=1∨d=-1))∨(a=0∧(b=1∨b=-1)∧(c=1∨c=-1)∧d=0)) (he:e % 2=0∧-1000000≤e∧e≤1000000) (hf:f % 2=0∧-1000000≤f∧f≤1000000):mapB a b c d e f=true:=by
 simp only [mapB,unitB,evenB,Bool.and_eq_true,Bool.or_eq_true,decide_eq_true_eq]
 omega
theorem aft_good {m n:M6} {B:Int} (hm:GoodM m 80) (hn:GoodM n B) (hB:B≤900000):GoodM (aft m n) (B+160):=by
 obtain ⟨a,b,c,d,e,f⟩:=m
 obtain ⟨A,B',C,D,E,F⟩:=n
 obtain ⟨m1,m2,m3⟩:=hm
 obtain ⟨n1,n2,n3⟩:=hn
 simp only [mapM] at m1 m2 m3 n1 n2 n3
 have me:=(Xu m1).2.2
 have ne:=(Xu n1).2.2
 have ml:=map_lin m1
 have nl:=map_lin n1
 have key:(((dot A B' a c=1∨dot A B' a c=-1)∧dot A B' b d=0∧dot C D a c=0∧(dot C D b d=1∨dot C D b d=-1))∨(dot A B' a c=0∧(dot A B' b d=1∨dot A B' b d=-1)∧(dot C D a c=1∨dot C D a c=-1)∧dot C D b d=0))∧(dot A B' e f=e∨dot A B' e f=-e∨dot A B' e f=f∨dot A B' e f=-f)∧(dot C D e f=e∨dot C D e f=-e∨dot C D e f=f∨dot C D e f=-f):=by
  clear m1 m2 m3 n1 n2 n3 me ne
  refine ⟨?_,?_,?_⟩
  ·rcases ml with ⟨rfl|rfl,rfl,rfl,rfl|rfl⟩|⟨rfl,rfl|rfl,rfl|rfl,rfl⟩<;>rcases nl with ⟨rfl|rfl,rfl,rfl,rfl|rfl⟩|⟨rfl,rfl|rfl,rfl|rfl,rfl⟩<;>decide
  ·rcases nl with ⟨rfl|rfl,rfl,rfl,rfl|rfl⟩|⟨rfl,rfl|rfl,rfl|rfl,rfl⟩<;>simp [dot]
  ·rcases nl with ⟨rfl|rfl,rfl,rfl,rfl|rfl⟩|⟨rfl,rfl|rfl,rfl|rfl,rfl⟩<;>simp [dot]
 obtain ⟨k1,k2,k3⟩:=key
 clear ml nl m1 n1
 refine ⟨?_,?_,?_⟩
 ·refine map_of (by simp only [aft];exact k1) ?_ ?_<;>simp only [aft]<;>omega
 ·simp only [aft]
  omega
 ·simp only [aft]
  omega
theorem far_good {kd:Int×Int×Int×Int→Int} {t:Int×Int×Int} {e:Int×Int×Int×Int} {m:M6} {B:Int} (h:hasT t e=true) (hb:(0≤t.1∧t.1≤8)∧(0≤t.2.1∧t.2.1≤8)∧(0≤t.2.2∧t.2.2≤3)) (hm:GoodM m B) (hB:B≤900000):GoodM (farM kd e m) (B+160):=by
 unfold farM
 split
 ·exact hm.mono (by omega)
 ·exact aft_good (mir_may (line_may h hb).1 (line_may h hb).2) hm hB
def Cons (kd:Int×Int×Int×Int→Int) (L:List (Int×Int×Int)) (N:Nat→M6):Prop :=
 N 0=idM∧∀i j (hi:i<L.length) (hj:j<L.length) e,i≠j→hasT L[i] e=true→hasT L[j] e=true→N j=farM kd e (N i)
def MI (kd:Int×Int×Int×Int→Int) (L:List (Int×Int×Int)) (K:List Nat) (M:Nat→M6):Prop :=
 0∈K∧K.Nodup∧M 0=idM∧(∀i∈K,i<L.length∧GoodM (M i) (160*(K.length:Int)))∧∀N,Cons kd L N→∀i∈K,M i=N i
theorem MI.start {kd:Int×Int×Int×Int→Int} {L:List (Int×Int×Int)} {M:Nat→M6} (h0:0<L.length) (hM:M 0=idM):MI kd L [0] M:=by
 refine ⟨by simp,by simp,hM,fun i hi=>?_,fun N hN i hi=>?_⟩
 ·simp at hi
  subst hi
  rw [hM]
  exact ⟨h0,idM_good.mono (by simp)⟩
 ·simp at hi
  subst hi
  rw [hM,hN.1]
theorem MI.len {kd:Int×Int×Int×Int→Int} {L:List (Int×Int×Int)} {K:List Nat} {M:Nat→M6} (h:MI kd L K M):K.length≤L.length:=J5 _ _ h.2.1 (fun i hi=>(h.2.2.2.1 i hi).1)
theorem snoc_nodup {K:List Nat} {j:Nat} (h:K.Nodup) (hj:j ∉ K):(K++[j]).Nodup:=by
 rw [List.nodup_append]
 refine ⟨h,by simp,fun a ha b hb=>?_⟩
 simp at hb
 subst hb
 exact fun e=>hj (e ▸ ha)
theorem MI.found {kd:Int×Int×Int×Int→Int} {L:List (Int×Int×Int)} {K:List Nat} {M:Nat→M6} (h:MI kd L K M) (hL:L.length≤300) (hbd:∀t∈L,(0≤t.1∧t.1≤8)∧(0≤t.2.1∧t.2.1≤8)∧(0≤t.2.2∧t.2.2≤3)) {i j:Nat} (hi:i∈K) (hj:j<L.length) (hn:j ∉ K) {e:Int×Int×Int×Int} (h1:∀hi':i<L.length,hasT L[i] e=true) (h2:hasT L[j] e=true):MI kd L (K++[j]) (fun q=>if q=j then farM kd e (M i) else M q):=by
 have hlen:=h.len
 obtain ⟨a1,a2,a3,a4,a5⟩:=h
 obtain ⟨hi',hgi⟩:=a4 i hi
 have hne:i≠j:=fun e=>hn (e ▸ hi)
 have h0:(0:Nat)≠j:=fun e=>hn (e ▸ a1)
 refine ⟨List.mem_append_left _ a1,snoc_nodup a2 hn,?_,fun q hq=>?_,fun N hN q hq=>?_⟩
 ·simp only [if_neg h0]
  exact a3
 ·have hl:((K++[j]).length:Int)=(K.length:Int)+1:=by simp
  rw [hl]
  rcases List.mem_append.1 hq with hq|hq
  ·have:q≠j:=fun e=>hn (e ▸ hq)
   simp only [if_neg this]
   exact ⟨(a4 q hq).1,(a4 q hq).2.mono (by omega)⟩
  ·simp at hq
   subst hq
   simp only [if_true]
   exact ⟨hj,(far_good (h1 hi') (hbd _ (List.getElem_mem hi')) hgi (by omega)).mono (by omega)⟩
 ·rcases List.mem_append.1 hq with hq|hq
  ·have:q≠j:=fun e=>hn (e ▸ hq)
   simp only [if_neg this]
   exact a5 N hN q hq
  ·simp at hq
   subst hq
   simp only [if_true]
   rw [hN.2 i q hi' hj e hne (h1 hi') h2,a5 N hN i hi]
theorem MI.tear {kd:Int×Int×Int×Int→Int} {L:List (Int×Int×Int)} {K:List Nat} {M:Nat→M6} (h:MI kd L K M) {i j:Nat} (hi:i∈K) (hj:j∈K) (hne:i≠j) {e:Int×Int×Int×Int} (h1:∀hi':i<L.length,hasT L[i] e=true) (h2:∀hj':j<L.length,hasT L[j] e=true) (hM:M j≠farM kd e (M i)):¬∃N,Cons kd L N:=by
 rintro ⟨N,hN⟩
 obtain ⟨a1,a2,a3,a4,a5⟩:=h
 have hi':=(a4 i hi).1
 have hj':=(a4 j hj).1
 apply hM
 rw [a5 N hN i hi,a5 N hN j hj]
 exact hN.2 i j hi' hj' e hne (h1 hi') (h2 hj')
def EdK (kd:Int×Int×Int×Int→Int) (L:List (Int×Int×Int)) (K:List Nat) (M:Nat→M6) (i:Nat) (e:Int×Int×Int×Int):Prop := ∀j (hj:j<L.length),i≠j→hasT L[j] e=true→j∈K∧M j=farM kd e (M i)
def EdN (kd:Int×Int×Int×Int→Int) (L:List (Int×Int×Int)) (K:List Nat) (M:Nat→M6) (i n:Nat):Prop := ∀k,k<n→∀hi:i<L.length,EdK kd L K M i (edg L[i] k)
theorem EdK.mono {kd:Int×Int×Int×Int→Int} {L:List (Int×Int×Int)} {K K':List Nat} {M M':Nat→M6} {i:Nat} {e:Int×Int×Int×Int} (h:EdK kd L K M i e) (hi:i∈K) (hs:∀q∈K,q∈K'∧M' q=M q):EdK kd L K' M' i e:=fun j hj hne ht=>by
 obtain ⟨a,b⟩:=h j hj hne ht
 exact ⟨(hs j a).1,by rw [(hs j a).2,(hs i hi).2];exact b⟩
theorem EdN.mono {kd:Int×Int×Int×Int→Int} {L:List (Int×Int×Int)} {K K':List Nat} {M M':Nat→M6} {i n:Nat} (h:EdN kd L K M i n) (hi:i∈K) (hs:∀q∈K,q∈K'∧M' q=M q):EdN kd L K' M' i n:=fun k hk hi'=>(h k hk hi').mono hi hs
theorem EdN.step {kd:Int×Int×Int×Int→Int} {L:List (Int×Int×Int)} {K:List Nat} {M:Nat→M6} {i n:Nat} (h:EdN kd L K M i n) (hd:∀hi:i<L.length,EdK kd L K M i (edg L[i] n)):EdN kd L K M i (n+1):=fun k hk hi=>by
 by_cases e:k=n
 ·subst e
  exact hd hi
 ·exact h k (by omega) hi
theorem found_mono {K:List Nat} {M:Nat→M6} {j:Nat} {v:M6} (hn:j ∉ K):∀q∈K,q∈K++[j]∧(fun q=>if q=j then v else M q) q=M q:=fun q hq=>⟨List.mem_append_left _ hq,by
 have:q≠j:=fun e=>hn (e ▸ hq)
 simp only [if_neg this]⟩
theorem closed_all {L:List (Int×Int×Int)} (hJ:Joined L) (hnd:L.Nodup) (S:Nat→Prop) (h0:S 0) (hc:∀i j (hi:i<L.length) (hj:j<L.length),S i→Adj L[i] L[j]→S j):∀i,i<L.length→S i:=by
 obtain ⟨hp,hr⟩:=hJ
 intro i hi
 obtain ⟨c,hc',e,hs⟩:=(hr i hi).2 (fun u=>∃c,∃hc':c<L.length,L[c]=u∧S c) ⟨0,hp,rfl,h0⟩ (fun a b ha hb hab=>by
  obtain ⟨c,hc',e,hs⟩:=ha
  obtain ⟨q,hq,e2⟩:=List.getElem_of_mem hb
  subst e e2
  exact ⟨q,hq,rfl,hc c q hc' hq hs hab⟩)
 have:=Jp hnd hc' hi e
 subst this
 exact hs
theorem EdN.adj {kd:Int×Int×Int×Int→Int} {L:List (Int×Int×Int)} {K:List Nat} {M:Nat→M6} {i j:Nat} (h:EdN kd L K M i 3) (hi:i<L.length) (hj:j<L.length) (hne:i≠j) {e:Int×Int×Int×Int} (h1:hasT L[i] e=true) (h2:hasT L[j] e=true):j∈K∧M j=farM kd e (M i):=by
 obtain ⟨k,hk,rfl⟩:=hasT_edg h1
 exact h k hk hi j hj hne h2
theorem adj_ne {L:List (Int×Int×Int)} {i j:Nat} {hi:i<L.length} {hj:j<L.length} (h:Adj L[i] L[j]):i≠j:=fun e=>by
 subst e
 exact h.1 rfl
theorem closed_k {kd:Int×Int×Int×Int→Int} {L:List (Int×Int×Int)} {K KS:List Nat} {M:Nat→M6} (hJ:Joined L) (hnd:L.Nodup) (h0:0∈KS) (hsub:∀i∈K,i∈KS) (hcl:∀i∈KS,EdN kd L K M i 3):∀i,i<L.length→i∈KS :=
 closed_all hJ hnd (fun i=>i∈KS) h0 (fun i j hi hj hs ha=>by
  obtain ⟨e,h1,h2⟩:=ha.2
  exact hsub _ ((hcl i hs).adj hi hj (adj_ne ha) h1 h2).1)
theorem MI.cons {kd:Int×Int×Int×Int→Int} {L:List (Int×Int×Int)} {K:List Nat} {M:Nat→M6} (hJ:Joined L) (hnd:L.Nodup) (h:MI kd L K M) (hcl:∀i∈K,EdN kd L K M i 3):(∀i,i<L.length→i∈K)∧Cons kd L M:=by
 have ha:=closed_k hJ hnd h.1 (fun _ h=>h) hcl
 exact ⟨ha,h.2.2.1,fun i j hi hj e hne h1 h2=>((hcl i (ha i hi)).adj hi hj hne h1 h2).2⟩
theorem MI.conss {kd:Int×Int×Int×Int→Int} {L:List (Int×Int×Int)} {K KS:List Nat} {M:Nat→M6} (h:MI kd L K M) (ha:∀i,i<L.length→i∈KS) (hcl:∀i∈KS,EdN kd L K M i 3):Cons kd L M :=
 ⟨h.2.2.1,fun i _j hi hj _e hne h1 h2=>((hcl i (ha i hi)).adj hi hj hne h1 h2).2⟩
theorem cons_one {kd:Int×Int×Int×Int→Int} {L:List (Int×Int×Int)} {N N':Nat→M6} (hJ:Joined L) (hnd:L.Nodup) (h:Cons kd L N) (h':Cons kd L N'):∀i,i<L.length→N i=N' i :=
 closed_all hJ hnd (fun i=>N i=N' i) (h.1.trans h'.1.symm) (fun i j hi hj hs ha=>by
  obtain ⟨e,h1,h2⟩:=ha.2
  rw [h.2 i j hi hj e (adj_ne ha) h1 h2,h'.2 i j hi hj e (adj_ne ha) h1 h2,hs])
theorem all_of_len {K:List Nat} {n:Nat} (h:K.Nodup) (hb:∀i∈K,i<n) (hl:n≤K.length):∀i,i<n→i∈K:=fun i hi=>by
 refine Classical.byContradiction fun hno=>?_
 have:=J5 n (K++[i]) (snoc_nodup h hno) (fun j hj=>by
  rcases List.mem_append.1 hj with hj|hj
  ·exact hb j hj
  ·simp at hj
   omega)
 simp at this
 omega
theorem round_all {kd:Int×Int×Int×Int→Int} {L:List (Int×Int×Int)} {KS X:List Nat} {M:Nat→M6} (hJ:Joined L) (hnd:L.Nodup) (h0:0∈KS) (hcl:∀i∈KS,EdN kd L (KS++X) M i 3):(∀i,i<L.length→i∈KS)∨0<X.length:=by
 cases X with
 | nil=>exact Or.inl (closed_k hJ hnd h0 (by simp) hcl)
 | cons a r=>exact Or.inr (by simp)
theorem edge_bd {t:Int×Int×Int} {e:Int×Int×Int×Int} (h:hasT t e=true) (hb:(0≤t.1∧t.1≤8)∧(0≤t.2.1∧t.2.1≤8)∧(0≤t.2.2∧t.2.2≤3)):(0≤e.1∧e.1≤100)∧(0≤e.2.1∧e.2.1≤100)∧(0≤e.2.2.1∧e.2.2.1≤100)∧(0≤e.2.2.2∧e.2.2.2≤100):=by
 obtain ⟨x,y,k⟩:=t
 obtain ⟨p,q,r,s⟩:=e
 simp only [hasT] at h hb
 rw [Xw] at h
 obtain ⟨hx,hy,hk⟩:=hb
 have hk4:k=0∨k=1∨k=2∨k=3:=by omega
 dsimp only
 rcases hk4 with rfl|rfl|rfl|rfl<;>simp only [e0_0,e0_1,e0_2,e0_3,e1_0,e1_1,e1_2,e1_3,e2_0,e2_1,e2_2,e2_3] at h<;>omega
theorem len_of_all:∀(n:Nat) (R:List Nat),(∀i,i<n→i∈R)→n≤R.length
 | 0,_,_=>Nat.zero_le _
 | n+1,R,h=>by
  have hn:=h n (by omega)
  have h1:=len_of_all n (R.erase n) (fun i hi=>(List.mem_erase_of_ne (by omega)).2 (h i (by omega)))
  rw [List.length_erase_of_mem hn] at h1
  have:=List.length_pos_of_mem hn
  omega
def TGP (w:World) (base ra:Nat) (vt:Value) (G:Int×Int×Int→List Int):Prop :=
 ∃ls clock,TEM w ra ls clock∧TGood ls clock∧(∀e,Tlk ls e=none→G e=[]) ∧
  (∀e v,Tlk ls e=some v→w.ownsRow base 3 1 v (G e).length ((G e).map (Value.int .i64))∧G e≠[]∧(vt.ownBlock=none∨v.ownBlock≠vt.ownBlock)) ∧
  (∀e e' v v',e≠e'→Tlk ls e=some v→Tlk ls e'=some v'→v.ownBlock≠v'.ownBlock)
theorem TEM.lt {w:World} {r:Nat} {ls:List ((Int×Int×Int)×Value×Nat)} {c:Nat} (h:TEM w r ls c):r<w.heap.size:=(Array.getElem?_eq_some_iff.1 h).1
theorem TEM.grown {w w':World} {r:Nat} {ls:List ((Int×Int×Int)×Value×Nat)} {c:Nat} {row:Option Nat} (h:TEM w r ls c) (hg:w.grownBy w' row) (hne:some r≠row):TEM w' r ls c:=(hg.block r h.lt hne).trans h
theorem TGP.kept {w w':World} {base ra:Nat} {vt:Value} {G:Int×Int×Int→List Int} (h:TGP w base ra vt G) (hb:Bl w w'):TGP w' base ra vt G:=by
 obtain ⟨ls,c,h1,h2,h3,h4,h5⟩:=h
 refine ⟨ls,c,h1.grown (Qw hb) (by simp),h2,h3,fun e v he=>?_,h5⟩
 obtain ⟨a1,a2,a3⟩:=h4 e v he
 exact ⟨Qs a1 hb,a2,a3⟩
theorem TGP.entry {w:World} {base ra:Nat} {vt:Value} {G:Int×Int×Int→List Int} (h:TGP w base ra vt G) (hra:ra<base) (hvt:∀g,vt.ownBlock=some g→g<w.heap.size) (e:Int×Int×Int) (n:Int) :
  ∃v0 st W2,(Instr.mapEntry 200 (.map (some ra)) (Tek e)).run Tryz.prog w=.ok (.tuple #[v0,.int .i64 st]) W2∧w.grownBy W2 (some ra)∧W2.heap.size=w.heap.size∧W2.ownsRow base 3 1 v0 (G e).length ((G e).map (Value.int .i64)) ∧
   ∀v' W3,W2.grownBy W3 v0.ownBlock→W3.ownsRow base 3 1 v' ((G e).length+1) ((G e).map (Value.int .i64)++[.int .i64 n])→(v'.ownBlock=v0.ownBlock∨v'.ownBlock=some W2.heap.size) →
    ∃W4,(Instr.entryStore 200 (.map (some ra)) (.int .i64 st) v').run Tryz.prog W3=.ok () W4∧W3.grownBy W4 (some ra)∧TGP W4 base ra vt (fun j=>if j=e then G e++[n] else G j):=by
 obtain ⟨ls,c,h1,h2,h3,h4,h5⟩:=h
 obtain ⟨st,ls1,c1,hrun,hst⟩:=Tentry27 Tryz.underlying200 zero70 h1 h2 e
 have hb:=h1
 unfold TEM at hb
 have hg1:=Xp hb (.map (ls1.map TtoE).toArray c1)
 have hne:∀{W:World} {v:Value} {n:Nat} {xs:List Value},W.ownsRow base 3 1 v n xs→v.ownBlock=none∨v.ownBlock≠some ra:=fun {W v n xs} ho=>by
  cases hu:v.ownBlock with
  | none=>exact Or.inl rfl
  | some g =>
   refine Or.inr (fun e1=>?_)
   have:=(ho.lt g hu).1
   simp at e1
   omega
 have hv0:(setBlock w ra (.map (ls1.map TtoE).toArray c1)).ownsRow base 3 1 ((Tlk ls e).getD (.slice none 0 0)) (G e).length ((G e).map (Value.int .i64)):=by
  cases hl:Tlk ls e with
  | none =>
   rw [h3 e hl]
   exact World.ownsRow_nil _ _ _ _
  | some v =>
   have a:=(h4 e v hl).1
   exact a.kept hg1 (hne a)
 have hsz:(setBlock w ra (.map (ls1.map TtoE).toArray c1)).heap.size=w.heap.size:=by simp [setBlock]
 refine ⟨_,(st:Int),_,hrun,hg1,hsz,hv0,fun v' W3 hg2 hown hloc=>?_⟩
 obtain ⟨ls',c',g1,g2,_,g3⟩:=hst v'
 have hem:TEM W3 ra ls1 c1:=by
  have e0:TEM (setBlock w ra (.map (ls1.map TtoE).toArray c1)) ra ls1 c1:=heap_setBlock_same hb _
  refine e0.grown hg2 ?_
  rcases hne hv0 with e1|e1
  ·rw [e1]
   simp
  ·exact fun e2=>e1 e2.symm
 have hg3:=Xp hem (.map (ls'.map TtoE).toArray c')
 refine ⟨_,g3 W3 hem,hg3,ls',c',heap_setBlock_same hem _,g1,fun j hj=>?_,fun j v hj=>?_,fun j j' v v2 hjj hj hj'=>?_⟩
 ·rw [g2 j] at hj
  by_cases e1:j=e
  ·rw [if_pos e1] at hj
   cases hj
  ·rw [if_neg e1] at hj
   dsimp only
   rw [if_neg e1]
   exact h3 j hj
 ·rw [g2 j] at hj
  by_cases e1:j=e
  ·dsimp only
   rw [if_pos e1] at hj ⊢
   simp at hj
   subst hj
   refine ⟨?_,by simp,?_⟩
   ·have:=hown.kept hg3 (hne hown)
    simpa using this
   ·rcases hloc with hl|hl
    ·cases hlk:Tlk ls e with
     | none =>
      rw [hlk] at hl
      have:v'.ownBlock=none:=by rw [hl];rfl
      obtain ⟨g,hg,_⟩:=J1 hown (by omega)
      rw [hg] at this
      cases this
     | some v =>
      rw [hlk] at hl
      rw [hl]
      exact (h4 e v hlk).2.2
    ·rw [hl]
     cases hvb:vt.ownBlock with
     | none=>exact Or.inl rfl
     | some g =>
      have:=hvt g hvb
      refine Or.inr (fun e2=>?_)
      simp at e2
      omega
  ·dsimp only
   rw [if_neg e1] at hj ⊢
   obtain ⟨a1,a2,a3⟩:=h4 j v hj
   refine ⟨?_,a2,a3⟩
   have b1:=a1.kept hg1 (hne a1)
   have b2:W3.ownsRow base 3 1 v (G j).length ((G j).map (Value.int .i64)):=by
    refine b1.kept hg2 ?_
    cases hlk:Tlk ls e with
    | none =>
     obtain ⟨g,hg,_⟩:=J1 a1 (List.length_pos_iff.2 a2)
     rw [hg]
     exact Or.inr (by simp [Value.ownBlock])
    | some v0=>exact Or.inr (h5 j e v v0 e1 hj hlk)
   exact b2.kept hg3 (hne b2)
 ·rw [g2 j] at hj
  rw [g2 j'] at hj'
  have fresh:∀i u,i≠e→Tlk ls i=some u→u.ownBlock≠v'.ownBlock:=fun i u hi hu=>by
   obtain ⟨a1,a2,_⟩:=h4 i u hu
   obtain ⟨g,hg,_,hg3⟩:=J1 a1 (List.length_pos_iff.2 a2)
   rcases hloc with hl|hl
   ·cases hlk:Tlk ls e with
    | none =>
     rw [hlk] at hl
     rw [hl,hg]
     simp [Value.ownBlock]
    | some v0 =>
     rw [hlk] at hl
     rw [hl]
     exact h5 i e u v0 hi hu hlk
   ·rw [hl,hg,hsz]
    intro e2
    simp at e2
    omega
  by_cases e1:j=e
  ·rw [if_pos e1] at hj
   rw [if_neg (fun e2=>hjj (e1.trans e2.symm))] at hj'
   simp at hj
   subst hj
   exact fun e2=>fresh j' v2 (fun e3=>hjj (e1.trans e3.symm)) hj' e2.symm
  ·rw [if_neg e1] at hj
   by_cases e3:j'=e
   ·rw [if_pos e3] at hj'
    simp at hj'
    subst hj'
    exact fresh j v e1 hj
   ·rw [if_neg e3] at hj'
    exact h5 j j' v v2 hjj hj hj'
end Go.Proofs.YtgpjaecgkkgehaaGreatDoor
namespace Go.Proofs.YtgpjaecgkkgehaaGreatDoor
open Go.RowKit Go.Shelf Go.ChangeMaps
attribute [local go_sem] Oper.semAt_some
def Rec (fn:FuncId) (tmps:Array Value) (ps:Array Tmp) (assign body:Code) (D:Nat) (st:LoopState):Loop:={ state:=st,pending:=none,fn:=fn,tmps:=tmps,params:=ps,assign:=assign,body:=body,defers:=D }
theorem range_outer {P:Program} {n:Nat} {g:Operand} {ps:Array Tmp} {assign body:Code} {Q:Exit→Act→World→Prop} {a:Act} {w:World} {gf:Nat} {lb:Array Value} (hg:a.eval g=.func (.func gf) #[] lb) (eg:∀args w,(callFunc gf args).run P w=.ok (.enter gf args) w)
  (h:∀fn,CallsIn .wide (n - 1) P gf (#[.func (.yield (w.heap.size+1)) #[] #[]]++lb) ((w.alloc (.deferred (some []))).alloc (.loop (Rec fn a.tmps ps assign body w.heap.size .ready))) fun e W=>(∃v,e=.returned v)∧W.heap[w.heap.size+1]?=some (.loop (Rec fn a.tmps ps assign body w.heap.size .ready))∧Q .normal { a with defers:={ target:=.collected w.heap.size,args:=#[] } :: a.defers } (W.putObj (w.heap.size+1) (.loop (Rec fn a.tmps ps assign body w.heap.size .exhausted)))) :
  (Code.rangeFunc g ps assign body).wpIn .wide n P Q a w:=by
 refine wpIn_rangeFunc ?_
 intro fn _
 refine ⟨w.heap.size+1,[{ target:=.collected w.heap.size,args:=#[] }],((w.alloc (.deferred (some []))).alloc (.loop (Rec fn a.tmps ps assign body w.heap.size .ready))),{ target:=.fn (.func gf) lb,args:=#[.func (.yield (w.heap.size+1)) #[] #[]] },((w.alloc (.deferred (some []))).alloc (.loop (Rec fn a.tmps ps assign body w.heap.size .ready))),gf,#[.func (.yield (w.heap.size+1)) #[] #[]]++lb,((w.alloc (.deferred (some []))).alloc (.loop (Rec fn a.tmps ps assign body w.heap.size .ready))),run_enterLoop_outer _ _ _ _ _,?_,fun _ _=>trivial,?_,fun h=>(by cases h),?_⟩
 ·simp only [resolve,hg]
  simp [go_sem]
 ·simp [invoke,go_sem,eg]
 ·refine (h fn).mono ?_
  rintro e W ⟨⟨v,rfl⟩,hl,hq⟩
  exact ⟨none,_,run_endLoop hl (by simp [Rec]),hq⟩
theorem round_of {P:Program} {l m:Nat} {R:Ending→World→Prop} {fn:FuncId} {tmps:Array Value} {ps:Array Tmp} {assign body:Code} {D:Nat} {W:World} {args:Array Value} (hl:W.heap[l]?=some (.loop (Rec fn tmps ps assign body D .ready))) (hs:args.size=ps.size) (a₁:Act)
  (hassign:∀K:Act→World→Prop,K a₁ W→assign.wpIn (Fence.wide.inRound l) m P (Exit.then K (fun _ _ _=>False)) { tmps:=(ps.zip args).foldl (fun t (p,v)=>t.setIfInBounds p v) tmps,defers:=[] } W)
  (hbody:body.wpIn (Fence.wide.inRound l) m P (fun e _ W3=>e=.normal∧W3.heap[l]?=some (.loop (Rec fn tmps ps assign body D .busy))∧R (.returned (.bool true)) (W3.putObj l (.loop (Rec fn tmps ps assign body D .ready)))) a₁ (W.putObj l (.loop (Rec fn tmps ps assign body D .busy)))) :
  YieldAt .wide m P l args W R:=by
 refine ⟨fn,_,assign,body,run_yield hl hs,roundIn_of_wpIn trivial (hassign _ ⟨_,run_beginRound hl rfl,wpIn_mono hbody ?_⟩)⟩
 rintro e a3 W3 ⟨rfl,h3,hr⟩
 exact ⟨_,_,run_endRound none h3,hr⟩
theorem RoundIn_any {m m':Nat} {P:Program} {l:Nat} {f:FuncId} {tmps:Array Value} {assign body:Code} {w:World} {R:Ending→World→Prop} (h:RoundIn .wide m P l f tmps assign body w R):RoundIn .wide m' P l f tmps assign body w R:=⟨h.1,fun c cs _=>h.2 c cs (room_wide _)⟩
structure Frm (J:Option (Nat×Obj)→List ((Int×Int×Int)×Value×Nat)→World→Prop):Prop where
 gro:∀{fb vis W W'},J fb vis W→Bl W W'→J fb vis W'
 new:∀{vis W o},J none vis W→J (some (W.heap.size,o)) vis (W.alloc o)
 put:∀{b o vis W} (o':Obj),J (some (b,o)) vis W→J (some (b,o')) vis (W.putObj b o')
 here:∀{b o vis W},J (some (b,o)) vis W→W.heap[b]?=some o
 tail:∀{b o vis W},J (some (b,o)) vis W→J none vis W
def JJ (n₀:Nat) (C:(Nat→Prop)→List ((Int×Int×Int)×Value×Nat)→World→Prop) (fb:Option (Nat×Obj)) (vis:List ((Int×Int×Int)×Value×Nat)) (W:World):Prop:=(∀x,fb=some x→W.heap[x.1]?=some x.2∧n₀≤x.1)∧∃mb,C mb vis W∧∀x,fb=some x→¬mb x.1
theorem put_other {W:World} {b c:Nat} {o:Obj} (h:c≠b):(W.putObj b o).heap[c]?=W.heap[c]?:=World.putObj_heap_other h
theorem Frm.of {n₀:Nat} {C:(Nat→Prop)→List ((Int×Int×Int)×Value×Nat)→World→Prop} (s0:∀{mb k W},C mb k W→n₀≤W.heap.size) (sg:∀{mb k W W' row},C mb k W→W.grownBy W' row→(∀r,row=some r→n₀≤r∧¬mb r)→C mb k W') (s3:∀{mb k W b},C mb k W→mb b→b<W.heap.size):Frm (JJ n₀ C):={
 gro:=by
  rintro fb k W W' ⟨h2,mb,h3,h4⟩ hb
  exact ⟨fun x hx=>⟨(hb.block x.1 (Array.getElem?_eq_some_iff.1 (h2 x hx).1).1).trans (h2 x hx).1,(h2 x hx).2⟩,mb,sg h3 (Qw hb) (fun r e=>by cases e),h4⟩
 new:=by
  rintro k W o ⟨_,mb,h3,_⟩
  refine ⟨fun x hx=>?_,mb,sg (row:=none) h3 (World.grownBy_alloc _ _ _) (fun r e=>by cases e),fun x hx hm=>?_⟩
  ·cases hx
   exact ⟨heap_alloc_new W o,s0 h3⟩
  ·cases hx
   have:=s3 h3 hm
   simp only at this
   omega
 put:=by
  rintro b o k W o' ⟨h2,mb,h3,h4⟩
  have hb:=h2 (b,o) rfl
  have hlt:=(Array.getElem?_eq_some_iff.1 hb.1).1
  refine ⟨fun x hx=>?_,mb,sg h3 (grownBy_putObj' W b o') (fun r e=>by cases e;exact ⟨hb.2,h4 (b,o) rfl⟩),fun x hx=>?_⟩
  ·cases hx
   exact ⟨World.putObj_heap_same hlt,hb.2⟩
  ·cases hx
   exact h4 (b,o) rfl
 here:=by
  rintro b o k W ⟨h2,_⟩
  exact (h2 (b,o) rfl).1
 tail:=by
  rintro b o k W ⟨h2,mb,h3,h4⟩
  refine ⟨?_,mb,h3,?_⟩<;>(intro x hx;cases hx) }
theorem run_range_tm {w:World} {rm c:Nat} {ls:List ((Int×Int×Int)×Value×Nat)} (h:TEM w rm ls c):(Instr.range 200 (.map (some rm))).run Tryz.prog w=.ok (.pointer (some ⟨w.heap.size,0,none⟩)) (w.alloc (.mapIter (some rm) c #[] c)):=by
 unfold TEM at h
 simp [Instr.range,run_underlying Tryz.underlying200,MapKept.run_getObj_map h,Result.andThen]
theorem tm_same {w:World} {r:Nat} (h:r<w.heap.size) (o:Obj):(w.putObj r o).heap[r]?=some o:=World.putObj_heap_same h
def AllC (ls:List ((Int×Int×Int)×Value×Nat)) (seen:List Nat):Prop := ∀x∈ls,x.2.2∈seen
def OneC (ls:List ((Int×Int×Int)×Value×Nat)) (seen:List Nat) (x:((Int×Int×Int)×Value×Nat)):Prop:=x∈ls∧x.2.2 ∉ seen
theorem wpListIn_next_tm {F:Fence} {n:Nat} {w:World} {ops:Array Oper} {rest:List Oper} {o:Oper} {a:Act} {Q:Exit→Act→World→Prop} (hg:o.guard=none) (it:Operand) (hop:o.op=Op.next it false) (rm r c:Nat) (ls:List ((Int×Int×Int)×Value×Nat)) (seen:List Nat)
  (hit:a.eval it=.pointer (some ⟨r,0,none⟩)) (hm:TEM w rm ls c) (hr:w.heap[r]?=some (.mapIter (some rm) c seen.toArray c)) (hG:TGood ls c) (hne:r≠rm)
  (hDone:AllC ls seen→wpListIn F n Tryz.prog ops Q rest (a.put o.dst (.tuple #[.bool false])) w)
  (hMore:∀(k1 k2 k3:Int) (xv:Value) (st:Nat) (W1:World),OneC ls seen ((k1,k2,k3),xv,st)→Bl w W1→(Instr.entry (.pointer (some ⟨r,0,none⟩))).run Tryz.prog (W1.putObj r (.mapIter (some rm) c (seen++[st]).toArray c))=.ok (.tuple #[.agg #[.int .i64 k1,.int .i64 k2,.int .i64 k3],xv]) (W1.putObj r (.mapIter (some rm) c (seen++[st]).toArray c)) →
   wpListIn F n Tryz.prog ops Q rest (a.put o.dst (.tuple #[.bool true,.agg #[.int .i64 k1,.int .i64 k2,.int .i64 k3],xv])) (W1.putObj r (.mapIter (some rm) c (seen++[st]).toArray c))):wpListIn F n Tryz.prog ops Q (o :: rest) a w:=by
 refine wpListIn_plain hg fun K' hK'=>?_
 unfold Oper.wpIn
 refine ⟨by simp [Oper.about,hop],?_⟩
 rw [Oper.semAt_plain F _ _ (by rw [hop];intro c hc';cases hc')]
 have hold:∀x∈((ls.map TtoE).toArray).toList,x.born<c:=fun x hx=>by
  simp only [List.mem_map] at hx
  obtain ⟨y,hy,rfl⟩:=hx
  exact hG.2.2 y hy
 rcases run_next_at (P:=Tryz.prog) w o.type r rm c c seen.toArray _ c hr hm hold (Nat.le_refl _) with ⟨h0,hrun⟩|⟨e,he,w1,hw1,hrun⟩
 ·simp [execOp,hop,hit,hrun,Result.andThen]
  refine hK' _ _ (hDone (fun x hx=>?_))
  have:leftOf (ls.map TtoE).toArray seen.toArray=#[]:=Array.eq_empty_of_size_eq_zero h0
  unfold leftOf at this
  rw [Array.filter_eq_empty_iff] at this
  have:=this (TtoE x) (by rw [List.mem_toArray];exact List.mem_map.2 ⟨x,hx,rfl⟩)
  simpa [TtoE] using this
 ·have hel:∃x∈ls,x.2.2 ∉ seen∧TtoE x=e:=by
   unfold leftOf at he
   simp only [Array.toList_filter,List.mem_filter,List.mem_map] at he
   obtain ⟨⟨x,hx,rfl⟩,hs⟩:=he
   exact ⟨x,hx,by simpa [TtoE] using hs,rfl⟩
  obtain ⟨x,hx,hxs,rfl⟩:=hel
  have hm1:TEM w1 rm ls c∧w1.heap[r]?=some (.mapIter (some rm) c seen.toArray c)∧Bl w w1:=by
   rcases hw1 with rfl|rfl
   ·exact ⟨hm,hr,Qc _⟩
   ·exact ⟨hm,hr,Qf (Qc _)⟩
  obtain ⟨m1,r1,b1⟩:=hm1
  simp [execOp,hop,hit,hrun,Result.andThen]
  obtain ⟨⟨k1,k2,k3⟩,xv,st⟩:=x
  refine hK' _ _ (hMore k1 k2 k3 xv st w1 ⟨hx,hxs⟩ b1 ?_)
  have zr:=(Array.getElem?_eq_some_iff.1 r1).1
  have e1:=run_entry_at (P:=Tryz.prog) (w1.putObj r (.mapIter (some rm) c (seen++[st]).toArray c)) r rm c seen.toArray (ls.map TtoE).toArray c (TtoE ((k1,k2,k3),xv,st)) (by
   rw [tm_same zr]
   simp [TtoE]) ((put_other (Ne.symm hne)).trans m1) (by simpa using List.mem_map.2 ⟨_,hx,rfl⟩) (by
   have:=hG.2.1
   simpa [List.map_map,TtoE,Function.comp_def] using this)
  exact e1
def Vis (ls vis:List ((Int×Int×Int)×Value×Nat)):Prop:=(∀x∈vis,x∈ls)∧(vis.map (fun x=>x.2.2)).Nodup
theorem stamp_len:∀(a b:List Nat),a.Nodup→(∀x∈a,x∈b)→a.length≤b.length
 | [],_,_,_=>by simp
 | x :: r,b,h,hs=>by
  rw [List.nodup_cons] at h
  have hx:=hs x (by simp)
  have h1:=stamp_len r (b.erase x) h.2 (fun y hy=>by
   have hne:y≠x:=fun e=>h.1 (e ▸ hy)
   exact (List.mem_erase_of_ne hne).2 (hs y (by simp [hy])))
  rw [List.length_erase_of_mem hx] at h1
  have:=List.length_pos_of_mem hx
  rw [List.length_cons]
  omega
theorem Vis.len {ls vis:List ((Int×Int×Int)×Value×Nat)} {c:Nat} (_hG:TGood ls c) (h:Vis ls vis):vis.length≤ls.length:=by
 have h1:=stamp_len (vis.map (fun x=>x.2.2)) (ls.map (fun x=>x.2.2)) h.2 (fun y hy=>by
  obtain ⟨x,hx,rfl⟩:=List.mem_map.1 hy
  exact List.mem_map.2 ⟨x,h.1 x hx,rfl⟩)
 simpa using h1
theorem Vis.more {ls vis:List ((Int×Int×Int)×Value×Nat)} {x:((Int×Int×Int)×Value×Nat)} (h:Vis ls vis) (hx:x∈ls) (hn:x.2.2 ∉ vis.map (fun x=>x.2.2)):Vis ls (vis++[x]):=by
 refine ⟨fun y hy=>?_,?_⟩
 ·rcases List.mem_append.1 hy with hy|hy
  ·exact h.1 y hy
  ·simp at hy
   rw [hy]
   exact hx
 ·rw [List.map_append,List.nodup_append]
  refine ⟨h.2,by simp,fun a ha b hb e=>?_⟩
  simp at hb
  exact hn (by rw [←hb,←e];exact ha)
theorem inj_stamp {ls:List ((Int×Int×Int)×Value×Nat)} {c:Nat} (hG:TGood ls c) {x y:((Int×Int×Int)×Value×Nat)} (hx:x∈ls) (hy:y∈ls) (e:x.2.2=y.2.2):x=y:=by
 obtain ⟨i,hi,rfl⟩:=List.getElem_of_mem hx
 obtain ⟨j,hj,rfl⟩:=List.getElem_of_mem hy
 have h2:=hG.2.1
 have hp:=List.pairwise_iff_getElem.1 h2
 rcases Nat.lt_trichotomy i j with q|q|q
 ·exact absurd (by rw [List.getElem_map,List.getElem_map];exact e) (hp i j (by simpa using hi) (by simpa using hj) q)
 ·subst q
  rfl
 ·exact absurd (by rw [List.getElem_map,List.getElem_map];exact e.symm) (hp j i (by simpa using hj) (by simpa using hi) q)
theorem Vis.all {ls vis:List ((Int×Int×Int)×Value×Nat)} {c:Nat} (hG:TGood ls c) (h:Vis ls vis) (ha:∀x∈ls,x.2.2∈vis.map (fun x=>x.2.2)):vis.Perm ls:=by
 have n1:vis.Nodup:=List.Pairwise.of_map (fun x=>x.2.2) (fun a b q e=>q (by rw [e])) h.2
 have n2:ls.Nodup:=List.Pairwise.of_map (fun x=>x.2.2) (fun a b q e=>q (by rw [e])) hG.2.1
 refine (List.perm_ext_iff_of_nodup n1 n2).2 fun x=>⟨h.1 x,fun hx=>?_⟩
 obtain ⟨y,hy,e⟩:=List.mem_map.1 (ha x hx)
 rw [←inj_stamp hG (h.1 y hy) hx e]
 exact hy
theorem values1_in (rm Bm c l m m':Nat) (ls:List ((Int×Int×Int)×Value×Nat)) (hG:TGood ls c) (hsl:∀x∈ls,∃a n q,x.2.1=.slice a n q) (J:Option (Nat×Obj)→List ((Int×Int×Int)×Value×Nat)→World→Prop) (hF:Frm J)
  (hD:∀{fb vis W},J fb vis W→W.cell? ⟨Bm,0,none⟩=some (.map (some rm))∧TEM W rm ls c)
  (hY:∀{fb vis x W},J fb vis W→x∈ls→vis.length<ls.length→YieldAt .wide m Tryz.prog l #[x.2.1] W fun e W'=>e=.returned (.bool true)∧J fb (vis++[x]) W')
  (W:World) (h0:J none [] W) :
  CallsIn .wide m' Tryz.prog 175 #[.func (.yield l) #[] #[],.pointer (some ⟨Bm,0,none⟩)] W fun e W'=>(∃v,e=.returned v)∧∃vis,vis.Perm ls∧J none vis W':=by
 refine callsIn_of_wp Tryz.func175 rfl trivial ?_ rfl
 simp only [Tryz.ntmps175,List.size_toArray,List.length_cons,List.length_nil,Nat.reduceAdd,Nat.reduceSub,Array.replicate_succ,Array.replicate_zero,List.push_toArray,List.append_toArray,List.nil_append,List.cons_append]
 obtain ⟨hd0,hm0⟩:=hD h0
 have hrr:=run_range_tm hm0
 have zm:=hm0.lt
 obtain ⟨r,hr⟩:∃r,r=W.heap.size:=⟨_,rfl⟩
 have h1:=hF.new (o:=.mapIter (some rm) c #[] c) h0
 have HD:Hid (∀fb vis W,J fb vis W→W.cell? ⟨Bm,0,none⟩=some (.map (some rm))∧TEM W rm ls c):=fun _ _ _ h=>hD h
 have HY:Hid (∀fb vis x W,J fb vis W→x∈ls→vis.length<ls.length→YieldAt .wide m Tryz.prog l #[x.2.1] W fun e W'=>e=.returned (.bool true)∧J fb (vis++[x]) W'):=fun _ _ _ _ h1 h2 h3=>hY h1 h2 h3
 have HSL:Hid (∀x∈ls,∃a n q,x.2.1=.slice a n q):=hsl
 have HG:Hid (TGood ls c):=hG
 have HF:Hid (Frm J):=hF
 have HJ:Hid (J (some (r,.mapIter (some rm) c #[] c)) [] (W.alloc (.mapIter (some rm) c #[] c))):=by rw [hr];exact h1
 have HNE:Hid (r≠rm):=by
  have:r≠rm:=by omega
  exact this
 clear hD hY hsl hG hF h1 h0 zm
 gi_wp2
 rw [←hr]
 obtain ⟨W1,hW1⟩:∃W1,W1=W.alloc (.mapIter (some rm) c #[] c):=⟨_,rfl⟩
 rw [←hW1] at HJ ⊢
 clear hW1 hrr hm0 hd0 hr
 gi_loopg [] ls.length (fun gk wx=>∃vis:List ((Int×Int×Int)×Value×Nat),gk=ls.length-vis.length∧Vis ls vis∧J (some (r,.mapIter (some rm) c (vis.map (fun x=>x.2.2)).toArray c)) vis wx)
 case atStart=>exact ⟨[],by simp,⟨by simp,by simp⟩,HJ.out⟩
 case round =>
  clear HJ
  obtain ⟨vis,rfl,hV,hJ⟩:=hrel
  have hm:=(HD.out _ _ _ hJ).2
  have hit:=HF.out.here hJ
  gi_wp2_with (gi_at_next;refine wpListIn_next_tm rfl _ rfl rm r c ls (vis.map (fun x=>x.2.2)) rfl hm hit HG.out HNE.out ?done ?more)
  case done =>
   intro hall
   gi_wp2
   go_end0
   exact ⟨⟨_,rfl⟩,vis,hV.all HG.out hall,HF.out.tail hJ⟩
  case more =>
   intro k1 k2 k3 xv st W2 hone hb hen
   obtain ⟨x,hxe⟩:∃x:((Int×Int×Int)×Value×Nat),x=((k1,k2,k3),xv,st):=⟨_,rfl⟩
   rw [←hxe] at hone
   obtain ⟨hx,hxn⟩:=hone
   obtain ⟨a3,n3,q3,hv⟩:=HSL.out x hx
   have hst:st=x.2.2:=by rw [hxe]
   have hxv:xv=.slice a3 n3 q3:=by rw [←hv,hxe]
   rw [hst] at hen ⊢
   rw [hxv] at hen ⊢
   clear hxe
   have hV2:=hV.more hx hxn
   have hl2:=hV2.len HG.out
   rw [List.length_append,List.length_singleton] at hl2
   have hJ2:=HF.out.put (.mapIter (some rm) c (vis.map (fun x=>x.2.2)++[x.2.2]).toArray c) (HF.out.gro hJ hb)
   have hyy:=HY.out _ _ x _ hJ2 hx (by omega)
   have HV2:Hid (Vis ls (vis++[x])):=hV2
   rw [hv] at hyy
   generalize W2.putObj r (.mapIter (some rm) c (vis.map (fun x=>x.2.2)++[x.2.2]).toArray c)=W3 at hyy hen ⊢
   obtain ⟨fn,tmps,assign,body,hy,hR⟩:=hyy
   clear hm hit hJ hV hb hJ2 hV2
   gi_wp2
   refine ⟨fun h=>(by cases h),(RoundIn_any hR).mono ?_⟩
   rintro e W4 ⟨rfl,hJ4⟩
   have HJ4:Hid (J (some (r,.mapIter (some rm) c ((vis++[x]).map (fun x=>x.2.2)).toArray c)) (vis++[x]) W4):=by
    rw [List.map_append]
    exact hJ4
   clear hJ4 hy hR hen
   gi_wp2
   gi_roundg (ls.length-(vis++[x]).length)
   case measure =>
    rw [List.length_append,List.length_singleton]
    omega
   case rel=>exact ⟨vis++[x],rfl,HV2.out,HJ4.out⟩
attribute [local go_sem] Oper.semAt_some
def valsOf (vis:List ((Int×Int×Int)×Value×Nat)):List Value:=vis.map fun x=>x.2.1
theorem valsOf_add (vis:List ((Int×Int×Int)×Value×Nat)) (x:((Int×Int×Int)×Value×Nat)):valsOf (vis++[x])=valsOf vis++[x.2.1]:=by simp [valsOf]
structure CA (w:World) (b0 l1 D1:Nat) (rec:Loop) (mb:Nat→Prop) (vis:List ((Int×Int×Int)×Value×Nat)) (W:World):Prop where
 m:mb b0∧mb l1∧mb D1
 lt:∀b,mb b→b<W.heap.size
 l:W.heap[l1]?=some (.loop rec)
 d:W.heap[D1]?=some (.deferred (some []))
 b:Bl w W
 row:∃v,Boxed W b0 171 v∧W.ownsRow w.heap.size 22 1 v vis.length (valsOf vis)∧∀q,v.ownBlock=some q→mb q
theorem CA.grown {w:World} {b0 l1 D1:Nat} {rec:Loop} {mb:Nat→Prop} {k:List ((Int×Int×Int)×Value×Nat)} {W W':World} {row:Option Nat} (h:CA w b0 l1 D1 rec mb k W) (hg:W.grownBy W' row) (hr:∀r,row=some r→w.heap.size≤r∧¬mb r):CA w b0 l1 D1 rec mb k W':=by
 have hn:∀b,mb b→some b≠row:=fun b hb e=>(hr b e.symm).2 hb
 obtain ⟨m0,m1,m2⟩:=h.m
 obtain ⟨v,r1,r2,r3⟩:=h.row
 refine ⟨h.m,fun b hb=>Nat.lt_of_lt_of_le (h.lt b hb) hg.size,(hg.block _ (h.lt _ m1) (hn _ m1)).trans h.l,(hg.block _ (h.lt _ m2) (hn _ m2)).trans h.d,h.b.grown hg h.b.size (fun r e=>(hr r e).1),v,r1.kept hg (hn _ m0),r2.kept hg ?_,r3⟩
 cases e:v.ownBlock with
 | none=>exact Or.inl rfl
 | some q=>exact Or.inr (fun e2=>hn q (r3 q e) e2)
theorem CA.fr (w:World) (b0 l1 D1:Nat) (rec:Loop):Frm (JJ w.heap.size (CA w b0 l1 D1 rec)) :=
 Frm.of (fun h=>h.b.size) (fun h hg hr=>h.grown hg hr) (fun h hb=>h.lt _ hb)
theorem Xi {W:World} {base e n:Nat} {v:Value} {xs:List Value} {q:Nat} (h:W.ownsRow base e 1 v n xs) (hq:v.ownBlock=some q):∃cur,W.heap[q]?=some (.cells cur e):=by
 rcases h.2 with ⟨rfl,_⟩|⟨g,cap,cur,rfl,_,h3,_⟩
 ·simp [Value.ownBlock] at hq
 ·simp [Value.ownBlock] at hq
  subst hq
  exact ⟨cur,h3⟩
theorem JA.yes {w w1:World} {b0 l1 D1:Nat} {R:LoopState→Loop} {fb:Option (Nat×Obj)} {vis:List ((Int×Int×Int)×Value×Nat)} {x:((Int×Int×Int)×Value×Nat)} {tmp:Obj} {W:World} {mb:Nat→Prop} {v v':Value} (hd:b0≠l1∧D1≠l1∧D1≠b0) (hb:w.heap.size≤b0∧w.heap.size≤l1)
  (h2:∀y,fb=some y→W.heap[y.1]?=some y.2∧w.heap.size≤y.1) (hC:CA w b0 l1 D1 (R .ready) mb vis W) (h4:∀y,fb=some y→¬mb y.1)
  (r1:Boxed W b0 171 v) (r2:W.ownsRow w.heap.size 22 1 v vis.length (valsOf vis)) (r3:∀q,v.ownBlock=some q→mb q)
  (hown:w1.ownsRow w.heap.size 22 1 v' (vis.length+1) (valsOf vis++[x.2.1])) (hgrow:((W.putObj l1 (.loop (R .busy))).alloc tmp).grownBy w1 v.ownBlock) (hblk:v'.ownBlock=v.ownBlock∨v'.ownBlock=some ((W.putObj l1 (.loop (R .busy))).alloc tmp).heap.size) :
  (w1.setCell ⟨b0,0,none⟩ v').heap[l1]?=some (.loop (R .busy))∧JJ w.heap.size (CA w b0 l1 D1 (R .ready)) fb (vis++[x]) ((w1.setCell ⟨b0,0,none⟩ v').putObj l1 (.loop (R .ready))):=by
 obtain ⟨m0,m1,m2⟩:=hC.m
 obtain ⟨d1,d2,d3⟩:=hd
 obtain ⟨hb0,hbl⟩:=hb
 have g1:=grownBy_putObj' W l1 (.loop (R .busy))
 have g2:(W.putObj l1 (.loop (R .busy))).grownBy ((W.putObj l1 (.loop (R .busy))).alloc tmp) none:=World.grownBy_alloc _ _ _
 have g4:=grownBy_setCell' w1 b0 v'
 have g5:=grownBy_putObj' (w1.setCell ⟨b0,0,none⟩ v') l1 (.loop (R .ready))
 have z2:W.heap.size≤((W.putObj l1 (.loop (R .busy))).alloc tmp).heap.size:=Nat.le_trans g1.size g2.size
 have z3:W.heap.size≤w1.heap.size:=Nat.le_trans z2 hgrow.size
 have z4:W.heap.size≤(w1.setCell ⟨b0,0,none⟩ v').heap.size:=Nat.le_trans z3 g4.size
 have no1:∀q,v.ownBlock=some q→q≠l1:=fun q hq e=>by
  obtain ⟨cur,hc⟩:=Xi r2 hq
  rw [e,hC.l] at hc
  cases hc
 have no2:∀q,v.ownBlock=some q→q≠D1:=fun q hq e=>by
  obtain ⟨cur,hc⟩:=Xi r2 hq
  rw [e,hC.d] at hc
  cases hc
 have no0:some b0≠v.ownBlock:=r1.not_row (by decide) r2
 have same3:∀b,b<W.heap.size→b≠l1→some b≠v.ownBlock→w1.heap[b]?=W.heap[b]?:=fun b hlt n1 nv =>
  ((hgrow.block b (Nat.lt_of_lt_of_le hlt z2) nv).trans (g2.block b (Nat.lt_of_lt_of_le hlt g1.size) (by simp))).trans (g1.block b hlt (by simpa using n1))
 have same:∀b,b<W.heap.size→b≠l1→b≠b0→some b≠v.ownBlock→((w1.setCell ⟨b0,0,none⟩ v').putObj l1 (.loop (R .ready))).heap[b]?=W.heap[b]?:=fun b hlt n1 n0 nv =>
  ((g5.block b (Nat.lt_of_lt_of_le hlt z4) (by simpa using n1)).trans (g4.block b (Nat.lt_of_lt_of_le hlt z3) (by simpa using n0))).trans (same3 b hlt n1 nv)
 have hlb:(W.putObj l1 (.loop (R .busy))).heap[l1]?=some (.loop (R .busy)):=World.putObj_heap_same (hC.lt _ m1)
 have hl3:w1.heap[l1]?=some (.loop (R .busy)):=((hgrow.block l1 (Nat.lt_of_lt_of_le (hC.lt _ m1) z2) (fun e=>no1 l1 e.symm rfl)).trans (g2.block l1 (Nat.lt_of_lt_of_le (hC.lt _ m1) g1.size) (by simp))).trans hlb
 have hl4:(w1.setCell ⟨b0,0,none⟩ v').heap[l1]?=some (.loop (R .busy)):=(g4.block l1 (Nat.lt_of_lt_of_le (hC.lt _ m1) z3) (by simpa using d1.symm)).trans hl3
 have zf:W.heap.size≤((w1.setCell ⟨b0,0,none⟩ v').putObj l1 (.loop (R .ready))).heap.size:=Nat.le_trans z4 g5.size
 have rowf:((w1.setCell ⟨b0,0,none⟩ v').putObj l1 (.loop (R .ready))).ownsRow w.heap.size 22 1 v' (vis++[x]).length (valsOf (vis++[x])):=by
  have b1:Boxed w1 b0 171 v:=((r1.kept g1 (by simpa using d1)).alloc tmp).kept hgrow no0
  have h8:=hown.kept g4 (.inr (b1.not_row (by decide) hown).symm)
  have h9:=ownsRow_putObj h8 (.loop (R .ready)) hl4 rfl
  rw [List.length_append,valsOf_add]
  exact h9
 refine ⟨hl4,fun y hy=>?_,fun b=>mb b∨v'.ownBlock=some b,⟨⟨Or.inl m0,Or.inl m1,Or.inl m2⟩,?_,?_,?_,?_,v',?_,rowf,fun q hq=>Or.inr hq⟩,?_⟩
 ·have hx2:=h2 y hy
  have hx4:=h4 y hy
  refine ⟨?_,hx2.2⟩
  rw [same y.1 (Array.getElem?_eq_some_iff.1 hx2.1).1 (fun e=>hx4 (e ▸ m1)) (fun e=>hx4 (e ▸ m0)) (fun e=>hx4 (r3 _ e.symm))]
  exact hx2.1
 ·rintro b (hb|hb)
  ·exact Nat.lt_of_lt_of_le (hC.lt b hb) zf
  ·obtain ⟨cur,hc⟩:=Xi rowf hb
   exact (Array.getElem?_eq_some_iff.1 hc).1
 ·exact World.putObj_heap_same (Array.getElem?_eq_some_iff.1 hl4).1
 ·exact (same D1 (hC.lt _ m2) d2 d3 (fun e=>no2 D1 e.symm rfl)).trans hC.d
 ·have k1:=hC.b.grown g1 hC.b.size (fun r e=>by cases e;exact hbl)
  have k2:=k1.grown g2 k1.size (fun r e=>by cases e)
  have k3:=k2.grown hgrow k2.size (fun r e=>(r2.lt r e).1)
  have k4:=k3.grown g4 k3.size (fun r e=>by cases e;exact hb0)
  exact k4.grown g5 k4.size (fun r e=>by cases e;exact hbl)
 ·exact ((((r1.kept g1 (by simpa using d1)).alloc tmp).kept hgrow no0).set v').kept g5 (by simpa using d1)
 ·rintro y hy (hm|hq)
  ·exact h4 y hy hm
  ·have hx2:=h2 y hy
   have hlt:=(Array.getElem?_eq_some_iff.1 hx2.1).1
   rcases hblk with e|e
   ·exact h4 y hy (r3 _ (by rw [←e];exact hq))
   ·rw [e] at hq
    simp only [Option.some.injEq] at hq
    omega
theorem cell_oneV (w:World) (v:Value) (T:TypeId):∀j u,([v])[j]?=some u→(w.alloc (.cells #[v] T)).cell? ((⟨w.heap.size,0,none⟩:Addr).add j)=some u:=by
 intro j u hu
 match j,hu with
 | 0,hu=>simp at hu;subst hu;simp [Addr.add,go_sem]
theorem infV:(Tryz.prog.info? 22).map (fun i=>(i.zero,i.size,i.bytes))=some (some (.slice none 0 0),1,24):=by kernel_rfl
def Gath (w w':World) (ls:List ((Int×Int×Int)×Value×Nat)) (v:Value):Prop := ∃vis,vis.Perm ls∧w'.ownsRow w.heap.size 22 1 v vis.length (valsOf vis)∧Bl w w'
theorem appendSeq_any (Bm rm c:Nat) (ls:List ((Int×Int×Int)×Value×Nat)) (hG:TGood ls c) (hsl:∀x∈ls,∃a n q,x.2.1=.slice a n q) (hlen:ls.length≤300) (w:World) (hd:w.cell? ⟨Bm,0,none⟩=some (.map (some rm))) (hm:TEM w rm ls c) :
  Calls Tryz.prog 197 #[.slice none 0 0,.func (.func 175) #[] #[.pointer (some ⟨Bm,0,none⟩)]] w fun e w'=>∃v,e=.returned v∧Gath w w' ls v:=by
 obtain ⟨n,hn⟩:∃n:Nat,n=n:=⟨0,rfl⟩
 refine (callsIn_wide (n:=n)).1 ?_
 clear hn
 obtain ⟨iV,hI⟩:=info_parts infV
 have HI:Hid (Tryz.prog.info? 22=some iV∧iV.zero=some (.slice none 0 0)∧iV.size=1∧iV.bytes=24):=hI
 clear hI
 refine callsIn_of_wp_marks Tryz.func197 rfl trivial ?_ rfl
 simp only [Tryz.ntmps197,List.size_toArray,List.length_cons,List.length_nil,Nat.reduceAdd,Nat.reduceSub,Array.replicate_succ,Array.replicate_zero,List.push_toArray,List.append_toArray,List.nil_append,List.cons_append]
 have zd:Bm<w.heap.size:=bk hd
 have zm:=hm.lt
 gi_wp2
 refine range_outer (gf:=175) (lb:=#[.pointer (some ⟨Bm,0,none⟩)]) rfl (enters_of Tryz.func175 (by kernel_rfl) rfl) (fun fn=>?_)
 generalize hR:Rec fn _ _ _ _ _=R
 simp only [World.size_alloc] at hR ⊢
 have hdis:w.heap.size≠w.heap.size+1+1∧w.heap.size+1≠w.heap.size+1+1∧w.heap.size+1≠w.heap.size:=by omega
 have hble:w.heap.size≤w.heap.size∧w.heap.size≤w.heap.size+1+1:=by omega
 have h0:JJ w.heap.size (CA w w.heap.size (w.heap.size+1+1) (w.heap.size+1) (R .ready)) none [] (((w.alloc (.cells #[.slice none 0 0] 171)).alloc (.deferred (some []))).alloc (.loop (R .ready))):=by
  refine ⟨fun x hx=>(by cases hx),fun b=>b=w.heap.size∨b=w.heap.size+1+1∨b=w.heap.size+1,⟨by simp,?_,?_,?_,?_,.slice none 0 0,?_,?_,?_⟩,fun x hx=>(by cases hx)⟩
  ·intro b hb
   simp only [World.size_alloc]
   omega
  ·have h9:=heap_alloc_new ((w.alloc (.cells #[.slice none 0 0] 171)).alloc (.deferred (some []))) (.loop (R .ready))
   rw [World.size_alloc,World.size_alloc] at h9
   exact h9
  ·have h9:=heap_alloc_new (w.alloc (.cells #[.slice none 0 0] 171)) (.deferred (some []))
   rw [World.size_alloc] at h9
   exact (Below.heap_alloc _ _ _ (by simp)).trans h9
  ·exact Qb (Qb (Qb (Qc _)))
  ·exact ((Boxed.new w 171 _).alloc _).alloc _
  ·exact ⟨rfl,Or.inl ⟨rfl,rfl⟩⟩
  ·intro q hq
   simp [Value.ownBlock] at hq
 refine (values1_in rm Bm c (w.heap.size+1+1) 0 (n - 1) ls hG hsl (JJ w.heap.size (CA w w.heap.size (w.heap.size+1+1) (w.heap.size+1) (R .ready))) (CA.fr ..) ?hD ?hYes _ h0).mono ?_
 case hD =>
  rintro fb k W ⟨_,mb,hC,_⟩
  exact ⟨Qa hC.b hd,hm.grown (Qw hC.b) (by simp)⟩
 case hYes =>
  rintro fb vis x W ⟨h2,mb,hC,h4⟩ hx hxl
  obtain ⟨a3,n3,q3,hv⟩:=hsl x hx
  obtain ⟨v,r1,r2,r3⟩:=hC.row
  have hfin:=fun (w1:World) (v':Value) (tmp:Obj)=>JA.yes (w1:=w1) (v':=v') (tmp:=tmp) (x:=x) hdis hble h2 hC h4 r1 r2 r3
  have hl:=hC.l
  have hbx:=r1.kept (grownBy_putObj' W (w.heap.size+1+1) (.loop (R .busy))) (by simpa using hdis.1)
  have hrow:=ownsRow_putObj r2 (.loop (R .busy)) hl rfl
  have zz:w.heap.size≤(W.putObj (w.heap.size+1+1) (.loop (R .busy))).heap.size:=by
   rw [World.putObj_size]
   exact hC.b.size
  rw [hv] at hfin ⊢
  have HF:Hid (∀(w1:World) (v':Value) (tmp:Obj),w1.ownsRow w.heap.size 22 1 v' (vis.length+1) (valsOf vis++[.slice a3 n3 q3])→((W.putObj (w.heap.size+1+1) (.loop (R .busy))).alloc tmp).grownBy w1 v.ownBlock→(v'.ownBlock=v.ownBlock∨v'.ownBlock=some ((W.putObj (w.heap.size+1+1) (.loop (R .busy))).alloc tmp).heap.size)→(w1.setCell ⟨w.heap.size,0,none⟩ v').heap[w.heap.size+1+1]?=some (.loop (R .busy))∧JJ w.heap.size (CA w w.heap.size (w.heap.size+1+1) (w.heap.size+1) (R .ready)) fb (vis++[x]) ((w1.setCell ⟨w.heap.size,0,none⟩ v').putObj (w.heap.size+1+1) (.loop (R .ready)))):=hfin
  obtain ⟨a8,c8,rfl⟩:∃a8 c8,v=.slice a8 vis.length c8:=by
   rcases r2.2 with ⟨rfl,h9⟩|⟨g9,cap9,cur9,rfl,_⟩
   ·exact ⟨none,0,by rw [h9]⟩
   ·exact ⟨_,cap9,rfl⟩
  clear h2 hC h4 r1 r2 r3 hx hfin hv
  rw [←hR] at hl
  refine round_of hl rfl { tmps:=#[.slice none 0 0,.func (.func 175) #[] #[.pointer (some ⟨Bm,0,none⟩)],.pointer (some ⟨w.heap.size,0,none⟩),undef,.slice none 0 0,.slice a3 n3 q3,.func (.func 175) #[] #[.pointer (some ⟨Bm,0,none⟩)],.slice a3 n3 q3,undef,undef,undef,undef,undef],defers:=[] } ?assign ?body
  case assign =>
   intro K hK
   gi_wp2
   exact hK
  case body =>
   rw [hR]
   have c0:=hbx.cell
   have zb9:=hbx.lt
   generalize hWb:W.putObj (w.heap.size+1+1) (.loop (R .busy))=Wb at *
   clear hR hl h0 hWb
   have hrow2:=Qs hrow (Qb (o:=.cells #[.slice a3 n3 q3] 22) (Qc Wb))
   gi_wp2_with (gi_at_builtin;refine wpListIn_append_own_at _ rfl (.tmp 8) (.tmp 10) 171 rfl w.heap.size 22 iV (.slice none 0 0) 1 24 Tryz.underlying171 HI.out.1 HI.out.2.1 HI.out.2.2.1 HI.out.2.2.2 rfl (by decide) (.slice a8 vis.length c8) vis.length (valsOf vis) rfl hrow2 ⟨Wb.heap.size,0,none⟩ 1 1 [.slice a3 n3 q3] rfl rfl (cell_oneV _ _ _) (by intro u hu;simp at hu;subst hu;rfl) (by unfold maxLen;omega) (by omega) (by simp;omega) ?grow)
   case grow =>
    intro v' w1 hown hgrow _ hblk
    have hf:=HF.out w1 v' _ hown hgrow (hblk.imp id (fun e=>by rw [World.size_alloc];exact e))
    obtain ⟨g9,c9,rfl⟩:=ownsRow_succ hown
    have hbx1:=(hbx.alloc _).kept hgrow (hbx.not_row (by decide) hrow)
    have c1:=hbx1.cell
    have f1:=hbx1.frozen
    have z1:=hbx1.lt
    clear hown hgrow hblk hbx hbx1 hrow hrow2 c0 zb9
    gi_wp2
 rintro e V ⟨⟨u,rfl⟩,vis,hP,_,mb,hC,_⟩
 refine ⟨⟨u,rfl⟩,hC.l,?_⟩
 obtain ⟨v,r1,r2,r3⟩:=hC.row
 have hbx:=r1.kept (grownBy_putObj' V (w.heap.size+1+1) (.loop (R .exhausted))) (by simpa using hdis.1)
 have hrow:=ownsRow_putObj r2 (.loop (R .exhausted)) hC.l rfl
 have hK:(V.putObj (w.heap.size+1+1) (.loop (R .exhausted))).heap[w.heap.size+1]?=some (.deferred (some [])):=(put_other hdis.2.1).trans hC.d
 have hB:Bl w (V.putObj (w.heap.size+1+1) (.loop (R .exhausted))):=hC.b.grown (grownBy_putObj' V _ _) hC.b.size (fun r e=>by cases e;exact hble.2)
 have HP:Hid (vis.Perm ls):=hP
 obtain ⟨a8,c8,rfl⟩:∃a8 c8,v=.slice a8 vis.length c8:=by
  rcases r2.2 with ⟨rfl,h9⟩|⟨g9,cap9,cur9,rfl,_⟩
  ·exact ⟨none,0,by rw [h9]⟩
  ·exact ⟨_,cap9,rfl⟩
 clear r1 r2 r3 hC h0 hR hP
 generalize V.putObj (w.heap.size+1+1) (.loop (R .exhausted))=V1 at *
 have c0:=hbx.cell
 have zb9:=hbx.lt
 gi_wp2
 refine ⟨by simp,.inl ⟨_,_,rfl,run_takeDeferred hK,?_⟩⟩
 exact ⟨.slice a8 vis.length c8,by simp [results,Tryz.results197,go_sem],.slice a8 vis.length c8,rfl,vis,HP.out,ownsRow_putObj hrow _ hK rfl,hB.grown (grownBy_putObj' V1 _ _) hB.size (fun r e=>by cases e;omega)⟩
theorem Gath.slice {w w':World} {ls:List ((Int×Int×Int)×Value×Nat)} {v:Value} (h:Gath w w' ls v):∃a n q,v=.slice a n q:=by
 obtain ⟨vis,_,hr,_⟩:=h
 rcases hr.2 with ⟨rfl,_⟩|⟨_,_,_,rfl,_⟩
 ·exact ⟨_,_,_,rfl⟩
 ·exact ⟨_,_,_,rfl⟩
theorem collect_any (Bm rm c:Nat) (ls:List ((Int×Int×Int)×Value×Nat)) (hG:TGood ls c) (hsl:∀x∈ls,∃a n q,x.2.1=.slice a n q) (hlen:ls.length≤300) (w:World) (hd:w.cell? ⟨Bm,0,none⟩=some (.map (some rm))) (hm:TEM w rm ls c) :
  Calls Tryz.prog 173 #[.func (.func 175) #[] #[.pointer (some ⟨Bm,0,none⟩)]] w fun e w'=>∃v,e=.returned v∧Gath w w' ls v:=by
 have HA:Hid (Calls Tryz.prog 197 #[.slice none 0 0,.func (.func 175) #[] #[.pointer (some ⟨Bm,0,none⟩)]] w fun e w'=>∃v,e=.returned v∧Gath w w' ls v):=appendSeq_any Bm rm c ls hG hsl hlen w hd hm
 clear hG hsl hd hm
 go_enter Tryz.func173,Tryz.ntmps173
 go_wp2_with (go_at_call 197;refine HA.out.mono ?_;rintro e w1 ⟨v,rfl,hg⟩;obtain ⟨a8,n8,c8,rfl⟩:=hg.slice)
 have HG:Hid (Gath w w1 ls (.slice a8 n8 c8)):=hg
 clear hg
 go_ret
 exact ⟨_,rfl,HG.out⟩
theorem values_any (rm:Nat) (w:World):Calls Tryz.prog 142 #[.map (some rm)] w fun e w'=>e=.returned (.func (.func 175) #[] #[.pointer (some ⟨w.heap.size,0,none⟩)])∧w'=w.alloc (.cells #[.map (some rm)] 200):=by
 go_enter Tryz.func142,Tryz.ntmps142
 go_wp2
 go_ret
 exact ⟨rfl,rfl⟩
theorem good_walk {kd:Int×Int×Int×Int→Int} {L:List (Int×Int×Int)} {M:Nat→M6} (h0:0<L.length) (hL:L.length≤300) (hbd:∀t∈L,(0≤t.1∧t.1≤8)∧(0≤t.2.1∧t.2.1≤8)∧(0≤t.2.2∧t.2.2≤3)) (hC:Cons kd L M) :
  ∀m,m≤L.length→∃K:List Nat,K.Nodup∧0∈K∧(∀i∈K,i<L.length∧GoodM (M i) (160*(K.length:Int)))∧(m+1≤K.length∨∀i j (hi:i<L.length) (hj:j<L.length),i∈K→Adj L[i] L[j]→j∈K)
 | 0,_=>⟨[0],by simp,by simp,fun i hi=>by
   simp at hi
   subst hi
   rw [hC.1]
   exact ⟨h0,idM_good.mono (by simp)⟩,Or.inl (by simp)⟩
 | m+1,hm=>by
  obtain ⟨K,h1,h2,h3,h4⟩:=good_walk h0 hL hbd hC m (by omega)
  by_cases hc:∀i j (hi:i<L.length) (hj:j<L.length),i∈K→Adj L[i] L[j]→j∈K
  ·exact ⟨K,h1,h2,h3,Or.inr hc⟩
  ·have hlen:m+1≤K.length:=h4.resolve_right hc
   have:∃i j,∃(hi:i<L.length) (hj:j<L.length),i∈K∧Adj L[i] L[j]∧j ∉ K:=by
    refine Classical.byContradiction fun hno=>hc fun i j hi hj hiK ha=>Classical.byContradiction fun hjK=>hno ⟨i,j,hi,hj,hiK,ha,hjK⟩
   obtain ⟨i,j,hi,hj,hiK,ha,hjK⟩:=this
   obtain ⟨_,e,he1,he2⟩:=ha
   have hKL:K.length≤L.length:=J5 _ _ h1 (fun i hi=>(h3 i hi).1)
   refine ⟨K++[j],snoc_nodup h1 hjK,List.mem_append_left _ h2,fun q hq=>?_,Or.inl (by simp;omega)⟩
   rw [List.length_append,List.length_singleton]
   rcases List.mem_append.1 hq with hq|hq
   ·exact ⟨(h3 q hq).1,(h3 q hq).2.mono (by omega)⟩
   ·simp at hq
    subst hq
    refine ⟨hj,?_⟩
    rw [hC.2 i q hi hj e (fun e=>hjK (e ▸ hiK)) he1 he2]
    exact (far_good he1 (hbd _ (List.getElem_mem hi)) (h3 i hiK).2 (by omega)).mono (by omega)
theorem cons_good {kd:Int×Int×Int×Int→Int} {L:List (Int×Int×Int)} {M:Nat→M6} (hJ:Joined L) (hnd:L.Nodup) (hL:L.length≤300) (hbd:∀t∈L,(0≤t.1∧t.1≤8)∧(0≤t.2.1∧t.2.1≤8)∧(0≤t.2.2∧t.2.2≤3)) (hC:Cons kd L M):∀i,i<L.length→GoodM (M i) 48000:=fun i hi=>by
 obtain ⟨K,h1,h2,h3,h4⟩:=good_walk hJ.1 hL hbd hC L.length (Nat.le_refl _)
 have hKL:K.length≤L.length:=J5 _ _ h1 (fun i hi=>(h3 i hi).1)
 have hcl:=h4.resolve_left (by omega)
 have:=closed_all hJ hnd (· ∈ K) h2 hcl i hi
 exact ((h3 i this).2).mono (by omega)
attribute [local go_sem] Oper.semAt_some
theorem valuesI_in (Bs l m m' c:Nat) (a:Option Addr) (zs:List Int) (hz:zs.length≤17592186044416) (J:Nat→World→Prop) (hD:∀{k W},J k W→W.cell? ⟨Bs,0,none⟩=some (.slice a zs.length c)∧Row W a zs) (hY:∀{k W} (hk:k<zs.length),J k W→YieldAt .wide m Tryz.prog l #[.int .i64 zs[k]] W fun e W'=>e=.returned (.bool true)∧J (k+1) W')
  (W:World) (h0:J 0 W):CallsIn .wide m' Tryz.prog 106 #[.func (.yield l) #[] #[],.pointer (some ⟨Bs,0,none⟩)] W fun e W'=>(∃v,e=.returned v)∧J zs.length W':=by
 refine callsIn_of_wp Tryz.func106 rfl trivial ?_ rfl
 simp only [Tryz.ntmps106,List.size_toArray,List.length_cons,List.length_nil,Nat.reduceAdd,Nat.reduceSub,Array.replicate_succ,Array.replicate_zero,List.push_toArray,List.append_toArray,List.nil_append,List.cons_append]
 obtain ⟨hd0,_⟩:=hD h0
 have HD:Hid (∀k W,J k W→W.cell? ⟨Bs,0,none⟩=some (.slice a zs.length c)∧Row W a zs):=fun _ _ h=>hD h
 have HY:Hid (∀k W (hk:k<zs.length),J k W→YieldAt .wide m Tryz.prog l #[.int .i64 zs[k]] W fun e W'=>e=.returned (.bool true)∧J (k+1) W'):=fun _ _ h1 h2=>hY h1 h2
 have HJ:Hid (J 0 W):=h0
 clear hD hY h0
 gi_wp2
 clear hd0
 gi_loopg [7] zs.length (fun gk s7 wx=>∃k:Nat,k≤zs.length∧gk=zs.length-k∧s7=.int .i64 (k:Int)∧J k wx)
 case atStart=>exact ⟨0,by omega,rfl,rfl,HJ.out⟩
 case round =>
  clear HJ
  obtain ⟨k,hk,rfl,rfl,hJ⟩:=hrel
  have HJ:Hid (J k wr):=hJ
  clear hJ
  by_cases h1:k<zs.length
  ·have i1:(k:Int)<(zs.length:Int):=by omega
   have i0:(0:Int)≤(k:Int):=by omega
   obtain ⟨b,off,rfl,hc⟩:=(HD.out k wr HJ.out).2 k h1
   obtain ⟨z,hzz⟩:∃z,z=zs[k]:=⟨_,rfl⟩
   have hyy:=HY.out k wr h1 HJ.out
   rw [←hzz] at hc hyy
   obtain ⟨fn,tmps,assign,body,hy,hR⟩:=hyy
   clear hzz
   gi_wp2
   refine ⟨fun h=>(by cases h),(RoundIn_any hR).mono ?_⟩
   rintro e W4 ⟨rfl,hJ4⟩
   have HJ4:Hid (J (k+1) W4):=hJ4
   clear hJ4 hy hR hc
   gi_wp2
   gi_roundg (zs.length-(k+1))
   case measure=>omega
   case rel=>exact ⟨k+1,by omega,rfl,by go_num,HJ4.out⟩
  ·have i1:¬(k:Int)<(zs.length:Int):=by omega
   obtain rfl:k=zs.length:=by omega
   gi_wp2
   go_end0
   exact ⟨⟨_,rfl⟩,HJ.out⟩
def ivs (zs:List Int):List Value:=zs.map fun z=>Value.int .i64 z
theorem ivs_take (zs:List Int) (k:Nat) (hk:k<zs.length):ivs (zs.take (k+1))=ivs (zs.take k)++[.int .i64 zs[k]]:=by
 unfold ivs
 rw [List.take_add_one,List.getElem?_eq_getElem hk,List.map_append]
 rfl
structure CI (w:World) (b0 l1 D1:Nat) (rec:Loop) (zs:List Int) (k:Nat) (W:World):Prop where
 l:W.heap[l1]?=some (.loop rec)
 d:W.heap[D1]?=some (.deferred (some []))
 b:Bl w W
 row:∃v,Boxed W b0 22 v∧W.ownsRow w.heap.size 3 1 v k (ivs (zs.take k))
theorem CI.yes {w w1:World} {b0 l1 D1:Nat} {R:LoopState→Loop} {zs:List Int} {k:Nat} {tmp:Obj} {W:World} {v v':Value} (hd:b0≠l1∧D1≠l1∧D1≠b0) (hb:w.heap.size≤b0∧w.heap.size≤l1) (hk:k<zs.length)
  (hC:CI w b0 l1 D1 (R .ready) zs k W) (r1:Boxed W b0 22 v) (r2:W.ownsRow w.heap.size 3 1 v k (ivs (zs.take k)))
  (hown:w1.ownsRow w.heap.size 3 1 v' (k+1) (ivs (zs.take k)++[.int .i64 zs[k]])) (hgrow:((W.putObj l1 (.loop (R .busy))).alloc tmp).grownBy w1 v.ownBlock) :
  (w1.setCell ⟨b0,0,none⟩ v').heap[l1]?=some (.loop (R .busy))∧CI w b0 l1 D1 (R .ready) zs (k+1) ((w1.setCell ⟨b0,0,none⟩ v').putObj l1 (.loop (R .ready))):=by
 obtain ⟨d1,d2,d3⟩:=hd
 obtain ⟨hb0,hbl⟩:=hb
 have zl:l1<W.heap.size:=(Array.getElem?_eq_some_iff.1 hC.l).1
 have zd:D1<W.heap.size:=(Array.getElem?_eq_some_iff.1 hC.d).1
 have g1:=grownBy_putObj' W l1 (.loop (R .busy))
 have g2:(W.putObj l1 (.loop (R .busy))).grownBy ((W.putObj l1 (.loop (R .busy))).alloc tmp) none:=World.grownBy_alloc _ _ _
 have g4:=grownBy_setCell' w1 b0 v'
 have g5:=grownBy_putObj' (w1.setCell ⟨b0,0,none⟩ v') l1 (.loop (R .ready))
 have z2:W.heap.size≤((W.putObj l1 (.loop (R .busy))).alloc tmp).heap.size:=Nat.le_trans g1.size g2.size
 have z3:W.heap.size≤w1.heap.size:=Nat.le_trans z2 hgrow.size
 have z4:W.heap.size≤(w1.setCell ⟨b0,0,none⟩ v').heap.size:=Nat.le_trans z3 g4.size
 have no1:∀q,v.ownBlock=some q→q≠l1:=fun q hq e=>by
  obtain ⟨cur,hc⟩:=Xi r2 hq
  rw [e,hC.l] at hc
  cases hc
 have no2:∀q,v.ownBlock=some q→q≠D1:=fun q hq e=>by
  obtain ⟨cur,hc⟩:=Xi r2 hq
  rw [e,hC.d] at hc
  cases hc
 have no0:some b0≠v.ownBlock:=r1.not_row (by decide) r2
 have same3:∀b,b<W.heap.size→b≠l1→some b≠v.ownBlock→w1.heap[b]?=W.heap[b]?:=fun b hlt n1 nv =>
  ((hgrow.block b (Nat.lt_of_lt_of_le hlt z2) nv).trans (g2.block b (Nat.lt_of_lt_of_le hlt g1.size) (by simp))).trans (g1.block b hlt (by simpa using n1))
 have same:∀b,b<W.heap.size→b≠l1→b≠b0→some b≠v.ownBlock→((w1.setCell ⟨b0,0,none⟩ v').putObj l1 (.loop (R .ready))).heap[b]?=W.heap[b]?:=fun b hlt n1 n0 nv =>
  ((g5.block b (Nat.lt_of_lt_of_le hlt z4) (by simpa using n1)).trans (g4.block b (Nat.lt_of_lt_of_le hlt z3) (by simpa using n0))).trans (same3 b hlt n1 nv)
 have hlb:(W.putObj l1 (.loop (R .busy))).heap[l1]?=some (.loop (R .busy)):=World.putObj_heap_same zl
 have hl3:w1.heap[l1]?=some (.loop (R .busy)):=((hgrow.block l1 (Nat.lt_of_lt_of_le zl z2) (fun e=>no1 l1 e.symm rfl)).trans (g2.block l1 (Nat.lt_of_lt_of_le zl g1.size) (by simp))).trans hlb
 have hl4:(w1.setCell ⟨b0,0,none⟩ v').heap[l1]?=some (.loop (R .busy)):=(g4.block l1 (Nat.lt_of_lt_of_le zl z3) (by simpa using d1.symm)).trans hl3
 have rowf:((w1.setCell ⟨b0,0,none⟩ v').putObj l1 (.loop (R .ready))).ownsRow w.heap.size 3 1 v' (k+1) (ivs (zs.take (k+1))):=by
  have b1:Boxed w1 b0 22 v:=((r1.kept g1 (by simpa using d1)).alloc tmp).kept hgrow no0
  have h8:=hown.kept g4 (.inr (b1.not_row (by decide) hown).symm)
  have h9:=ownsRow_putObj h8 (.loop (R .ready)) hl4 rfl
  rw [ivs_take zs k hk]
  exact h9
 refine ⟨hl4,World.putObj_heap_same (Array.getElem?_eq_some_iff.1 hl4).1,(same D1 zd d2 d3 (fun e=>no2 D1 e.symm rfl)).trans hC.d,?_,v',?_,rowf⟩
 ·have k1:=hC.b.grown g1 hC.b.size (fun r e=>by cases e;exact hbl)
  have k2:=k1.grown g2 k1.size (fun r e=>by cases e)
  have k3:=k2.grown hgrow k2.size (fun r e=>(r2.lt r e).1)
  have k4:=k3.grown g4 k3.size (fun r e=>by cases e;exact hb0)
  exact k4.grown g5 k4.size (fun r e=>by cases e;exact hbl)
 ·exact ((((r1.kept g1 (by simpa using d1)).alloc tmp).kept hgrow no0).set v').kept g5 (by simpa using d1)
def GathI (w w':World) (zs:List Int) (v:Value):Prop:=w'.ownsRow w.heap.size 3 1 v zs.length (ivs zs)∧Bl w w'
theorem appendSeqI_any (Bs c:Nat) (a:Option Addr) (zs:List Int) (hz:zs.length≤300) (w:World) (hd:w.cell? ⟨Bs,0,none⟩=some (.slice a zs.length c)) (hr:Row w a zs) :
  Calls Tryz.prog 138 #[.slice none 0 0,.func (.func 106) #[] #[.pointer (some ⟨Bs,0,none⟩)]] w fun e w'=>∃v,e=.returned v∧GathI w w' zs v:=by
 obtain ⟨n,hn⟩:∃n:Nat,n=n:=⟨0,rfl⟩
 refine (callsIn_wide (n:=n)).1 ?_
 clear hn
 obtain ⟨iV,hI⟩:=info_parts inf3
 have HI:Hid (Tryz.prog.info? 3=some iV∧iV.zero=some (.int .i64 0)∧iV.size=1∧iV.bytes=8):=hI
 clear hI
 refine callsIn_of_wp_marks Tryz.func138 rfl trivial ?_ rfl
 simp only [Tryz.ntmps138,List.size_toArray,List.length_cons,List.length_nil,Nat.reduceAdd,Nat.reduceSub,Array.replicate_succ,Array.replicate_zero,List.push_toArray,List.append_toArray,List.nil_append,List.cons_append]
 have zd:Bs<w.heap.size:=bk hd
 gi_wp2
 refine range_outer (gf:=106) (lb:=#[.pointer (some ⟨Bs,0,none⟩)]) rfl (enters_of Tryz.func106 (by kernel_rfl) rfl) (fun fn=>?_)
 generalize hR:Rec fn _ _ _ _ _=R
 simp only [World.size_alloc] at hR ⊢
 have hdis:w.heap.size≠w.heap.size+1+1∧w.heap.size+1≠w.heap.size+1+1∧w.heap.size+1≠w.heap.size:=by omega
 have hble:w.heap.size≤w.heap.size∧w.heap.size≤w.heap.size+1+1:=by omega
 have h0:CI w w.heap.size (w.heap.size+1+1) (w.heap.size+1) (R .ready) zs 0 (((w.alloc (.cells #[.slice none 0 0] 22)).alloc (.deferred (some []))).alloc (.loop (R .ready))):=by
  refine ⟨?_,?_,Qb (Qb (Qb (Qc _))),.slice none 0 0,((Boxed.new w 22 _).alloc _).alloc _,⟨by simp [ivs],Or.inl ⟨rfl,rfl⟩⟩⟩
  ·have h9:=heap_alloc_new ((w.alloc (.cells #[.slice none 0 0] 22)).alloc (.deferred (some []))) (.loop (R .ready))
   rw [World.size_alloc,World.size_alloc] at h9
   exact h9
  ·have h9:=heap_alloc_new (w.alloc (.cells #[.slice none 0 0] 22)) (.deferred (some []))
   rw [World.size_alloc] at h9
   exact (Below.heap_alloc _ _ _ (by simp)).trans h9
 refine (valuesI_in Bs (w.heap.size+1+1) 0 (n - 1) c a zs (by omega) (CI w w.heap.size (w.heap.size+1+1) (w.heap.size+1) (R .ready) zs) ?hD ?hYes _ h0).mono ?_
 case hD =>
  rintro k W hC
  exact ⟨Qa hC.b hd,hr.kept hC.b⟩
 case hYes =>
  rintro k W hk hC
  obtain ⟨v,r1,r2⟩:=hC.row
  have hfin:=fun (w1:World) (v':Value) (tmp:Obj)=>CI.yes (w1:=w1) (v':=v') (tmp:=tmp) hdis hble hk hC r1 r2
  have hl:=hC.l
  have hbx:=r1.kept (grownBy_putObj' W (w.heap.size+1+1) (.loop (R .busy))) (by simpa using hdis.1)
  have hrow:=ownsRow_putObj r2 (.loop (R .busy)) hl rfl
  have zz:w.heap.size≤(W.putObj (w.heap.size+1+1) (.loop (R .busy))).heap.size:=by
   rw [World.putObj_size]
   exact hC.b.size
  obtain ⟨z,hzz⟩:∃z,z=zs[k]:=⟨_,rfl⟩
  rw [←hzz] at hfin ⊢
  have HF:Hid (∀(w1:World) (v':Value) (tmp:Obj),w1.ownsRow w.heap.size 3 1 v' (k+1) (ivs (zs.take k)++[.int .i64 z])→((W.putObj (w.heap.size+1+1) (.loop (R .busy))).alloc tmp).grownBy w1 v.ownBlock→(w1.setCell ⟨w.heap.size,0,none⟩ v').heap[w.heap.size+1+1]?=some (.loop (R .busy))∧CI w w.heap.size (w.heap.size+1+1) (w.heap.size+1) (R .ready) zs (k+1) ((w1.setCell ⟨w.heap.size,0,none⟩ v').putObj (w.heap.size+1+1) (.loop (R .ready)))):=hfin
  obtain ⟨a8,c8,rfl⟩:∃a8 c8,v=.slice a8 k c8:=by
   rcases r2.2 with ⟨rfl,h9⟩|⟨g9,cap9,cur9,rfl,_⟩
   ·exact ⟨none,0,by rw [h9]⟩
   ·exact ⟨_,cap9,rfl⟩
  clear hC r1 r2 hfin hzz
  rw [←hR] at hl
  refine round_of hl rfl { tmps:=#[.slice none 0 0,.func (.func 106) #[] #[.pointer (some ⟨Bs,0,none⟩)],.pointer (some ⟨w.heap.size,0,none⟩),undef,.slice none 0 0,.int .i64 z,.func (.func 106) #[] #[.pointer (some ⟨Bs,0,none⟩)],.int .i64 z,undef,undef,undef,undef,undef],defers:=[] } ?assign ?body
  case assign =>
   intro K hK
   gi_wp2
   exact hK
  case body =>
   rw [hR]
   have c0:=hbx.cell
   have zb9:=hbx.lt
   generalize hWb:W.putObj (w.heap.size+1+1) (.loop (R .busy))=Wb at *
   clear hR hl h0 hWb
   have hrow2:=Qs hrow (Qb (o:=.cells #[.int .i64 z] 3) (Qc Wb))
   gi_wp2_with (gi_at_builtin;refine wpListIn_append_own_at _ rfl (.tmp 8) (.tmp 10) 22 rfl w.heap.size 3 iV (.int .i64 0) 1 8 Tryz.underlying22 HI.out.1 HI.out.2.1 HI.out.2.2.1 HI.out.2.2.2 rfl (by decide) (.slice a8 k c8) k (ivs (zs.take k)) rfl hrow2 ⟨Wb.heap.size,0,none⟩ 1 1 [.int .i64 z] rfl rfl (cell_oneV _ _ _) (by intro u hu;simp at hu;subst hu;rfl) (by unfold maxLen;omega) (by omega) (by simp;omega) ?grow)
   case grow =>
    intro v' w1 hown hgrow _ hblk
    have hf:=HF.out w1 v' _ hown hgrow
    obtain ⟨g9,c9,rfl⟩:=ownsRow_succ hown
    have hbx1:=(hbx.alloc _).kept hgrow (hbx.not_row (by decide) hrow)
    have c1:=hbx1.cell
    have f1:=hbx1.frozen
    have z1:=hbx1.lt
    clear hown hgrow hblk hbx hbx1 hrow hrow2 c0 zb9
    gi_wp2
 rintro e V ⟨⟨u,rfl⟩,hC⟩
 refine ⟨⟨u,rfl⟩,hC.l,?_⟩
 obtain ⟨v,r1,r2⟩:=hC.row
 rw [List.take_length] at r2
 have hbx:=r1.kept (grownBy_putObj' V (w.heap.size+1+1) (.loop (R .exhausted))) (by simpa using hdis.1)
 have hrow:=ownsRow_putObj r2 (.loop (R .exhausted)) hC.l rfl
 have hK:(V.putObj (w.heap.size+1+1) (.loop (R .exhausted))).heap[w.heap.size+1]?=some (.deferred (some [])):=(put_other hdis.2.1).trans hC.d
 have hB:Bl w (V.putObj (w.heap.size+1+1) (.loop (R .exhausted))):=hC.b.grown (grownBy_putObj' V _ _) hC.b.size (fun r e=>by cases e;exact hble.2)
 obtain ⟨a8,c8,rfl⟩:∃a8 c8,v=.slice a8 zs.length c8:=by
  rcases r2.2 with ⟨rfl,h9⟩|⟨g9,cap9,cur9,rfl,_⟩
  ·exact ⟨none,0,by rw [h9]⟩
  ·exact ⟨_,cap9,rfl⟩
 clear r1 r2 hC h0 hR
 generalize V.putObj (w.heap.size+1+1) (.loop (R .exhausted))=V1 at *
 have c0:=hbx.cell
 have zb9:=hbx.lt
 gi_wp2
 refine ⟨by simp,.inl ⟨_,_,rfl,run_takeDeferred hK,?_⟩⟩
 exact ⟨.slice a8 zs.length c8,by simp [results,Tryz.results138,go_sem],.slice a8 zs.length c8,rfl,ownsRow_putObj hrow _ hK rfl,hB.grown (grownBy_putObj' V1 _ _) hB.size (fun r e=>by cases e;omega)⟩
theorem GathI.slice {w w':World} {zs:List Int} {v:Value} (h:GathI w w' zs v):∃a q,v=.slice a zs.length q:=by
 rcases h.1.2 with ⟨rfl,h0⟩|⟨g,cap,cur,rfl,_⟩
 ·exact ⟨none,0,by rw [h0]⟩
 ·exact ⟨_,_,rfl⟩
theorem collectI_any (Bs c:Nat) (a:Option Addr) (zs:List Int) (hz:zs.length≤300) (w:World) (hd:w.cell? ⟨Bs,0,none⟩=some (.slice a zs.length c)) (hr:Row w a zs) :
  Calls Tryz.prog 104 #[.func (.func 106) #[] #[.pointer (some ⟨Bs,0,none⟩)]] w fun e w'=>∃v,e=.returned v∧GathI w w' zs v:=by
 have HA:Hid (Calls Tryz.prog 138 #[.slice none 0 0,.func (.func 106) #[] #[.pointer (some ⟨Bs,0,none⟩)]] w fun e w'=>∃v,e=.returned v∧GathI w w' zs v):=appendSeqI_any Bs c a zs hz w hd hr
 clear hd hr
 go_enter Tryz.func104,Tryz.ntmps104
 go_wp2_with (go_at_call 138;refine HA.out.mono ?_;rintro e w1 ⟨v,rfl,hg⟩;obtain ⟨a8,c8,rfl⟩:=hg.slice)
 have HG:Hid (GathI w w1 zs (.slice a8 zs.length c8)):=hg
 clear hg
 go_ret
 exact ⟨_,rfl,HG.out⟩
theorem valuesI_any (v:Value) (a:Option Addr) (n c:Nat) (hv:v=.slice a n c) (w:World):Calls Tryz.prog 71 #[v] w fun e w'=>e=.returned (.func (.func 106) #[] #[.pointer (some ⟨w.heap.size,0,none⟩)])∧w'=w.alloc (.cells #[v] 22):=by
 subst hv
 go_enter Tryz.func71,Tryz.ntmps71
 go_wp2
 go_ret
 exact ⟨rfl,rfl⟩
end Go.Proofs.YtgpjaecgkkgehaaGreatDoor
