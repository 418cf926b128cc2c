/- A part of the proof of stackLays_holds. -/
import Derived.Test.YtgpjaecgkkgehaaGreatDoorQlap
import Derived.Test.YtgpjaecgkkgehaaGreatDoorQlau
import Derived.Test.YtgpjaecgkkgehaaGreatDoorQlam
import Derived.Test.YtgpjaecgkkgehaaGreatDoorQlac
set_option maxRecDepth 100000
set_option maxHeartbeats 40000000
namespace Go.Proofs.YtgpjaecgkkgehaaGreatDoor
open Go.RowKit Go.ChangeMaps
def jE (i:Nat) (e:Int×Int×Int×Int) (G:List Int):List ((Int×Int×Int×Int)×Int):=(G.filter fun j=>decide (j≠(i:Int))).map fun j=>(e,j)
theorem jE_yes {i:Nat} {e:Int×Int×Int×Int} {G:List Int} {m:Nat} (hm:m<G.length) (h:G[m]≠(i:Int)):jE i e (G.take (m+1))=jE i e (G.take m)++[(e,G[m])]:=by
 unfold jE
 rw [List.take_succ_eq_append_getElem hm,List.filter_append,List.map_append]
 simp [h]
theorem jE_no {i:Nat} {e:Int×Int×Int×Int} {G:List Int} {m:Nat} (hm:m<G.length) (h:G[m]=(i:Int)):jE i e (G.take (m+1))=jE i e (G.take m):=by
 unfold jE
 rw [List.take_succ_eq_append_getElem hm,List.filter_append,List.map_append]
 simp [h]
theorem jE_len (i:Nat) (e:Int×Int×Int×Int) (G:List Int):(jE i e G).length≤G.length:=by
 unfold jE
 rw [List.length_map]
 exact List.length_filter_le _ _
def jl (L:List (Int×Int×Int)) (t:Int×Int×Int) (i n:Nat):List ((Int×Int×Int×Int)×Int):=(List.range n).flatMap fun k=>jE i (edg t k) (gix L (edg t k))
theorem jl_zero (L:List (Int×Int×Int)) (t:Int×Int×Int) (i:Nat):jl L t i 0=[]:=by simp [jl]
theorem jl_succ (L:List (Int×Int×Int)) (t:Int×Int×Int) (i n:Nat):jl L t i (n+1)=jl L t i n++jE i (edg t n) (gix L (edg t n)):=by simp [jl,List.range_succ,List.flatMap_append]
theorem jl_len (L:List (Int×Int×Int)) (t:Int×Int×Int) (i n:Nat):(jl L t i n).length≤n*L.length:=by
 induction n with
 | zero=>simp [jl]
 | succ n ih =>
  rw [jl_succ,List.length_append,Nat.succ_mul]
  have:=jE_len i (edg t n) (gix L (edg t n))
  have:=gix_len L (edg t n)
  omega
theorem jl_mem {L:List (Int×Int×Int)} {t:Int×Int×Int} {i n:Nat} {e:Int×Int×Int×Int} {j:Int}:(e,j)∈jl L t i n↔∃k,k<n∧e=edg t k∧∃m:Nat,∃h:m<L.length,j=(m:Int)∧m≠i∧hasT L[m] e=true:=by
 simp only [jl,jE,List.mem_flatMap,List.mem_range,List.mem_map,List.mem_filter,decide_eq_true_eq,gix_mem]
 constructor
 ·rintro ⟨k,hk,a,⟨⟨m,hm,rfl,ht⟩,hne⟩,he⟩
  simp only [Prod.mk.injEq] at he
  obtain ⟨rfl,rfl⟩:=he
  exact ⟨k,hk,rfl,m,hm,rfl,by omega,ht⟩
 ·rintro ⟨k,hk,rfl,m,hm,rfl,hne,ht⟩
  exact ⟨k,hk,(m:Int),⟨⟨m,hm,rfl,ht⟩,by omega⟩,rfl⟩
def flatJ (l:List ((Int×Int×Int×Int)×Int)):List Value:=l.flatMap fun t=>[.int .i64 t.1.1,.int .i64 t.1.2.1,.int .i64 t.1.2.2.1,.int .i64 t.1.2.2.2,.int .i64 t.2]
theorem flatJ_add (l m:List ((Int×Int×Int×Int)×Int)):flatJ (l++m)=flatJ l++flatJ m:=by simp [flatJ,List.flatMap_append]
theorem flatJ_at:∀(l:List ((Int×Int×Int×Int)×Int)) (i:Nat) (h:i<l.length),(flatJ l)[i*5]?=some (.int .i64 l[i].1.1)∧(flatJ l)[i*5+1]?=some (.int .i64 l[i].1.2.1)∧(flatJ l)[i*5+2]?=some (.int .i64 l[i].1.2.2.1)∧(flatJ l)[i*5+3]?=some (.int .i64 l[i].1.2.2.2)∧(flatJ l)[i*5+4]?=some (.int .i64 l[i].2)
 | [],i,h=>by simp at h
 | t :: l,0,h=>by simp [flatJ]
 | t :: l,i+1,h=>by
  have ih:=flatJ_at l i (by simpa using h)
  have e:flatJ (t :: l)=[Value.int .i64 t.1.1,.int .i64 t.1.2.1,.int .i64 t.1.2.2.1,.int .i64 t.1.2.2.2,.int .i64 t.2]++flatJ l:=by simp [flatJ]
  have q:∀o,(flatJ (t :: l))[(i+1)*5+o]?=(flatJ l)[i*5+o]?:=fun o=>by
   rw [e,List.getElem?_append_right (by simp;omega)]
   congr 1
   simp
   omega
  have q0:=q 0
  simp only [Nat.add_zero] at q0
  simp only [List.getElem_cons_succ]
  rw [q0,q 1,q 2,q 3,q 4]
  exact ih
def JRow (w:World) (a:Option Addr) (l:List ((Int×Int×Int×Int)×Int)):Prop := ∀i (h:i<l.length),∃g,a=some ⟨g,0,none⟩∧w.cell? ⟨g,i*5,none⟩=some (.int .i64 l[i].1.1)∧w.cell? ⟨g,i*5+1,none⟩=some (.int .i64 l[i].1.2.1)∧w.cell? ⟨g,i*5+2,none⟩=some (.int .i64 l[i].1.2.2.1)∧w.cell? ⟨g,i*5+3,none⟩=some (.int .i64 l[i].1.2.2.2)∧w.cell? ⟨g,i*5+4,none⟩=some (.int .i64 l[i].2)
theorem own_joints {w:World} {base:Nat} {v:Value} {l:List ((Int×Int×Int×Int)×Int)} (h:w.ownsRow base 109 5 v l.length (flatJ l)):∃a cap,v=.slice a l.length cap∧JRow w a l:=by
 rcases h.2 with ⟨rfl,h0⟩|⟨g,cap,cur,rfl,_⟩
 ·exact ⟨none,0,by rw [h0],fun i hi=>by omega⟩
 ·refine ⟨some ⟨g,0,none⟩,cap,rfl,fun i hi=>⟨g,rfl,?_⟩⟩
  have f:=flatJ_at l i hi
  exact ⟨(h.cellAt _ (by omega)).trans f.1,(h.cellAt _ (by omega)).trans f.2.1,(h.cellAt _ (by omega)).trans f.2.2.1,(h.cellAt _ (by omega)).trans f.2.2.2.1,(h.cellAt _ (by omega)).trans f.2.2.2.2⟩
def JW (w:World) (base:Nat) (a:Option Addr) (l:List ((Int×Int×Int×Int)×Int)):Prop:=JRow w a l∧∀g,a=some ⟨g,0,none⟩→base≤g∧∃cur,w.heap[g]?=some (.cells cur 109)
theorem own_jw {w:World} {base:Nat} {v:Value} {l:List ((Int×Int×Int×Int)×Int)} (h:w.ownsRow base 109 5 v l.length (flatJ l)):∃a cap,v=.slice a l.length cap∧JW w base a l:=by
 obtain ⟨a,cap,e,hr⟩:=own_joints h
 refine ⟨a,cap,e,hr,fun g hg=>?_⟩
 subst e hg
 rcases h.2 with ⟨e1,_⟩|⟨b,cap',cur,e1,hb,hc,_⟩
 ·simp at e1
 ·simp only [Value.slice.injEq,Option.some.injEq,Addr.mk.injEq] at e1
  obtain ⟨⟨rfl,_⟩,_⟩:=e1
  exact ⟨hb,cur,hc⟩
theorem JW.grown {w w':World} {base:Nat} {a:Option Addr} {l:List ((Int×Int×Int×Int)×Int)} {row:Option Nat} (h:JW w base a l) (hg:w.grownBy w' row) (hne:∀g,row=some g→a≠some ⟨g,0,none⟩):JW w' base a l:=by
 refine ⟨fun i hi=>?_,fun g he=>?_⟩
 ·obtain ⟨g,e,h0,h1,h2,h3,h4⟩:=h.1 i hi
  have hn:some g≠row:=fun e1=>hne g e1.symm e
  exact ⟨g,e,hg.cell h0 hn,hg.cell h1 hn,hg.cell h2 hn,hg.cell h3 hn,hg.cell h4 hn⟩
 ·obtain ⟨h1,cur,h2⟩:=h.2 g he
  exact ⟨h1,cur,(hg.block g (Array.getElem?_eq_some_iff.1 h2).1 (fun e1=>hne g e1.symm he)).trans h2⟩
theorem JW.kept {w w':World} {base:Nat} {a:Option Addr} {l:List ((Int×Int×Int×Int)×Int)} (h:JW w base a l) (hb:Bl w w'):JW w' base a l:=h.grown (Qw hb) (by simp)
theorem JW.mono {w:World} {base base':Nat} {a:Option Addr} {l:List ((Int×Int×Int×Int)×Int)} (h:JW w base a l) (hb:base'≤base):JW w base' a l:=⟨h.1,fun g he=>⟨Nat.le_trans hb (h.2 g he).1,(h.2 g he).2⟩⟩
theorem JW.not_row {w:World} {base b2 n:Nat} {a:Option Addr} {l:List ((Int×Int×Int×Int)×Int)} {v:Value} {xs:List Value} (h:JW w base a l) (ho:w.ownsRow b2 3 1 v n xs):∀g,v.ownBlock=some g→a≠some ⟨g,0,none⟩:=fun g hg ha=>by
 obtain ⟨_,cur,h2⟩:=h.2 g ha
 rcases ho.2 with ⟨rfl,_⟩|⟨b,cap,cur',rfl,_,hgb,_⟩
 ·simp [Value.ownBlock] at hg
 ·obtain rfl:b=g:=by simpa [Value.ownBlock] using hg
  rw [h2] at hgb
  simp at hgb
def EB (w:World) (B:Nat) (p q r s:Int):Prop:=w.heap[B]?=some (.cells #[.int .i64 p,.int .i64 q,.int .i64 r,.int .i64 s] 81)
theorem EB.cells {w:World} {B:Nat} {p q r s:Int} (h:EB w B p q r s):w.cell? ⟨B,0,none⟩=some (.int .i64 p)∧w.cell? ⟨B,1,none⟩=some (.int .i64 q)∧w.cell? ⟨B,2,none⟩=some (.int .i64 r)∧w.cell? ⟨B,3,none⟩=some (.int .i64 s):=by
 unfold EB at h
 simp [World.cell?,h]
theorem EB.lt {w:World} {B:Nat} {p q r s:Int} (h:EB w B p q r s):B<w.heap.size:=(Array.getElem?_eq_some_iff.1 h).1
theorem EB.grown {w w':World} {B:Nat} {p q r s:Int} {row:Option Nat} (h:EB w B p q r s) (hg:w.grownBy w' row) (hne:some B≠row):EB w' B p q r s:=(hg.block B h.lt hne).trans h
theorem EB.kept {w w':World} {B:Nat} {p q r s:Int} (h:EB w B p q r s) (hb:Bl w w'):EB w' B p q r s:=h.grown (Qw hb) (by simp)
theorem EB.not_row {w:World} {B base n:Nat} {p q r s:Int} {v:Value} {xs:List Value} (h:EB w B p q r s) (ho:w.ownsRow base 109 5 v n xs):some B≠v.ownBlock:=by
 rcases ho.2 with ⟨rfl,_⟩|⟨g,cap,cur,rfl,_,hgb,_⟩
 ·simp [Value.ownBlock]
 ·intro e
  obtain rfl:B=g:=by simpa [Value.ownBlock] using e
  unfold EB at h
  rw [h] at hgb
  simp at hgb
def PB (w:World) (B:Nat) (ad:Option Addr) (n cc ra rk:Nat):Prop:=w.cell? ⟨B,0,none⟩=some (.slice ad n cc)∧w.cell? ⟨B,1,none⟩=some (.map (some ra))∧w.cell? ⟨B,2,none⟩=some (.map (some rk))
theorem PB.kept {w w':World} {B n cc ra rk:Nat} {ad:Option Addr} (h:PB w B ad n cc ra rk) (hb:Bl w w'):PB w' B ad n cc ra rk:=⟨Qa hb h.1,Qa hb h.2.1,Qa hb h.2.2⟩
def JM (w wx:World) (ad:Option Addr) (n cc ra rk:Nat) (J:List ((Int×Int×Int×Int)×Int)) (v:Value):Prop :=
 wx.ownsRow (w.heap.size+1) 109 5 v J.length (flatJ J)∧Bl w wx∧PB wx w.heap.size ad n cc ra rk∧w.heap.size+1≤wx.heap.size
theorem JM.kept {w wx w':World} {ad:Option Addr} {n cc ra rk:Nat} {J:List ((Int×Int×Int×Int)×Int)} {v:Value} (h:JM w wx ad n cc ra rk J v) (hb:Bl wx w'):JM w w' ad n cc ra rk J v :=
 ⟨Qs h.1 hb,Qe h.2.1 hb,h.2.2.1.kept hb,Nat.le_trans h.2.2.2 hb.size⟩
theorem JM.more {w wx w2 w3:World} {ad:Option Addr} {n cc ra rk:Nat} {J:List ((Int×Int×Int×Int)×Int)} {v v':Value} {e:Int×Int×Int×Int} {j:Int} (h:JM w wx ad n cc ra rk J v) (hb:Bl wx w2) (hg:w2.grownBy w3 v.ownBlock) (hown:w3.ownsRow (w.heap.size+1) 109 5 v' (J.length+1) (flatJ J++[.int .i64 e.1,.int .i64 e.2.1,.int .i64 e.2.2.1,.int .i64 e.2.2.2,.int .i64 j])):JM w w3 ad n cc ra rk (J++[(e,j)]) v':=by
 have h':=h.kept hb
 have hgb:=Below.grown (Below.refl (w.heap.size+1) w2) hg h'.2.2.2 (Q7 h'.1)
 have q:=hgb.size
 refine ⟨?_,h'.2.1.trans (hgb.mono (by omega)),⟨?_,?_,?_⟩,by have:=h'.2.2.2;omega⟩
 ·rw [flatJ_add,List.length_append]
  simpa [flatJ] using hown
 ·exact (hgb.cell (p:=⟨w.heap.size,0,none⟩) (by dsimp only;omega)).trans h'.2.2.1.1
 ·exact (hgb.cell (p:=⟨w.heap.size,1,none⟩) (by dsimp only;omega)).trans h'.2.2.1.2.1
 ·exact (hgb.cell (p:=⟨w.heap.size,2,none⟩) (by dsimp only;omega)).trans h'.2.2.1.2.2
theorem infJ:(Tryz.prog.info? 109).map (fun i=>(i.zero,i.size,i.bytes))=some (some (.agg #[.int .i64 0,.int .i64 0,.int .i64 0,.int .i64 0,.int .i64 0]),5,40):=by kernel_rfl
theorem cell_five_new (w:World) (T:TypeId) (a b c d e:Int):∀j u,([Value.int .i64 a,.int .i64 b,.int .i64 c,.int .i64 d,.int .i64 e])[j]?=some u→(w.alloc (.cells #[.int .i64 a,.int .i64 b,.int .i64 c,.int .i64 d,.int .i64 e] T)).cell? ((⟨w.heap.size,0,none⟩:Addr).add j)=some u:=by
 intro j u hu
 match j,hu with
 | 0,hu=>simp at hu;subst hu;simp [go_sem,Addr.add]
 | 1,hu=>simp at hu;subst hu;simp [go_sem,Addr.add]
 | 2,hu=>simp at hu;subst hu;simp [go_sem,Addr.add]
 | 3,hu=>simp at hu;subst hu;simp [go_sem,Addr.add]
 | 4,hu=>simp at hu;subst hu;simp [go_sem,Addr.add]
theorem Xv (w:World) (cc ra rk i:Nat) (ad:Option Addr) (L:List (Int×Int×Int)) (x y k:Int) (hs:Steps w) (hPA:PA w ad ra L) (hi:i<L.length) (ht:(x,y,k)=L[i]) (hL:L.length≤300) (hbd:(0≤x∧x≤8)∧(0≤y∧y≤8)∧(0≤k∧k≤3)) :
  Calls Tryz.prog 122 #[.agg #[.slice ad L.length cc,.map (some ra),.map (some rk)],.int .i64 (i:Int)] w fun e w'=>∃v,e=.returned v∧w'.ownsRow (w.heap.size+1) 109 5 v (jl L (x,y,k) i 3).length (flatJ (jl L (x,y,k) i 3))∧Bl w w':=by
 have HST:Hid (Steps w):=hs
 have HPA:Hid (PA w ad ra L):=hPA
 obtain ⟨i5,hi5,hz0,hz1,hz2⟩:=info_parts infJ
 have HI:Hid (Tryz.prog.info? 109=some i5∧i5.zero=some (.agg #[.int .i64 0,.int .i64 0,.int .i64 0,.int .i64 0,.int .i64 0])∧i5.size=5∧i5.bytes=40):=⟨hi5,hz0,hz1,hz2⟩
 obtain ⟨tg,rfl,t0,t1,t2⟩:=hPA.1 i hi
 rw [←ht] at t0 t1 t2
 dsimp only at t0 t1 t2
 have zt:tg<w.heap.size:=bk t0
 have htri:triB x y k=true:=by simp [triB];omega
 have HTRI:Hid (triB x y k=true):=htri
 have j1:(i:Int)<(L.length:Int):=by omega
 have j0:(0:Int)≤(i:Int):=by omega
 clear hs hPA hi5 hz0 hz1 hz2 htri hbd ht
 go_enter Tryz.func122,Tryz.ntmps122
 go_wp2_with (go_at_call 152;refine (paperEdges_any _ _ _ _ HTRI.out (HST.out.kept (by with_reducible exact Qb (Qc _)))).mono ?_;rintro e wq ⟨rfl,hb⟩;have hJ0:JM w wq (some ⟨tg,0,none⟩) L.length cc ra rk [] (.slice none 0 0):=⟨by simpa [flatJ] using World.ownsRow_nil _ _ _ _,Qe (Qb (Qc _)) hb,PB.kept (by simp [PB,go_sem]) hb,by have:=hb.size;simp at this;omega⟩;have HQ:Hid (JM w wq (some ⟨tg,0,none⟩) L.length cc ra rk [] (.slice none 0 0)):=hJ0;clear hb hJ0 t0 t1 t2 zt)
 go_loopg [5,16] 3 (fun gk s5 s16 wx=>∃e:Nat,e≤3∧gk=3-e∧s16=.int .i64 (e:Int)∧JM w wx (some ⟨tg,0,none⟩) L.length cc ra rk (jl L (x,y,k) i e) s5)
 case atStart=>exact ⟨0,by omega,rfl,rfl,by rw [jl_zero];exact HQ.out⟩
 case round =>
  clear HQ
  obtain ⟨e,he,rfl,rfl,hM⟩:=hrel
  obtain ⟨vA,hvA⟩:∃u,u=u5:=⟨_,rfl⟩
  subst hvA
  have HM:Hid (JM w wr (some ⟨tg,0,none⟩) L.length cc ra rk (jl L (x,y,k) i e) vA):=hM
  obtain ⟨p0,p1,p2⟩:=hM.2.2.1
  have zp:w.heap.size<wr.heap.size:=bk p0
  have zp1:w.heap.size<wr.heap.size+1:=by omega
  clear hM
  by_cases he1:e<3
  ·have ie:(e:Int)<3:=by omega
   obtain ⟨q0,q1,q2,q3,hq⟩:∃q0 q1 q2 q3,edg (x,y,k) e=(q0,q1,q2,q3):=⟨_,_,_,_,rfl⟩
   have hx:(Instr.index 216 (.agg #[.int .i64 (ue0 x y k),.int .i64 (ue1 x y k),.int .i64 (ue2 x y k),.int .i64 (ue3 x y k),.int .i64 (ue4 x y k),.int .i64 (ue5 x y k),.int .i64 (ue6 x y k),.int .i64 (ue7 x y k),.int .i64 (ue8 x y k),.int .i64 (ue9 x y k),.int .i64 (ue10 x y k),.int .i64 (ue11 x y k)]) (.int .i64 (e:Int))).run Tryz.prog wr=.ok (.agg #[.int .i64 q0,.int .i64 q1,.int .i64 q2,.int .i64 q3]) wr:=by
    obtain ⟨a0,a1,a2⟩:=idx32 (ue0 x y k) (ue1 x y k) (ue2 x y k) (ue3 x y k) (ue4 x y k) (ue5 x y k) (ue6 x y k) (ue7 x y k) (ue8 x y k) (ue9 x y k) (ue10 x y k) (ue11 x y k) wr
    have h3:e=0∨e=1∨e=2:=by omega
    rcases h3 with rfl|rfl|rfl
    ·simp only [edg,if_true,Prod.mk.injEq] at hq
     obtain ⟨rfl,rfl,rfl,rfl⟩:=hq
     exact a0
    ·simp only [edg,if_true,if_false,Nat.one_ne_zero,Prod.mk.injEq] at hq
     obtain ⟨rfl,rfl,rfl,rfl⟩:=hq
     exact a1
    ·simp only [edg,if_false,show ¬(2:Nat)=0 by omega,show ¬(2:Nat)=1 by omega,Prod.mk.injEq] at hq
     obtain ⟨rfl,rfl,rfl,rfl⟩:=hq
     exact a2
   have HQ:Hid (edg (x,y,k) e=(q0,q1,q2,q3)):=hq
   clear hq
   obtain ⟨ga,gc,hgr,hlook⟩:=HPA.out.2 (q0,q1,q2,q3)
   have HGR:Hid (Row w ga (gix L (q0,q1,q2,q3))):=hgr
   have HEB:Hid (EB (wr.alloc (.cells #[.int .i64 q0,.int .i64 q1,.int .i64 q2,.int .i64 q3] 81)) wr.heap.size q0 q1 q2 q3):=by
    have:EB (wr.alloc (.cells #[.int .i64 q0,.int .i64 q1,.int .i64 q2,.int .i64 q3] 81)) wr.heap.size q0 q1 q2 q3:=heap_alloc_new wr _
    exact this
   have lk5:(Instr.lookup 65 (.map (some ra)) (.agg #[.int .i64 q0,.int .i64 q1,.int .i64 q2,.int .i64 q3]) false).run Tryz.prog (wr.alloc (.cells #[.int .i64 q0,.int .i64 q1,.int .i64 q2,.int .i64 q3] 81))=.ok (.slice ga (gix L (q0,q1,q2,q3)).length gc) (wr.alloc (.cells #[.int .i64 q0,.int .i64 q1,.int .i64 q2,.int .i64 q3] 81)):=hlook _ (Qb HM.out.2.1)
   have HM2:Hid (JM w (wr.alloc (.cells #[.int .i64 q0,.int .i64 q1,.int .i64 q2,.int .i64 q3] 81)) (some ⟨tg,0,none⟩) L.length cc ra rk (jl L (x,y,k) i e) vA):=HM.out.kept (Qb (Qc _))
   obtain ⟨eb,heb⟩:∃b,b=wr.heap.size:=⟨_,rfl⟩
   clear hgr hlook
   go_wp2
   obtain ⟨G,hG⟩:∃G,G=gix L (q0,q1,q2,q3):=⟨_,rfl⟩
   have HG:Hid (G=gix L (q0,q1,q2,q3)):=hG
   rw [←hG] at HGR
   have hGl:G.length≤300:=by rw [hG];exact Nat.le_trans (gix_len _ _) hL
   rw [←hG]
   rw [←heb] at HEB ⊢
   clear hG lk5 hx heb
   go_loopg [5,24] G.length (fun gk s5 s24 wx=>∃m:Nat,m≤G.length∧gk=G.length-m∧s24=.int .i64 (m:Int)∧JM w wx (some ⟨tg,0,none⟩) L.length cc ra rk (jl L (x,y,k) i e++jE i (q0,q1,q2,q3) (G.take m)) s5∧EB wx eb q0 q1 q2 q3)
   case atStart=>exact ⟨0,by omega,rfl,rfl,by simpa [jE] using HM2.out,HEB.out⟩
   case round =>
    clear HM HM2 HEB p0 p1 p2 zp zp1
    obtain ⟨m,hm,rfl,rfl,hM,hE⟩:=hrel
    obtain ⟨vB,hvB⟩:∃u,u=u5:=⟨_,rfl⟩
    subst hvB
    have HM:Hid (JM w wr (some ⟨tg,0,none⟩) L.length cc ra rk (jl L (x,y,k) i e++jE i (q0,q1,q2,q3) (G.take m)) vB):=hM
    have HE:Hid (EB wr eb q0 q1 q2 q3):=hE
    obtain ⟨d0,d1,d2,d3⟩:=hE.cells
    have zd:eb<wr.heap.size:=hE.lt
    clear hM hE
    by_cases hm1:m<G.length
    ·have im:(m:Int)<(G.length:Int):=by omega
     have im0:(0:Int)≤(m:Int):=by omega
     obtain ⟨gb,go,rfl,gcell⟩:=(HGR.out.kept HM.out.2.1) m hm1
     have zgb:gb<wr.heap.size:=bk gcell
     obtain ⟨j,hj⟩:∃j,j=G[m]:=⟨_,rfl⟩
     rw [←hj] at gcell
     have HJ:Hid (j=G[m]):=hj
     clear hj
     by_cases hne:j=(i:Int)
     ·subst hne
      go_wp2
      go_roundg (G.length-(m+1))
      case measure=>omega
      case rel=>exact ⟨m+1,by omega,rfl,by go_num,by rw [jE_no hm1 HJ.out.symm];exact HM.out,HE.out⟩
     ·have hlen:(jl L (x,y,k) i e++jE i (q0,q1,q2,q3) (G.take m)).length+1≤2000:=by
       have a1:=jl_len L (x,y,k) i e
       have a2:=jE_len i (q0,q1,q2,q3) (G.take m)
       have a3:e*L.length≤3*300:=Nat.mul_le_mul he hL
       rw [List.length_append]
       simp only [List.length_take] at a2
       omega
      go_wp2_with (at_builtin;refine wpList_append_own _ rfl (.tmp 31) (.tmp 35) 185 rfl (w.heap.size+1) 109 i5 (.agg #[.int .i64 0,.int .i64 0,.int .i64 0,.int .i64 0,.int .i64 0]) 5 40 Tryz.underlying185 HI.out.1 HI.out.2.1 HI.out.2.2.1 HI.out.2.2.2 rfl (by decide) vB (jl L (x,y,k) i e++jE i (q0,q1,q2,q3) (G.take m)).length (flatJ (jl L (x,y,k) i e++jE i (q0,q1,q2,q3) (G.take m))) rfl ?own ⟨wr.heap.size,0,none⟩ 1 1 [.int .i64 q0,.int .i64 q1,.int .i64 q2,.int .i64 q3,.int .i64 j] rfl rfl ?c1 ?c2 ?b1 ?b2 ?b3 ?grow)
      case own=>exact Qs HM.out.1 (Qb (Qc _))
      case c1=>exact cell_five_new _ _ _ _ _ _ _
      case c2 =>
       intro u hu
       simp at hu
       rcases hu with rfl|rfl|rfl|rfl|rfl<;>rfl
      case b1 =>
       unfold maxLen
       omega
      case b2=>omega
      case b3 =>
       have:=HM.out.2.2.2
       simp
       omega
      case grow =>
       intro v' w3 hown hgrow hnil
       rw [←List.length_append] at hown
       have HM3:Hid (JM w w3 (some ⟨tg,0,none⟩) L.length cc ra rk (jl L (x,y,k) i e++jE i (q0,q1,q2,q3) (G.take (m+1))) v'):=by
        have h1:=HM.out.more (e:=(q0,q1,q2,q3)) (j:=j) (Qb (Qc _)) hgrow hown
        rw [jE_yes hm1 (by rw [←HJ.out];exact hne),←HJ.out,←List.append_assoc]
        exact h1
       have HE3:Hid (EB w3 eb q0 q1 q2 q3):=by
        have h1:EB w3 eb q0 q1 q2 q3:=(HE.out.kept (Qb (Qc _))).grown hgrow (HE.out.not_row HM.out.1)
        exact h1
       clear hown hgrow hnil
       go_wp2
       go_roundg (G.length-(m+1))
       case measure=>omega
       case rel=>exact ⟨m+1,by omega,rfl,by go_num,HM3.out,HE3.out⟩
    ·have im:¬(m:Int)<(G.length:Int):=by omega
     obtain rfl:m=G.length:=by omega
     go_wp2
     go_roundg (3-(e+1))
     case measure=>omega
     case rel =>
      refine ⟨e+1,by omega,rfl,by go_num,?_⟩
      have h1:=HM.out
      rw [List.take_length,HG.out] at h1
      rw [jl_succ,HQ.out]
      exact h1
  ·have ie:¬(e:Int)<3:=by omega
   obtain rfl:e=3:=by omega
   go_wp2
   go_ret
   exact ⟨vA,rfl,HM.out.1,HM.out.2.1⟩
def rowN (R:List Nat):List Value:=R.map fun (i:Nat)=>Value.int .i64 (i:Int)
def SpM (wE wx w:World) (g:Nat) (ad:Option Addr) (cc ra rk:Nat) (L:List (Int×Int×Int)) (part:Nat→Int) (num:Int) (R:List Nat) (v:Value):Prop :=
 ZRow wx g L.length (lab part num R)∧wx.ownsRow (w.heap.size+1) 3 1 v R.length (rowN R)∧Bl wE wx∧(wx.cell? ⟨w.heap.size,0,none⟩=some (.slice ad L.length cc)∧wx.cell? ⟨w.heap.size,1,none⟩=some (.map (some ra))∧wx.cell? ⟨w.heap.size,2,none⟩=some (.map (some rk)))∧w.heap.size+1≤wx.heap.size
theorem SpM.kept {wE wx w w':World} {g cc ra rk:Nat} {ad:Option Addr} {L:List (Int×Int×Int)} {part:Nat→Int} {num:Int} {R:List Nat} {v:Value} (h:SpM wE wx w g ad cc ra rk L part num R v) (hb:Bl wx w'):SpM wE w' w g ad cc ra rk L part num R v :=
 ⟨h.1.kept hb,Qs h.2.1 hb,Qe h.2.2.1 hb,⟨Qa hb h.2.2.2.1.1,Qa hb h.2.2.2.1.2.1,Qa hb h.2.2.2.1.2.2⟩,Nat.le_trans h.2.2.2.2 hb.size⟩
theorem rowN_at (R:List Nat) (i:Nat) (h:i<R.length):(rowN R)[i]?=some (.int .i64 ((R[i]:Nat):Int)):=by simp [rowN,h]
theorem SpM.slice {wE wx w:World} {g cc ra rk:Nat} {ad:Option Addr} {L:List (Int×Int×Int)} {part:Nat→Int} {num:Int} {R:List Nat} {v:Value} (h:SpM wE wx w g ad cc ra rk L part num R v) (hn:0<R.length):∃b cap,v=.slice (some ⟨b,0,none⟩) R.length cap∧w.heap.size+1≤b∧∀i (hi:i<R.length),wx.cell? ⟨b,i,none⟩=some (.int .i64 ((R[i]:Nat):Int)):=by
 rcases h.2.1.2 with ⟨_,h0⟩|⟨b,cap,cur,hv,h2,h3⟩
 ·omega
 ·refine ⟨b,cap,hv,h2,fun i hi=>?_⟩
  subst hv
  have:=h.2.1.cellAt i (by omega)
  rw [this,rowN_at R i hi]
theorem SpM.more {wE wx w w2 w3:World} {g cc ra rk j:Nat} {ad:Option Addr} {L:List (Int×Int×Int)} {part:Nat→Int} {num:Int} {R:List Nat} {v v':Value} (h:SpM wE wx w g ad cc ra rk L part num R v) (hgw:g<w.heap.size) (hgE:wE.heap.size≤g) (hj:j<L.length)
  (hb:Below (wx.setCell ⟨g,j,none⟩ (.int .i64 num)).heap.size (wx.setCell ⟨g,j,none⟩ (.int .i64 num)) w2) (hg:w2.grownBy w3 v.ownBlock) (hown:w3.ownsRow (w.heap.size+1) 3 1 v' (R.length+1) (rowN R++[.int .i64 (j:Int)])) :
  SpM wE w3 w g ad cc ra rk L part num (R++[j]) v':=by
 obtain ⟨h1,h2,h3,⟨p0,p1,p2⟩,h5⟩:=h
 have hrow:∀k,v.ownBlock=some k→w.heap.size+1≤k:=fun k hk=>(h2.lt k hk).1
 have hgv:some g≠v.ownBlock:=fun e=>by
  have:=hrow g e.symm
  omega
 have hbv:some w.heap.size≠v.ownBlock:=fun e=>by
  have:=hrow _ e.symm
  omega
 have z1:=((h1.set num hj).kept hb).grown hg hgv
 have q:∀{o:Nat} {u:Value},wx.cell? ⟨w.heap.size,o,none⟩=some u→w3.cell? ⟨w.heap.size,o,none⟩=some u:=fun {o u} hu=>by
  refine hg.cell (Qa hb ?_) hbv
  rw [World.cell?_setCell_other _ _ _ _ (by simp<;>omega)]
  exact hu
 refine ⟨?_,?_,?_,⟨q p0,q p1,q p2⟩,?_⟩
 ·rw [lab_found]
  exact z1
 ·rw [List.length_append,List.length_singleton]
  have:rowN (R++[j])=rowN R++[.int .i64 (j:Int)]:=by simp [rowN]
  rw [this]
  exact hown
 ·have k1:Bl wE (wx.setCell ⟨g,j,none⟩ (.int .i64 num)):=h3.setCell hgE _
  have k2:=k1.trans (hb.mono k1.size)
  have:=h3.size
  exact k2.grown hg k2.size (fun k hk=>by
   have:=hrow k hk
   have:=bk p0
   omega)
 ·have q1:=hb.size
  have q2:=hg.size
  rw [World.size_setCell] at q1
  omega
theorem owns_one (w:World) (base:Nat) (v:Value) (h:base≤w.heap.size):(w.alloc (.cells #[v] 3)).ownsRow base 3 1 (.slice (some ⟨w.heap.size,0,none⟩) 1 1) 1 [v] :=
 ⟨by simp,.inr ⟨w.heap.size,1,#[v],rfl,h,heap_alloc_new w _,Nat.le_refl _,by unfold maxLen;omega,by simp,by simp⟩⟩
theorem DoneT.joints {cr:Int×Int×Int×Int→Bool} {L:List (Int×Int×Int)} {part:Nat→Int} {R:List Nat} {t:Int×Int×Int} {i:Nat} (hi:i∈R) (h:∀m (hm:m<(jl L t i 3).length),∀j:Nat,(jl L t i 3)[m].2=(j:Int)→cr (jl L t i 3)[m].1=true→j∈R∨0≤part j):DoneT cr L part R t 3:=fun k hk hc j hj ht=>by
 by_cases e:j=i
 ·subst e
  exact Or.inl hi
 ·have hm:(edg t k,(j:Int))∈jl L t i 3:=jl_mem.2 ⟨k,hk,rfl,j,hj,rfl,e,ht⟩
  obtain ⟨m,hm,e1⟩:=List.getElem_of_mem hm
  exact h m hm j (by rw [e1]) (by rw [e1];exact hc)
theorem spread_all (wE w:World) (g cc ra rk f:Nat) (ad:Option Addr) (L:List (Int×Int×Int)) (part:Nat→Int) (num:Int) (cr:Int×Int×Int×Int→Bool) (hs:Steps wE) (hPA:PA wE ad ra L) (hB:Bl wE w) (hgE:wE.heap.size≤g) (hZ:ZRow w g L.length part) (hf:f<L.length) (hp:part f<0) (hnum:0≤num∧num≤1000) (hL:L.length≤300) (hnd:L.Nodup) (hbd:∀t∈L,(0≤t.1∧t.1≤8)∧(0≤t.2.1∧t.2.1≤8)∧(0≤t.2.2∧t.2.2≤3))
  (hCL:∀(nr q0 q1 q2 q3 qt:Int) (W':World),Bl wE W'→Calls Tryz.prog 131 #[.int .i64 nr,.agg #[.int .i64 q0,.int .i64 q1,.int .i64 q2,.int .i64 q3,.int .i64 qt]] W' fun e w'=>e=.returned (.bool (cr (q0,q1,q2,q3)))∧Bl W' w') :
  Calls Tryz.prog 86 #[.agg #[.slice ad L.length cc,.map (some ra),.map (some rk)],.slice (some ⟨g,0,none⟩) L.length L.length,.int .i64 (f:Int),.int .i64 num,.func (.func 131) #[] #[]] w fun e w'=>e=.returned (.tuple #[])∧∃R,Sp cr L part f R∧ZRow w' g L.length (lab part num R)∧(∀i∈R,∀h:i<L.length,DoneT cr L part R L[i] 3)∧Bl wE w':=by
 have HCL:Hid (∀(nr q0 q1 q2 q3 qt:Int) (W':World),Bl wE W'→Calls Tryz.prog 131 #[.int .i64 nr,.agg #[.int .i64 q0,.int .i64 q1,.int .i64 q2,.int .i64 q3,.int .i64 qt]] W' fun e w'=>e=.returned (.bool (cr (q0,q1,q2,q3)))∧Bl W' w'):=hCL
 have HJN:Hid (∀(W':World) (i:Nat) (hi:i<L.length),Bl wE W'→Calls Tryz.prog 122 #[.agg #[.slice ad L.length cc,.map (some ra),.map (some rk)],.int .i64 (i:Int)] W' fun e w'=>∃v,e=.returned v∧w'.ownsRow (W'.heap.size+1) 109 5 v (jl L L[i] i 3).length (flatJ (jl L L[i] i 3))∧Bl W' w'):=fun W' i hi hW'=>Xv W' cc ra rk i ad L L[i].1 L[i].2.1 L[i].2.2 (hs.kept hW') (hPA.kept hW') hi rfl hL (hbd _ (List.getElem_mem hi))
 have HND:Hid (L.Nodup):=hnd
 obtain ⟨z0,zf⟩:=hZ f hf
 have hgw:g<w.heap.size:=bk z0
 have HZ:Hid (ZRow w g L.length part∧Bl wE w):=⟨hZ,hB⟩
 have HS0:Hid (Sp cr L part f [f]):=⟨by simp,by simp,fun i hi=>by
  simp at hi
  subst hi
  exact ⟨hf,hp,hf,.here (List.getElem_mem hf)⟩⟩
 obtain ⟨i3,hi3,hz30,hz31,hz32⟩:=info_parts inf3
 have HI:Hid (Tryz.prog.info? 3=some i3∧i3.zero=some (.int .i64 0)∧i3.size=1∧i3.bytes=8):=⟨hi3,hz30,hz31,hz32⟩
 obtain ⟨n0,n1⟩:=hnum
 have if1:(f:Int)<(L.length:Int):=by omega
 have if0:(0:Int)≤(f:Int):=by omega
 clear hs hPA hbd hnd hZ hB hi3 hz30 hz31 hz32 hp hCL
 go_enter Tryz.func86,Tryz.ntmps86
 go_wp2
 go_loopg [10,11] L.length (fun gk s10 s11 wx=>∃(n:Nat) (R:List Nat),n≤R.length∧L.length-n≤gk∧s11=.int .i64 (n:Int)∧Sp cr L part f R∧(∀m (hm:m<R.length),m<n→∀h:R[m]<L.length,DoneT cr L part R L[R[m]] 3)∧SpM wE wx w g ad cc ra rk L part num R s10)
 case atStart =>
  refine ⟨0,[f],by simp,by omega,rfl,HS0.out,fun m _ h=>by omega,?_⟩
  refine ⟨?_,?_,?_,⟨?_,?_,?_⟩,?_⟩
  ·have hz:=(HZ.out.1.set num hf).kept (Qb (o:=.cells #[.int .i64 (f:Int)] 3) (Qb (o:=.cells #[.slice ad L.length cc,.map (some ra),.map (some rk)] 68) (Qc _)))
   have e:lab part num [f]=fun j=>if j=f then num else part j:=by
    funext j
    simp [lab]
   rw [e]
   exact hz
  ·have:=owns_one ((w.setCell ⟨g,f,none⟩ (.int .i64 num)).alloc (.cells #[.slice ad L.length cc,.map (some ra),.map (some rk)] 68)) (w.heap.size+1) (.int .i64 (f:Int)) (by simp)
   simpa [rowN] using this
  ·have hb0:Bl wE (w.setCell ⟨g,f,none⟩ (.int .i64 num)):=HZ.out.2.setCell (p:=⟨g,f,none⟩) hgE _
   exact Qb (Qb hb0)
  ·simp [go_sem]
  ·simp [go_sem]
  ·simp [go_sem]
  ·simp
 case round =>
  clear HS0 HZ z0 zf
  obtain ⟨n,R,hn,hgk,rfl,hSp,hD,hM⟩:=hrel
  obtain ⟨vA,hvA⟩:∃u,u=u10:=⟨_,rfl⟩
  subst hvA
  have hRp:0<R.length:=List.length_pos_of_mem hSp.1
  obtain ⟨rb,rc,rfl,hrb,hrc⟩:=hM.slice hRp
  have hRL:=hSp.len
  have HSP:Hid (Sp cr L part f R∧∀m (hm:m<R.length),m<n→∀h:R[m]<L.length,DoneT cr L part R L[R[m]] 3):=⟨hSp,hD⟩
  have HM:Hid (SpM wE wr w g ad cc ra rk L part num R (.slice (some ⟨rb,0,none⟩) R.length rc)):=hM
  obtain ⟨p0,p1,p2⟩:=hM.2.2.2.1
  have zp:w.heap.size<wr.heap.size:=bk p0
  by_cases h1:n<R.length
  ·have rcn:=hrc n h1
   have zr:rb<wr.heap.size:=bk rcn
   have hRn:R[n]∈R:=List.getElem_mem h1
   obtain ⟨hi,_⟩:=hSp.2.2 R[n] hRn
   obtain ⟨i,hie⟩:∃i,i=R[n]:=⟨_,rfl⟩
   rw [←hie] at rcn hi
   have HIE:Hid (i=R[n]):=hie
   have HIR:Hid (i∈R):=by rw [hie];exact hRn
   clear hSp hD hM hrc hie hRn
   have i1:(n:Int)<(R.length:Int):=by omega
   have i0:(0:Int)≤(n:Int):=by omega
   obtain ⟨J,hJ⟩:∃J,J=jl L L[i] i 3:=⟨_,rfl⟩
   have hJl:J.length≤900:=by
    have:=jl_len L L[i] i 3
    rw [hJ]
    omega
   have CJ:Hid (∀W':World,Bl wr W'→Calls Tryz.prog 122 #[.agg #[.slice ad L.length cc,.map (some ra),.map (some rk)],.int .i64 (i:Int)] W' fun e w'=>∃v,e=.returned v∧w'.ownsRow (W'.heap.size+1) 109 5 v J.length (flatJ J)∧Bl W' w'):=fun W' hW'=>by
    rw [hJ]
    exact HJN.out W' i hi (Qe HM.out.2.2.1 hW')
   have HJ:Hid (J=jl L L[i] i 3):=hJ
   clear hJ
   go_wp2
   go_cut [31,32,33] (fun s31 s32 s33 wx=>∃ja jc,s31=.slice ja J.length jc∧s32=.int .i64 (J.length:Int)∧s33=.int .i64 0∧JW wx (w.heap.size+1) ja J∧Bl wr wx)
   case first =>
    go_region_held3 (fun w'=>w'.cell? ⟨w.heap.size,0,none⟩=some (.slice ad L.length cc)∧w'.cell? ⟨w.heap.size,1,none⟩=some (.map (some ra))∧w'.cell? ⟨w.heap.size,2,none⟩=some (.map (some rk))∧w'.cell? ⟨rb,n,none⟩=some (.int .i64 (i:Int)))
     ((refine ⟨?_,?_,?_,?_⟩<;>(first|(with_reducible (repeat (first|assumption|refine Qh ?_|refine Qi ?_));done)|(simp [go_sem];done))))
     ((go_at_call 122;refine (CJ.out _ (by with_reducible repeat (first|exact Qc _|refine Qf ?_))).mono ?_;rintro e w8 ⟨v8,rfl,hown,hb⟩;obtain ⟨ja,jc,rfl,hjr⟩:=own_jw hown;have hq8:Bl wr w8:=Qe (by with_reducible repeat (first|exact Qc _|refine Qf ?_)) hb;have HQ:Hid (JW w8 wr.heap.size ja J∧Bl wr w8):=⟨hjr.mono (by simp),hq8⟩;have p0_8:=Qa hq8 p0;have p1_8:=Qa hq8 p1;have p2_8:=Qa hq8 p2;have rc_8:=Qa hq8 rcn;clear hown hjr hb hq8))
    all_goals
     go_wp2
     go_meet
     case rel=>exact ⟨_,_,rfl,rfl,rfl,(HQ.out.1.mono (by omega)).kept (by with_reducible repeat (first|exact Qc _|refine Qf ?_)),by with_reducible repeat (first|exact HQ.out.2|refine Qf ?_)⟩
   case rest =>
    obtain ⟨ja,jc,rfl,rfl,rfl,hjr,hBc⟩:=hcut
    have HJR:Hid (JW wc (w.heap.size+1) ja J):=hjr
    have HWC:Hid (Bl wc wc):=Qc _
    have HMQ:Hid (SpM wE wc w g ad cc ra rk L part num R (.slice (some ⟨rb,0,none⟩) R.length rc)):=HM.out.kept hBc
    obtain ⟨WC,hWC⟩:∃W,W=wc:=⟨_,rfl⟩
    rw [←hWC] at HJR HMQ HWC
    clear hjr hBc p0 p1 p2 zp hrb zr rcn CJ HM
    have HWC':Hid (Bl WC wc∧w.heap.size+1≤WC.heap.size):=⟨by rw [hWC];exact Qc _,HMQ.out.2.2.2.2⟩
    have HMR:Hid (SpM wE wc w g ad cc ra rk L part num R (.slice (some ⟨rb,0,none⟩) R.length rc)):=by rw [←hWC];exact HMQ.out
    clear HWC HMQ hWC
    go_wp2
    go_loopg [10,33] J.length (fun gk s10 s33 wx=>∃(m:Nat) (Y:List Nat),m≤J.length∧gk=J.length-m∧s33=.int .i64 (m:Int)∧Sp cr L part f (R++Y)∧(∀m' (h:m'<J.length),m'<m→∀j:Nat,J[m'].2=(j:Int)→cr J[m'].1=true→j∈R++Y∨0≤part j)∧SpM wE wx w g ad cc ra rk L part num (R++Y) s10∧JW wx (w.heap.size+1) ja J)
    case atStart=>exact ⟨0,[],by omega,rfl,rfl,by simpa using HSP.out.1,fun m' _ h=>by omega,by simpa using HMR.out,HJR.out.kept HWC'.out.1⟩
    case round =>
     clear HMR HWC'
     obtain ⟨m,Y,hm,rfl,rfl,hSp,hE,hM,hjr⟩:=hrel
     obtain ⟨vC,hvC⟩:∃u,u=u10:=⟨_,rfl⟩
     subst hvC
     have HS3:Hid (Sp cr L part f (R++Y)∧(∀m' (h:m'<J.length),m'<m→∀j:Nat,J[m'].2=(j:Int)→cr J[m'].1=true→j∈R++Y∨0≤part j)):=⟨hSp,hE⟩
     have HM:Hid (SpM wE wr w g ad cc ra rk L part num (R++Y) vC):=hM
     have HR:Hid (JW wr (w.heap.size+1) ja J):=hjr
     clear hSp hE hM hjr
     by_cases hm1:m<J.length
     ·have im:(m:Int)<(J.length:Int):=by omega
      have im0:(0:Int)≤(m:Int):=by omega
      obtain ⟨jb,rfl,c0,c1,c2,c3,c4⟩:=HR.out.1 m hm1
      have zjb:jb<wr.heap.size:=bk c0
      obtain ⟨q,hq⟩:∃q,q=J[m]:=⟨_,rfl⟩
      obtain ⟨⟨q0,q1,q2,q3⟩,qj⟩:=q
      rw [←hq] at c0 c1 c2 c3 c4
      dsimp only at c0 c1 c2 c3 c4
      have HQ:Hid (((q0,q1,q2,q3),qj)=J[m]):=hq
      have hmem:((q0,q1,q2,q3),qj)∈jl L L[i] i 3:=by rw [←HJ.out,hq];exact List.getElem_mem hm1
      obtain ⟨k,hk,hke,j,hj,rfl,hji,hjt⟩:=jl_mem.1 hmem
      have HJ2:Hid ((q0,q1,q2,q3)=edg L[i] k∧hasT L[j] (q0,q1,q2,q3)=true):=⟨hke,hjt⟩
      obtain ⟨lc,lf⟩:=HM.out.1 j hj
      have zg:g<wr.heap.size:=bk lc
      have zg1:g<wr.heap.size+1:=by omega
      have ij:(j:Int)<(L.length:Int):=by omega
      have ij0:(0:Int)≤(j:Int):=by omega
      clear hmem hke hjt hq
      by_cases hlt:lab part num (R++Y) j<0
      ·have hjR:j ∉ R++Y:=fun hh=>by
        simp only [lab,if_pos hh] at hlt
        omega
       obtain ⟨sb,sc,rfl,hsb,hsc⟩:=HM.out.slice (by rw [List.length_append];omega)
       have hnY:n<(R++Y).length:=by rw [List.length_append];omega
       have sn:=hsc n hnY
       rw [show (R++Y)[n]=i by rw [List.getElem_append_left h1];exact HIE.out.symm] at sn
       have zsb:sb<wr.heap.size:=bk sn
       have inY:(n:Int)<((R++Y).length:Int):=by omega
       clear hsc
       have hpj:part j<0:=by simpa [lab,hjR] using hlt
       obtain ⟨lv,hlv⟩:∃lv,lv=lab part num (R++Y) j:=⟨_,rfl⟩
       rw [←hlv] at lc hlt
       have HLV:Hid (lv=lab part num (R++Y) j):=hlv
       clear hlv
       cases hcr:cr (q0,q1,q2,q3)
       ·have CC:Hid (∀W':World,Bl wr W'→Calls Tryz.prog 131 #[.int .i64 (i:Int),.agg #[.int .i64 q0,.int .i64 q1,.int .i64 q2,.int .i64 q3,.int .i64 (j:Int)]] W' fun e w'=>e=.returned (.bool false)∧Bl W' w'):=fun W' hW'=>hcr ▸ HCL.out (i:Int) q0 q1 q2 q3 (j:Int) W' (Qe HM.out.2.2.1 hW')
        go_wp2
        refine Qr (fun W1 hW1=>?_)
        have hbW:Bl wr W1:=by rw [hW1];exact Qb (Qc _)
        have d0:W1.cell? ⟨wr.heap.size,0,none⟩=some (.int .i64 q0):=by rw [hW1];simp [go_sem]
        have d1:W1.cell? ⟨wr.heap.size,1,none⟩=some (.int .i64 q1):=by rw [hW1];simp [go_sem]
        have d2:W1.cell? ⟨wr.heap.size,2,none⟩=some (.int .i64 q2):=by rw [hW1];simp [go_sem]
        have d3:W1.cell? ⟨wr.heap.size,3,none⟩=some (.int .i64 q3):=by rw [hW1];simp [go_sem]
        have d4:W1.cell? ⟨wr.heap.size,4,none⟩=some (.int .i64 (j:Int)):=by rw [hW1];simp [go_sem]
        have lc1:=Qa hbW lc
        have zn:wr.heap.size<W1.heap.size:=bk d0
        have zg2:g<W1.heap.size:=bk lc1
        have sn1:=Qa hbW sn
        have zs1:sb<W1.heap.size:=bk sn1
        have HM1:Hid (SpM wE W1 w g ad cc ra rk L part num (R++Y) (.slice (some ⟨sb,0,none⟩) (R++Y).length sc)∧JW W1 (w.heap.size+1) (some ⟨jb,0,none⟩) J):=⟨HM.out.kept hbW,HR.out.kept hbW⟩
        have hqd:decide (lv<0)=true:=decide_eq_true hlt
        have C1:Hid (∀W':World,Bl W1 W'→Calls Tryz.prog 131 #[.int .i64 (i:Int),.agg #[.int .i64 q0,.int .i64 q1,.int .i64 q2,.int .i64 q3,.int .i64 (j:Int)]] W' fun e w'=>e=.returned (.bool false)∧Bl W' w'):=fun W' hW'=>CC.out W' (Qe hbW hW')
        clear hW1 hbW c0 c1 c2 c3 c4 lc lf sn
        have kc:=Kin.cells W1
        have kn:Nonempty (Kin W1):=⟨⟨W1,Qc _⟩⟩
        refine Qg (by kernel_rfl) (by kernel_rfl) ?_
        repeat (go_big_quiet_step ((go_at_call 131;exact Qo (C1.out _ (Kin.h _)))))
        refine wpQuiet_nil ?_
        intro w5 hw'
        obtain ⟨nq,hw''⟩:=hw'
        have hq:Bl W1 w5:=hw'' ▸ nq.h
        clear hw'' nq kc kn
        have HM5:Hid (SpM wE w5 w g ad cc ra rk L part num (R++Y) (.slice (some ⟨sb,0,none⟩) (R++Y).length sc)∧JW w5 (w.heap.size+1) (some ⟨jb,0,none⟩) J):=⟨HM1.out.1.kept hq,HM1.out.2.kept hq⟩
        go_wp2
        go_roundg (J.length-(m+1))
        case measure=>omega
        case rel =>
         refine ⟨m+1,Y,by omega,rfl,by go_num,HS3.out.1,fun m' h' hm' j' hj' hc'=>?_,HM5.out.1,HM5.out.2⟩
         by_cases em:m'=m
         ·subst em
          rw [←HQ.out] at hc'
          simp only at hc'
          rw [hcr] at hc'
          exact absurd hc' (by simp)
         ·exact HS3.out.2 m' h' (by omega) j' hj' hc'
       ·have CC:Hid (∀W':World,Bl wr W'→Calls Tryz.prog 131 #[.int .i64 (i:Int),.agg #[.int .i64 q0,.int .i64 q1,.int .i64 q2,.int .i64 q3,.int .i64 (j:Int)]] W' fun e w'=>e=.returned (.bool true)∧Bl W' w'):=fun W' hW'=>hcr ▸ HCL.out (i:Int) q0 q1 q2 q3 (j:Int) W' (Qe HM.out.2.2.1 hW')
        have HF:Hid (Sp cr L part f (R++(Y++[j]))):=by
         have:=HS3.out.1.found HND.out (i:=i) (j:=j) (List.mem_append_left _ HIR.out) hj hjR hpj (e:=(q0,q1,q2,q3)) hcr (fun hi'=>by
          rw [HJ2.out.1]
          exact Q3 _ _) HJ2.out.2
         rwa [List.append_assoc] at this
        have hlen:(R++Y).length+1≤1000:=by
         have:=HS3.out.1.len
         omega
        go_wp2
        refine Qr (fun W1 hW1=>?_)
        have hbW:Bl wr W1:=by rw [hW1];exact Qb (Qc _)
        have d0:W1.cell? ⟨wr.heap.size,0,none⟩=some (.int .i64 q0):=by rw [hW1];simp [go_sem]
        have d1:W1.cell? ⟨wr.heap.size,1,none⟩=some (.int .i64 q1):=by rw [hW1];simp [go_sem]
        have d2:W1.cell? ⟨wr.heap.size,2,none⟩=some (.int .i64 q2):=by rw [hW1];simp [go_sem]
        have d3:W1.cell? ⟨wr.heap.size,3,none⟩=some (.int .i64 q3):=by rw [hW1];simp [go_sem]
        have d4:W1.cell? ⟨wr.heap.size,4,none⟩=some (.int .i64 (j:Int)):=by rw [hW1];simp [go_sem]
        have lc1:=Qa hbW lc
        have zn:wr.heap.size<W1.heap.size:=bk d0
        have zg2:g<W1.heap.size:=bk lc1
        have sn1:=Qa hbW sn
        have zs1:sb<W1.heap.size:=bk sn1
        have HM1:Hid (SpM wE W1 w g ad cc ra rk L part num (R++Y) (.slice (some ⟨sb,0,none⟩) (R++Y).length sc)∧JW W1 (w.heap.size+1) (some ⟨jb,0,none⟩) J):=⟨HM.out.kept hbW,HR.out.kept hbW⟩
        have hqd:decide (lv<0)=true:=decide_eq_true hlt
        have C1:Hid (∀W':World,Bl W1 W'→Calls Tryz.prog 131 #[.int .i64 (i:Int),.agg #[.int .i64 q0,.int .i64 q1,.int .i64 q2,.int .i64 q3,.int .i64 (j:Int)]] W' fun e w'=>e=.returned (.bool true)∧Bl W' w'):=fun W' hW'=>CC.out W' (Qe hbW hW')
        clear hW1 hbW c0 c1 c2 c3 c4 lc lf sn
        have kc:=Kin.cells W1
        have kn:Nonempty (Kin W1):=⟨⟨W1,Qc _⟩⟩
        refine Qg (by kernel_rfl) (by kernel_rfl) ?_
        repeat (go_big_quiet_step ((go_at_call 131;exact Qo (C1.out _ (Kin.h _)))))
        refine wpQuiet_nil ?_
        intro w5 hw'
        obtain ⟨nq,hw''⟩:=hw'
        have hq:Bl W1 w5:=hw'' ▸ nq.h
        clear hw'' nq kc kn
        have HM5:Hid (SpM wE w5 w g ad cc ra rk L part num (R++Y) (.slice (some ⟨sb,0,none⟩) (R++Y).length sc)∧JW w5 (w.heap.size+1) (some ⟨jb,0,none⟩) J):=⟨HM1.out.1.kept hq,HM1.out.2.kept hq⟩
        have d5:=Qa hq d4
        have zn5:wr.heap.size<w5.heap.size:=bk d5
        obtain ⟨lc5,lf5⟩:=HM5.out.1.1 j hj
        have zg5:g<w5.heap.size:=bk lc5
        clear hq
        go_wp2_with (at_builtin;refine wpList_append_own _ rfl (.tmp 57) (.tmp 60) 22 rfl (w.heap.size+1) 3 i3 (.int .i64 0) 1 8 Tryz.underlying22 HI.out.1 HI.out.2.1 HI.out.2.2.1 HI.out.2.2.2 rfl (by decide) (.slice (some ⟨sb,0,none⟩) (R++Y).length sc) (R++Y).length (rowN (R++Y)) rfl ?own ⟨w5.heap.size,0,none⟩ 1 1 [.int .i64 (j:Int)] rfl rfl ?c1 ?c2 ?b1 ?b2 ?b3 ?grow)
        case own =>
         try rw [←List.length_append]
         exact (HM5.out.1.2.1.kept (Qm _ g j _) (by
          cases hu:(Value.slice (some ⟨sb,0,none⟩) (R++Y).length sc).ownBlock with
          | none=>exact Or.inl rfl
          | some q =>
           refine Or.inr (fun e1=>?_)
           have:=(HM5.out.1.2.1.lt q hu).1
           simp at e1
           omega)).alloc _
        case c1=>exact J9 _ (by simp [go_sem])
        case c2=>exact J6 _
        case b1 =>
         unfold maxLen
         first|omega|(rw [List.length_append] at hlen;omega)
        case b2=>first|omega|(rw [List.length_append] at hlen;omega)
        case b3 =>
         have:=HM5.out.1.2.2.2.2
         simp
         omega
        case grow =>
         intro v' w3 hown hgrow _
         rw [←List.length_append] at hown
         try rw [←List.length_append] at hgrow
         have HM3:Hid (SpM wE w3 w g ad cc ra rk L part num (R++(Y++[j])) v'):=by
          have:=HM5.out.1.more hgw hgE hj (Qb (Qc _)) hgrow hown
          rwa [List.append_assoc] at this
         have HR3:Hid (JW w3 (w.heap.size+1) (some ⟨jb,0,none⟩) J):=by
          have h0:=HM5.out.2.grown (Qm w5 g j (.int .i64 num)) (fun g' hg' e1=>by
           have h2:=(HM5.out.2.2 g' e1).1
           simp at hg'
           omega)
          have h1:JW w3 (w.heap.size+1) (some ⟨jb,0,none⟩) J:=(h0.kept (Qb (Qc _))).grown hgrow (HM5.out.2.not_row HM5.out.1.2.1)
          exact h1
         clear hown hgrow
         go_wp2
         go_roundg (J.length-(m+1))
         case measure=>omega
         case rel =>
          have hsub:∀q∈R++Y,q∈R++(Y++[j]):=fun q hq=>by
           rw [←List.append_assoc]
           exact List.mem_append_left _ hq
          refine ⟨m+1,Y++[j],by omega,rfl,by go_num,HF.out,fun m' h' hm' j' hj' hc'=>?_,HM3.out,HR3.out⟩
          by_cases em:m'=m
          ·subst em
           rw [←HQ.out] at hj'
           simp only at hj'
           have:j'=j:=by omega
           subst this
           exact Or.inl (by simp)
          ·exact (HS3.out.2 m' h' (by omega) j' hj' hc').imp (hsub j') id
      ·have hdone:Hid (j∈R++Y∨0≤part j):=by
        by_cases hh:j∈R++Y
        ·exact Or.inl hh
        ·exact Or.inr (by simp only [lab,if_neg hh] at hlt;omega)
       obtain ⟨lv,hlv⟩:∃lv,lv=lab part num (R++Y) j:=⟨_,rfl⟩
       rw [←hlv] at lc hlt
       clear hlv
       go_wp2
       refine Qr (fun W1 hW1=>?_)
       have hbW:Bl wr W1:=by rw [hW1];exact Qb (Qc _)
       have d0:W1.cell? ⟨wr.heap.size,0,none⟩=some (.int .i64 q0):=by rw [hW1];simp [go_sem]
       have d1:W1.cell? ⟨wr.heap.size,1,none⟩=some (.int .i64 q1):=by rw [hW1];simp [go_sem]
       have d2:W1.cell? ⟨wr.heap.size,2,none⟩=some (.int .i64 q2):=by rw [hW1];simp [go_sem]
       have d3:W1.cell? ⟨wr.heap.size,3,none⟩=some (.int .i64 q3):=by rw [hW1];simp [go_sem]
       have d4:W1.cell? ⟨wr.heap.size,4,none⟩=some (.int .i64 (j:Int)):=by rw [hW1];simp [go_sem]
       have lc1:=Qa hbW lc
       have zn:wr.heap.size<W1.heap.size:=bk d0
       have zg2:g<W1.heap.size:=bk lc1
       have HM1:Hid (SpM wE W1 w g ad cc ra rk L part num (R++Y) vC∧JW W1 (w.heap.size+1) (some ⟨jb,0,none⟩) J):=⟨HM.out.kept hbW,HR.out.kept hbW⟩
       have hqd:decide (lv<0)=false:=decide_eq_false (by omega)
       clear hW1 hbW c0 c1 c2 c3 c4 lc lf
       have kc:=Kin.cells W1
       have kn:Nonempty (Kin W1):=⟨⟨W1,Qc _⟩⟩
       refine Qg (by kernel_rfl) (by kernel_rfl) ?_
       repeat (go_big_quiet_step (fail))
       refine wpQuiet_nil ?_
       intro w5 hw'
       obtain ⟨nq,hw''⟩:=hw'
       have hq:Bl W1 w5:=hw'' ▸ nq.h
       clear hw'' nq kc kn
       have HM5:Hid (SpM wE w5 w g ad cc ra rk L part num (R++Y) vC∧JW w5 (w.heap.size+1) (some ⟨jb,0,none⟩) J):=⟨HM1.out.1.kept hq,HM1.out.2.kept hq⟩
       go_wp2
       go_roundg (J.length-(m+1))
       case measure=>omega
       case rel =>
        refine ⟨m+1,Y,by omega,rfl,by go_num,HS3.out.1,fun m' h' hm' j' hj' hc'=>?_,HM5.out.1,HM5.out.2⟩
        by_cases em:m'=m
        ·subst em
         rw [←HQ.out] at hj'
         simp only at hj'
         have:j'=j:=by omega
         subst this
         exact hdone.out
        ·exact HS3.out.2 m' h' (by omega) j' hj' hc'
     ·have im:¬(m:Int)<(J.length:Int):=by omega
      obtain rfl:m=J.length:=by omega
      go_wp2
      go_roundg (L.length-(n+1))
      case measure=>omega
      case rel =>
       have hsub:∀q∈R,q∈R++Y:=fun q hq=>List.mem_append_left _ hq
       refine ⟨n+1,R++Y,by rw [List.length_append];omega,by omega,by go_num,HS3.out.1,fun m hm hmn hmL=>?_,HM.out⟩
       by_cases em:m=n
       ·subst em
        have e1:(R++Y)[m]=i:=by rw [List.getElem_append_left h1];exact HIE.out.symm
        simp only [e1]
        refine DoneT.joints (i:=i) (List.mem_append_left _ HIR.out) (fun m' hm' j' hj' hc'=>?_)
        have h8:=HS3.out.2
        rw [HJ.out] at h8
        exact h8 m' hm' hm' j' hj' hc'
       ·have hmR:m<R.length:=by omega
        have e1:(R++Y)[m]=R[m]:=List.getElem_append_left hmR
        have h7:=(HSP.out.2 m hmR (by omega) (by rw [←e1];exact hmL)).mono hsub
        simp only [e1]
        exact h7
  ·have i1:¬(n:Int)<(R.length:Int):=by omega
   clear hM hSp hD hrc
   go_wp2
   go_end0
   refine ⟨rfl,R,HSP.out.1,HM.out.1,fun i hi h=>?_,HM.out.2.2.1⟩
   obtain ⟨m,hm,he⟩:=List.getElem_of_mem hi
   subst he
   exact HSP.out.2 m hm (by omega) h
def PartsOk (cr:Int×Int×Int×Int→Bool) (L:List (Int×Int×Int)) (part:Nat→Int):Prop :=
 (∀a,a<L.length→0≤part a)∧(∀a b (ha:a<L.length) (hb:b<L.length),AdjC cr L[a] L[b]→part b=part a) ∧
 (∀a b (ha:a<L.length) (hb:b<L.length),part a=part b→ReachC cr L L[a] L[b])∧(∀a,a<L.length→∀c,0≤c→c<part a→∃b,b<a∧part b=c)
def PInv (cr:Int×Int×Int×Int→Bool) (L:List (Int×Int×Int)) (part:Nat→Int) (i c:Nat):Prop :=
 (∀a,a<L.length→a<i→0≤part a)∧(∀a b (ha:a<L.length) (hb:b<L.length),AdjC cr L[a] L[b]→0≤part a→part b=part a) ∧
 (∀a b (ha:a<L.length) (hb:b<L.length),0≤part a→part a=part b→ReachC cr L L[a] L[b])∧(∀a,a<L.length→part a<c)∧(∀a,a<L.length→∀d,0≤d→d<part a→∃b,b<a∧part b=d)∧(∀d:Int,0≤d→d<c→∃b,b<i∧part b=d)
theorem pinv_start (cr:Int×Int×Int×Int→Bool) (L:List (Int×Int×Int)):PInv cr L (fun _=>-1) 0 0 :=
 ⟨fun a _ h=>by omega,fun a b _ _ _ h=>by simp at h,fun a b _ _ h=>by simp at h,fun a _=>by simp,fun a _ d h1 h2=>by simp at h2;omega,fun d h1 h2=>by simp at h2;omega⟩
theorem PInv.skip {cr:Int×Int×Int×Int→Bool} {L:List (Int×Int×Int)} {part:Nat→Int} {i c:Nat} (h:PInv cr L part i c) (hp:0≤part i):PInv cr L part (i+1) c:=by
 obtain ⟨h1,h2,h3,h4,h5,h6⟩:=h
 refine ⟨fun a ha hi=>?_,h2,h3,h4,h5,fun d hd hc=>?_⟩
 ·by_cases e:a=i
  ·rw [e]
   exact hp
  ·exact h1 a ha (by omega)
 ·obtain ⟨b,hb,he⟩:=h6 d hd hc
  exact ⟨b,by omega,he⟩
theorem PInv.done {cr:Int×Int×Int×Int→Bool} {L:List (Int×Int×Int)} {part:Nat→Int} {c:Nat} (h:PInv cr L part L.length c):PartsOk cr L part:=by
 obtain ⟨h1,h2,h3,h4,h5,h6⟩:=h
 exact ⟨fun a ha=>h1 a ha ha,fun a b ha hb hab=>h2 a b ha hb hab (h1 a ha ha),fun a b ha hb e=>h3 a b ha hb (h1 a ha ha) e,h5⟩
theorem PInv.next {cr:Int×Int×Int×Int→Bool} {L:List (Int×Int×Int)} {part:Nat→Int} {i c:Nat} {R:List Nat} (h:PInv cr L part i c) (_hk:∀t∈L,Kd t) (_hnd:L.Nodup) (_hi:i<L.length) (_hp:part i<0) (hS:Sp cr L part i R) (hD:∀a∈R,∀ha:a<L.length,DoneT cr L part R L[a] 3):PInv cr L (lab part (c:Int) R) (i+1) (c+1):=by
 obtain ⟨h1,h2,h3,h4,h5,h6⟩:=h
 have hin:∀a,a∈R→lab part (c:Int) R a=c:=fun a ha=>by simp [lab,ha]
 have hout:∀a,a ∉ R→lab part (c:Int) R a=part a:=fun a ha=>by simp [lab,ha]
 have hlt:∀a,a∈R→∃ha:a<L.length,part a<0∧i≤a:=fun a ha=>by
  obtain ⟨q1,q2,_⟩:=hS.2.2 a ha
  refine ⟨q1,q2,?_⟩
  rcases Nat.lt_or_ge a i with q|q
  ·have:=h1 a q1 q
   omega
  ·exact q
 have hcl:∀a b (ha:a<L.length) (hb:b<L.length),AdjC cr L[a] L[b]→a∈R→b∈R:=fun a b ha hb hab haR=>by
  obtain ⟨hne,e,e1,e2,e3⟩:=hab
  obtain ⟨k,hk3,hke⟩:=hasT_edg e1
  have hd:=hD a haR ha k hk3 (by rw [hke];exact e3) b hb (by rw [hke];exact e2)
  rcases hd with hd|hd
  ·exact hd
  ·have q1:=h2 b a hb ha (AdjC.symm ⟨hne,e,e1,e2,e3⟩) hd
   obtain ⟨_,q2,_⟩:=hlt a haR
   omega
 refine ⟨fun a ha hai=>?_,fun a b ha hb hab hpa=>?_,fun a b ha hb hpa he=>?_,fun a ha=>?_,fun a ha d hd hda=>?_,fun d hd hdc=>?_⟩
 ·by_cases haR:a∈R
  ·rw [hin a haR]
   omega
  ·rw [hout a haR]
   by_cases e:a=i
   ·exact absurd (e ▸ hS.1) haR
   ·exact h1 a ha (by omega)
 ·by_cases haR:a∈R
  ·rw [hin a haR,hin b (hcl a b ha hb hab haR)]
  ·rw [hout a haR] at hpa ⊢
   have hbR:b ∉ R:=fun q=>haR (hcl b a hb ha hab.symm q)
   rw [hout b hbR]
   exact h2 a b ha hb hab hpa
 ·by_cases haR:a∈R
  ·by_cases hbR:b∈R
   ·obtain ⟨_,_,_,r1⟩:=hS.2.2 a haR
    obtain ⟨_,_,_,r2⟩:=hS.2.2 b hbR
    exact r1.symm.trans r2
   ·rw [hin a haR,hout b hbR] at he
    have:=h4 b hb
    omega
  ·by_cases hbR:b∈R
   ·rw [hout a haR,hin b hbR] at he
    have:=h4 a ha
    omega
   ·rw [hout a haR,hout b hbR] at he
    rw [hout a haR] at hpa
    exact h3 a b ha hb hpa he
 ·by_cases haR:a∈R
  ·rw [hin a haR]
   omega
  ·rw [hout a haR]
   have:=h4 a ha
   omega
 ·by_cases haR:a∈R
  ·rw [hin a haR] at hda
   obtain ⟨b,hb,hbe⟩:=h6 d hd hda
   obtain ⟨_,_,hia⟩:=hlt a haR
   refine ⟨b,by omega,?_⟩
   rw [hout b (fun q=>by obtain ⟨_,q2,_⟩:=hlt b q;omega)]
   exact hbe
  ·rw [hout a haR] at hda
   obtain ⟨b,hb,hbe⟩:=h5 a ha d hd hda
   refine ⟨b,hb,?_⟩
   rw [hout b (fun q=>by obtain ⟨_,q2,_⟩:=hlt b q;omega)]
   exact hbe
 ·by_cases e:d=c
  ·exact ⟨i,by omega,by rw [hin i hS.1,e]⟩
  ·obtain ⟨b,hb,hbe⟩:=h6 d hd (by omega)
   refine ⟨b,by omega,?_⟩
   rw [hout b (fun q=>by obtain ⟨_,q2,_⟩:=hlt b q;omega)]
   exact hbe
theorem rp_zrow {w:World} {g n:Nat} {z:Int} (h:w.heap[g]?=some (.cells (rp z n n).toArray 3 (0,0))):ZRow w g n (fun _=>z):=fun i hi=>by
 have e:rp z n n=List.replicate n (Value.int .i64 z):=by simp [rp]
 rw [e] at h
 refine ⟨?_,?_⟩
 ·simp [World.cell?,h,hi]
 ·simp [World.frozen?,h]
theorem joined1_any (n a b c d t:Int) (w:World):Calls Tryz.prog 131 #[.int .i64 n,.agg #[.int .i64 a,.int .i64 b,.int .i64 c,.int .i64 d,.int .i64 t]] w fun e w'=>e=.returned (.bool true)∧Bl w w':=by
 go_enter Tryz.func131,Tryz.ntmps131
 go_wp2
 go_ret
 exact ⟨rfl,Qb (Qc _)⟩
theorem parts_all (w:World) (cc ra rk:Nat) (ad:Option Addr) (L:List (Int×Int×Int)) (cr:Int×Int×Int×Int→Bool) (hs:Steps w) (hPA:PA w ad ra L) (hL:L.length≤300) (hnd:L.Nodup) (hbd:∀t∈L,(0≤t.1∧t.1≤8)∧(0≤t.2.1∧t.2.1≤8)∧(0≤t.2.2∧t.2.2≤3))
  (hCL:∀(nr q0 q1 q2 q3 qt:Int) (W':World),Bl w W'→Calls Tryz.prog 131 #[.int .i64 nr,.agg #[.int .i64 q0,.int .i64 q1,.int .i64 q2,.int .i64 q3,.int .i64 qt]] W' fun e w'=>e=.returned (.bool (cr (q0,q1,q2,q3)))∧Bl W' w') :
  Calls Tryz.prog 54 #[.agg #[.slice ad L.length cc,.map (some ra),.map (some rk)],.func (.func 131) #[] #[]] w fun e w'=>∃g part,e=.returned (.slice (some ⟨g,0,none⟩) L.length L.length)∧ZRow w' g L.length part∧PartsOk cr L part∧w.heap.size≤g∧Bl w w':=by
 have hbE:Bl w ((w.alloc (.cells #[.slice ad L.length cc,.map (some ra),.map (some rk)] 68)).alloc (.cells #[.int .i64 (-1)] 3)):=Qb (Qb (Qc _))
 have CSP:Hid (∀(g f:Nat) (part:Nat→Int) (num:Int) (wx:World),Below ((w.alloc (.cells #[.slice ad L.length cc,.map (some ra),.map (some rk)] 68)).alloc (.cells #[.int .i64 (-1)] 3)).heap.size ((w.alloc (.cells #[.slice ad L.length cc,.map (some ra),.map (some rk)] 68)).alloc (.cells #[.int .i64 (-1)] 3)) wx→((w.alloc (.cells #[.slice ad L.length cc,.map (some ra),.map (some rk)] 68)).alloc (.cells #[.int .i64 (-1)] 3)).heap.size≤g→ZRow wx g L.length part→f<L.length→part f<0→(0≤num∧num≤1000)→Calls Tryz.prog 86 #[.agg #[.slice ad L.length cc,.map (some ra),.map (some rk)],.slice (some ⟨g,0,none⟩) L.length L.length,.int .i64 (f:Int),.int .i64 num,.func (.func 131) #[] #[]] wx fun e w'=>e=.returned (.tuple #[])∧∃R,Sp cr L part f R∧ZRow w' g L.length (lab part num R)∧(∀i∈R,∀h:i<L.length,DoneT cr L part R L[i] 3)∧Below ((w.alloc (.cells #[.slice ad L.length cc,.map (some ra),.map (some rk)] 68)).alloc (.cells #[.int .i64 (-1)] 3)).heap.size ((w.alloc (.cells #[.slice ad L.length cc,.map (some ra),.map (some rk)] 68)).alloc (.cells #[.int .i64 (-1)] 3)) w'):=fun g f part num wx h1 h2 h3 h4 h5 h6 =>
  spread_all ((w.alloc (.cells #[.slice ad L.length cc,.map (some ra),.map (some rk)] 68)).alloc (.cells #[.int .i64 (-1)] 3)) wx g cc ra rk f ad L part num cr (hs.kept hbE) (hPA.kept hbE) h1 h2 h3 h4 h5 h6 hL hnd hbd (fun nr q0 q1 q2 q3 qt W' hW'=>hCL nr q0 q1 q2 q3 qt W' (Qe hbE hW'))
 have HPB:Hid (∀t∈L,Kd t):=fun t ht=>(hbd t ht).2.2
 have HND:Hid (L.Nodup):=hnd
 clear hs hPA hbE hnd hbd hCL
 go_enter Tryz.func54,Tryz.ntmps54
 go_wp2_with (go_at_call 85;refine (repeat_any (-1) (w.heap.size+1) L.length _ (by omega) (by simp [go_sem])).mono ?_;rintro e w1 ⟨rfl,hrow,hb⟩;have HW1:Hid (ZRow w1 ((w.alloc (.cells #[.slice ad L.length cc,.map (some ra),.map (some rk)] 68)).alloc (.cells #[.int .i64 (-1)] 3)).heap.size L.length (fun _=>-1)∧Below ((w.alloc (.cells #[.slice ad L.length cc,.map (some ra),.map (some rk)] 68)).alloc (.cells #[.int .i64 (-1)] 3)).heap.size ((w.alloc (.cells #[.slice ad L.length cc,.map (some ra),.map (some rk)] 68)).alloc (.cells #[.int .i64 (-1)] 3)) w1):=⟨rp_zrow hrow,hb⟩;have p0:w1.cell? ⟨w.heap.size,0,none⟩=some (.slice ad L.length cc):=Qa hb (by simp [go_sem]);clear hrow hb)
 obtain ⟨WE,hWE⟩:∃W,W=((w.alloc (.cells #[.slice ad L.length cc,.map (some ra),.map (some rk)] 68)).alloc (.cells #[.int .i64 (-1)] 3)):=⟨_,rfl⟩
 have q0:WE.cell? ⟨w.heap.size,0,none⟩=some (.slice ad L.length cc):=by rw [hWE];simp [go_sem]
 have q1:WE.cell? ⟨w.heap.size,1,none⟩=some (.map (some ra)):=by rw [hWE];simp [go_sem]
 have q2:WE.cell? ⟨w.heap.size,2,none⟩=some (.map (some rk)):=by rw [hWE];simp [go_sem]
 have hz:WE.heap.size=w.heap.size+2:=by rw [hWE];simp
 have HBW:Hid (Bl w WE):=by rw [hWE];exact Qb (Qb (Qc _))
 rw [←hWE] at CSP HW1
 have HQ:Hid (WE.cell? ⟨w.heap.size,0,none⟩=some (.slice ad L.length cc)∧WE.cell? ⟨w.heap.size,1,none⟩=some (.map (some ra))∧WE.cell? ⟨w.heap.size,2,none⟩=some (.map (some rk))):=⟨q0,q1,q2⟩
 obtain ⟨g,hg⟩:∃g,g=w.heap.size+1+1:=⟨_,rfl⟩
 rw [show WE.heap.size=g by omega] at HW1
 have HG:Hid (g=w.heap.size+1+1∧WE.heap.size=g):=⟨hg,by omega⟩
 rw [←hg]
 clear hWE q0 q1 q2 hg hz
 go_wp2
 go_loopg [6,16] L.length (fun gk s6 s16 wx=>∃(i:Nat) (c:Nat) (part:Nat→Int),i≤L.length∧gk=L.length-i∧s16=.int .i64 (i:Int)∧s6=.int .i64 (c:Int)∧c≤i∧PInv cr L part i c∧ZRow wx g L.length part∧Bl WE wx)
 case atStart=>exact ⟨0,0,_,by omega,rfl,rfl,rfl,by omega,pinv_start _ _,HW1.out.1,by unfold Bl;rw [HG.out.2];exact HW1.out.2⟩
 case round =>
  clear HW1 p0
  obtain ⟨i,c,part,hi,rfl,rfl,rfl,hci,hI,hZ,hB⟩:=hrel
  have HI:Hid (PInv cr L part i c∧ZRow wr g L.length part∧Bl WE wr):=⟨hI,hZ,hB⟩
  clear hI hZ hB
  have p0:wr.cell? ⟨w.heap.size,0,none⟩=some (.slice ad L.length cc):=Qa HI.out.2.2 HQ.out.1
  have p1:wr.cell? ⟨w.heap.size,1,none⟩=some (.map (some ra)):=Qa HI.out.2.2 HQ.out.2.1
  have p2:wr.cell? ⟨w.heap.size,2,none⟩=some (.map (some rk)):=Qa HI.out.2.2 HQ.out.2.2
  by_cases h1:i<L.length
  ·have i1:(i:Int)<(L.length:Int):=by omega
   have i0:(0:Int)≤(i:Int):=by omega
   obtain ⟨zc,_⟩:=HI.out.2.1 i h1
   obtain ⟨lv,hlv⟩:∃lv,lv=part i:=⟨_,rfl⟩
   rw [←hlv] at zc
   have HLV:Hid (lv=part i):=hlv
   clear hlv
   by_cases hneg:lv<0
   ·go_wp2_with (go_at_call 86;refine (CSP.out g i part (c:Int) _ HI.out.2.2 (by rw [HG.out.2];exact Nat.le_refl _) HI.out.2.1 h1 (by rw [←HLV.out];exact hneg) (by omega)).mono ?_;rintro e w2 ⟨rfl,R,hSp,hZ2,hD,hb2⟩;have HN:Hid (PInv cr L (lab part (c:Int) R) (i+1) (c+1)∧ZRow w2 g L.length (lab part (c:Int) R)∧Bl WE w2):=⟨HI.out.1.next HPB.out HND.out h1 (by rw [←HLV.out];exact hneg) hSp hD,hZ2,hb2⟩;clear hSp hZ2 hD hb2)
    go_roundg (L.length-(i+1))
    case measure=>omega
    case rel=>exact ⟨i+1,c+1,_,by omega,rfl,by go_num,by go_num,by omega,HN.out⟩
   ·go_wp2
    go_roundg (L.length-(i+1))
    case measure=>omega
    case rel=>exact ⟨i+1,c,part,by omega,rfl,by go_num,rfl,by omega,HI.out.1.skip (by rw [←HLV.out];omega),HI.out.2⟩
  ·have i1:¬(i:Int)<(L.length:Int):=by omega
   obtain rfl:i=L.length:=by omega
   go_wp2
   go_ret
   exact ⟨g,rfl,part,HI.out.2.1,HI.out.1.done,by have:=HG.out.1;omega,Qe HBW.out HI.out.2.2⟩
theorem max_zero:∀(l:List Int) (a:Int),(∀x∈l,0≤x)→0≤a→(l.foldl max a=0↔a=0∧∀x∈l,x=0)
 | [],a,_,_=>by simp
 | x :: r,a,h,ha=>by
  have hx:=h x (by simp)
  have ih:=max_zero r (max a x) (fun y hy=>h y (by simp [hy])) (by omega)
  rw [List.foldl_cons,ih]
  constructor
  ·rintro ⟨h1,h2⟩
   refine ⟨by omega,fun y hy=>?_⟩
   rcases List.mem_cons.1 hy with rfl|hy
   ·omega
   ·exact h2 y hy
  ·rintro ⟨h1,h2⟩
   refine ⟨?_,fun y hy=>h2 y (by simp [hy])⟩
   have:=h2 x (by simp)
   omega
theorem maxOf_zero {l:List Int} (hl:l≠[]) (h:∀x∈l,0≤x):Lib.maxOf l=0↔∀x∈l,x=0:=by
 cases l with
 | nil=>exact absurd rfl hl
 | cons a r =>
  unfold Lib.maxOf
  rw [List.headD_cons,max_zero _ _ h (h a (by simp))]
  exact ⟨fun q=>q.2,fun q=>⟨q a (by simp),q⟩⟩
theorem parts_joined {L:List (Int×Int×Int)} {part:Nat→Int} (h:PartsOk (fun _=>true) L part) (hnd:L.Nodup) (h0:0<L.length):(∀a,a<L.length→part a=0)↔Joined L:=by
 obtain ⟨h1,h2,h3,h4⟩:=h
 have hz:part 0=0:=by
  rcases Int.lt_or_le 0 (part 0) with q|q
  ·obtain ⟨b,hb,_⟩:=h4 0 h0 0 (Int.le_refl _) q
   omega
  ·have:=h1 0 h0
   omega
 exact reached_joined h0 (fun a=>part a=0) hz (fun a ha q=>reach_all.1 (h3 0 a h0 ha (by rw [hz,q]))) (fun a b ha hb q hab=>by
  have:=h2 a b ha hb ⟨hab.1,hab.2.imp fun _ he=>⟨he.1,he.2,rfl⟩⟩
  omega) hnd
theorem joined_any (w:World) (cc ra rk:Nat) (ad:Option Addr) (L:List (Int×Int×Int)) (hs:Steps w) (hPA:PA w ad ra L) (hL:L.length≤300) (hnd:L.Nodup) (hbd:∀t∈L,(0≤t.1∧t.1≤8)∧(0≤t.2.1∧t.2.1≤8)∧(0≤t.2.2∧t.2.2≤3)) :
  Calls Tryz.prog 100 #[.agg #[.slice ad L.length cc,.map (some ra),.map (some rk)]] w fun e w'=>∃bb:Bool,e=.returned (.bool bb)∧(bb=true↔Joined L)∧Bl w w':=by
 have CP:Hid (∀wx:World,Bl w wx→Calls Tryz.prog 54 #[.agg #[.slice ad L.length cc,.map (some ra),.map (some rk)],.func (.func 131) #[] #[]] wx fun e w'=>∃g part,e=.returned (.slice (some ⟨g,0,none⟩) L.length L.length)∧ZRow w' g L.length part∧PartsOk (fun _=>true) L part∧wx.heap.size≤g∧Bl wx w'):=fun wx hb=>parts_all wx cc ra rk ad L (fun _=>true) (hs.kept hb) (hPA.kept hb) hL hnd hbd (fun nr q0 q1 q2 q3 qt W' _=>joined1_any nr q0 q1 q2 q3 qt W')
 have HND:Hid (L.Nodup):=hnd
 clear hs hPA hnd hbd
 by_cases h0:0<L.length
 ·have i0:(0:Int)<(L.length:Int):=by omega
  go_enter Tryz.func100,Tryz.ntmps100
  go_wp2_with (first
   | (go_at_call 54;refine (CP.out _ (by with_reducible exact Qb (Qc _))).mono ?_;rintro e w1 ⟨g,part,rfl,hZ,hP,hg,hb⟩;have HW:Hid (ZRow w1 g L.length part∧PartsOk (fun _=>true) L part∧Bl w w1):=⟨hZ,hP,Qe (Qb (Qc _)) hb⟩;clear hZ hP hb hg)
   | (go_at_call 30;refine (Tryz.slices_Max_int g 0 L.length L.length ((List.range L.length).map part) _ h0 (by simp) (by omega) (fun j hj=>by
     have hj':j<L.length:=by simpa using hj
     rw [Nat.zero_add,(HW.out.1 j hj').1]
     simp [hj'])).mono ?_;rintro e w2 ⟨rfl,hw2⟩;have hw3:=hw2.symm;clear hw2;subst hw3))
  go_ret
  have hm:(Lib.maxOf (((List.range L.length).map part).take L.length)=0)↔Joined L:=by
   rw [List.take_of_length_le (by simp),maxOf_zero (fun q=>by
    have q2:=congrArg List.length q
    rw [List.length_map,List.length_range,List.length_nil] at q2
    omega) (fun x hx=>by
    obtain ⟨a,ha,rfl⟩:=List.mem_map.1 hx
    exact HW.out.2.1.1 a (by simpa using ha))]
   rw [←parts_joined HW.out.2.1 HND.out h0]
   constructor
   ·intro q a ha
    exact q _ (List.mem_map.2 ⟨a,by simpa using ha,rfl⟩)
   ·intro q x hx
    obtain ⟨a,ha,rfl⟩:=List.mem_map.1 hx
    exact q a (by simpa using ha)
  refine ⟨_,rfl,?_,HW.out.2.2⟩
  rw [←hm]
  simp
 ·have i0:¬(0:Int)<(L.length:Int):=by omega
  go_enter Tryz.func100,Tryz.ntmps100
  go_wp2_with (go_at_call 54;refine (CP.out _ (by with_reducible exact Qb (Qc _))).mono ?_;rintro e w1 ⟨g,part,rfl,hZ,hP,hg,hb⟩;have HW:Hid (Bl w w1):=Qe (Qb (Qc _)) hb;clear hZ hP hb hg)
  go_ret
  refine ⟨_,rfl,⟨fun q=>?_,fun q=>absurd q.1 h0⟩,HW.out⟩
  first|exact Bool.noConfusion q|(exfalso;simp at q;done)|(exfalso;simp at q;omega)
end Go.Proofs.YtgpjaecgkkgehaaGreatDoor
