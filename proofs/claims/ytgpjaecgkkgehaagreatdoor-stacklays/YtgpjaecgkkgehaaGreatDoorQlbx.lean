/- A part of the proof of stackLays_holds. -/
import Derived.Test.YtgpjaecgkkgehaaGreatDoorQlbj
import Derived.Test.YtgpjaecgkkgehaaGreatDoorQlbw
set_option maxRecDepth 100000
set_option maxHeartbeats 40000000
namespace Go.Proofs.YtgpjaecgkkgehaaGreatDoor
open Go.RowKit Go.Shelf Go.ChangeMaps
def Upw (h:Nat→Int) (R:List Nat):Prop:=R.Pairwise (fun a b=>¬h b<h a)
def plcA (pl:List (Int×Int×Int)) (k:Nat):Int×Int×Int:=pl.getD k (0,0,0)
def NW (w:World) (g:Nat) (R:List Nat):Prop := ∀i (h:i<R.length),w.cell? ⟨g,i,none⟩=some (.int .i64 ((R[i]:Nat):Int))∧w.frozen? ⟨g,i,none⟩=false
theorem NW.kept {w w':World} {g:Nat} {R:List Nat} (h:NW w g R) (hb:Bl w w'):NW w' g R:=fun i hi=>by
 obtain ⟨h1,h2⟩:=h i hi
 exact ⟨Qa hb h1,(hb.frozen (bk h1)).trans h2⟩
theorem NW.grown {w w':World} {g:Nat} {R:List Nat} {row:Option Nat} (h:NW w g R) (hg:w.grownBy w' row) (hn:some g≠row):NW w' g R:=fun i hi=>by
 obtain ⟨h1,h2⟩:=h i hi
 exact ⟨hg.cell h1 hn,(World.frozen?_of_block (a:=⟨g,i,none⟩) (hg.block g (bk h1) hn)).trans h2⟩
def SortsN (w:World) (N:Nat) (rv:Value) (h:Nat→Int):Prop := ∀(W:World) (g cap:Nat) (R:List Nat),Bl w W→w.heap.size≤g→R≠[]→R.length≤300→(∀j∈R,j<N)→NW W g R →
 Calls Tryz.prog 110 #[.slice (some ⟨g,0,none⟩) R.length cap,.func (.func 111) #[rv] #[]] W fun e w'=>e=.returned (.tuple #[])∧∃R':List Nat,R'.Perm R∧Upw h R'∧NW w' g R'∧W.grownBy w' (some g)
def Gk (pl:List (Int×Int×Int)) (e:Int×Int×Int):List Nat:=(List.range pl.length).filter fun k=>decide (pl.getD k (0,0,0)=e)
theorem Gn_eq (pl:List (Int×Int×Int)):∀i e,Gn pl i e=((List.range i).filter fun k=>decide (pl.getD k (0,0,0)=e)).map (fun k:Nat=>(k:Int))
 | 0,e=>by simp [Gn]
 | i+1,e=>by
  unfold Gn
  rw [List.range_succ,List.filter_append,List.map_append,←Gn_eq pl i e]
  by_cases q:e=pl.getD i (0,0,0)
  ·rw [if_pos q,←q]
   simp [q]
  ·rw [if_neg q]
   have q2:¬pl.getD i (0,0,0)=e:=fun h=>q h.symm
   simp only [List.filter_cons,List.filter_nil,q2,decide_false,Bool.false_eq_true,if_false,List.map_nil,List.append_nil]
theorem Gk_mem {pl:List (Int×Int×Int)} {e:Int×Int×Int} {k:Nat}:k∈Gk pl e↔k<pl.length∧pl.getD k (0,0,0)=e:=by
 unfold Gk
 rw [List.mem_filter,List.mem_range,decide_eq_true_eq]
theorem Gk_len (pl:List (Int×Int×Int)) (e:Int×Int×Int):(Gk pl e).length≤pl.length:=by
 have:=List.length_filter_le (fun k=>decide (pl.getD k (0,0,0)=e)) (List.range pl.length)
 rw [List.length_range] at this
 exact this
theorem Gk_nodup (pl:List (Int×Int×Int)) (e:Int×Int×Int):(Gk pl e).Nodup:=List.Pairwise.filter _ List.nodup_range
theorem own_nw {w:World} {base g c:Nat} {pl:List (Int×Int×Int)} {e:Int×Int×Int} (h:w.ownsRow base 3 1 (.slice (some ⟨g,0,none⟩) (Gn pl pl.length e).length c) (Gn pl pl.length e).length ((Gn pl pl.length e).map (Value.int .i64))):NW w g (Gk pl e):=fun i hi=>by
 have hl:(Gn pl pl.length e).length=(Gk pl e).length:=by rw [Gn_eq,List.length_map];rfl
 have hc:=h.cellAt i (by omega)
 have e1:(Gn pl pl.length e)=(Gk pl e).map (fun k:Nat=>(k:Int)):=Gn_eq pl pl.length e
 refine ⟨?_,?_⟩
 ·rw [hc,e1]
  simp [hi]
 ·rcases h.2 with ⟨h1,_⟩|⟨g',cap,cur,h1,_,h3,_⟩
  ·cases h1
  ·cases h1
   simp [World.frozen?,h3]
theorem inf98:(Tryz.prog.info? 102).map (fun i=>(i.zero,i.size,i.bytes))=some (some (.agg #[.int .i64 0,.int .i64 0,.int .i64 0,.slice none 0 0]),4,48):=by kernel_rfl
theorem cell_four (w:World) (a b c d:Value) (T:TypeId):∀j u,([a,b,c,d])[j]?=some u→(w.alloc (.cells #[a,b,c,d] T)).cell? ((⟨w.heap.size,0,none⟩:Addr).add j)=some u:=by
 intro j u hu
 match j,hu with
 | 0,hu=>simp at hu;subst hu;simp [Addr.add,go_sem]
 | 1,hu=>simp at hu;subst hu;simp [Addr.add,go_sem]
 | 2,hu=>simp at hu;subst hu;simp [Addr.add,go_sem]
 | 3,hu=>simp at hu;subst hu;simp [Addr.add,go_sem]
structure Far (wA:World) (z g:Nat) (S:List ((Int×Int×Int)×Nat×Nat)):Prop where
 lt:g<z
 s:∀s∈S,s.2.1<z∧wA.heap.size≤s.2.1∧s.2.1≠g
 far:S.Pairwise (fun x y=>x.2.1≠y.2.1)
theorem Far.ne {wA:World} {z g:Nat} {S:List ((Int×Int×Int)×Nat×Nat)} (h:Far wA z g S) {i k:Nat} (hi:i<S.length) (hk:k<S.length) (hne:i≠k):S[i].2.1≠S[k].2.1:=by
 have hp:=List.pairwise_iff_getElem.1 h.far
 rcases Nat.lt_or_ge i k with q|q
 ·exact hp i k hi hk q
 ·exact (hp k i hk hi (by omega)).symm
structure STW (wA wx:World) (z g:Nat) (v:Value) (L pl:List (Int×Int×Int)) (h:Nat→Int) (S:List ((Int×Int×Int)×Nat×Nat)) (k:Nat) (H:List ((Int×Int×Int)×List Nat)) (R:List ((Int×Int×Int)×Value)):Prop where
 row:∀i (hi:i<S.length),wx.cell? ⟨g,i,none⟩=some (.slice (some ⟨S[i].2.1,0,none⟩) (Gk pl S[i].1).length S[i].2.2)
 left:∀i (hi:i<S.length),k≤i→NW wx S[i].2.1 (Gk pl S[i].1)
 own:wx.ownsRow z 102 4 v R.length (rowS R)
 len:R.length=k∧H.length=k
 tris:∀i (hi:i<R.length) (hj:i<H.length),R[i].1=H[i].1∧TrisAt wx R[i].2 (tgn L H[i].2)
 off:∀s∈R,∀q,s.2.ownBlock=some q→z≤q∧q<wx.heap.size∧v.ownBlock≠some q
 done:∀i (hi:i<H.length) (hj:i<S.length),H[i].1=S[i].1∧H[i].2.Perm (Gk pl S[i].1)∧Upw h H[i].2
 b:Bl wA wx
 zz:z≤wx.heap.size
theorem STW.next {wA wx w2 w8 W3:World} {z g k gq cap n8 c8:Nat} {a8:Option Addr} {v:Value} {o:Obj} {L pl:List (Int×Int×Int)} {hh:Nat→Int} {S:List ((Int×Int×Int)×Nat×Nat)} {H:List ((Int×Int×Int)×List Nat)} {R:List ((Int×Int×Int)×Value)} {R':List Nat} (h:STW wA wx z g v L pl hh S k H R) (hk:k<S.length) (hF:Far wA z g S) (hzA:wA.heap.size≤z)
  (hg2:wx.grownBy w2 (some S[k].2.1)) (hp:R'.Perm (Gk pl S[k].1)) (hs:Upw hh R') (h8:Bl w2 w8) (ht:TRow w8 a8 (tgn L R')) (hn8:n8=(tgn L R').length) (hf:∀q,a8=some ⟨q,0,none⟩→w2.heap.size≤q∧q<w8.heap.size)
  (hgrow:(w8.alloc o).grownBy W3 v.ownBlock) (hown:W3.ownsRow z 102 4 (.slice (some ⟨gq,0,none⟩) (R.length+1) cap) (R.length+1) (rowS R++[.int .i64 S[k].1.1,.int .i64 S[k].1.2.1,.int .i64 S[k].1.2.2,.slice a8 n8 c8])) (hat:v.ownBlock=some gq∨gq=w8.heap.size+1) (hne:R'≠[]) :
  STW wA W3 z g (.slice (some ⟨gq,0,none⟩) (R.length+1) cap) L pl hh S (k+1) (H++[(S[k].1,R')]) (R++[(S[k].1,.slice a8 n8 c8)]):=by
 have z2:wx.heap.size≤w2.heap.size:=hg2.size
 have z8:=h8.size
 have z3:=hgrow.size
 have zz:=h.zz
 rw [World.size_alloc] at z3
 have hvz:∀q,v.ownBlock=some q→z≤q∧q<wx.heap.size:=fun q e=>h.own.lt q e
 have hSk:=hF.s S[k] (List.getElem_mem hk)
 have k8:Bl w2 (w8.alloc o):=Qb h8
 -- what lies below z in a block other than the one that was sorted
 have keep:∀b q u,b<z→b≠S[k].2.1→wx.cell? ⟨b,q,none⟩=some u→W3.cell? ⟨b,q,none⟩=some u:=fun b q u hb hne hc =>
  hgrow.cell (Qa k8 (hg2.cell hc (by simpa using hne))) (fun e=>by have:=(hvz _ e.symm).1;dsimp only at this;omega)
 have hn3:∀b R0,b<z→b≠S[k].2.1→NW wx b R0→NW W3 b R0:=fun b R0 hb hne hN =>
  ((hN.grown hg2 (by simpa using hne)).kept k8).grown hgrow (fun e=>by have:=(hvz _ e.symm).1;omega)
 refine ⟨fun i hi=>keep _ _ _ hF.lt hSk.2.2.symm (h.row i hi),fun i hi hki=>?_,?_,⟨by simp [h.len.1],by simp [h.len.2]⟩,fun i hi hj=>?_,fun s hs q hq=>?_,fun i hi hj=>?_,?_,by omega⟩
 ·exact hn3 _ _ (hF.s _ (List.getElem_mem hi)).1 (hF.ne hi hk (by omega)) (h.left i hi (by omega))
 ·rw [List.length_append,rowS_add]
  exact hown
 ·by_cases q:i<R.length
  ·have q2:i<H.length:=by rw [h.len.2,←h.len.1];exact q
   obtain ⟨t1,t2⟩:=h.tris i q q2
   rw [List.getElem_append_left q,List.getElem_append_left q2]
   refine ⟨t1,?_⟩
   have o1:=h.off R[i] (List.getElem_mem q)
   have t3:=t2.grown hg2 (fun b e=>by
    have:=(o1 b e).1
    intro e2
    simp at e2
    omega)
   exact (t3.kept k8).grown hgrow (fun b e e2=>(o1 b e).2.2 e2.symm)
  ·have q3:i=R.length:=by rw [List.length_append,List.length_singleton] at hi;omega
   have q4:i=H.length:=by rw [q3,h.len.1,h.len.2]
   have e1:(R++[(S[k].1,Value.slice a8 n8 c8)])[i]=(S[k].1,Value.slice a8 n8 c8):=by
    rw [List.getElem_append_right (by omega)]
    simp
   have e2:(H++[(S[k].1,R')])[i]=(S[k].1,R'):=by
    rw [List.getElem_append_right (by omega)]
    simp
   rw [e1,e2]
   refine ⟨rfl,a8,c8,by rw [hn8],?_⟩
   refine (ht.kept (Qb (Qc _))).grownN hgrow (fun b e e3=>?_)
   have f1:=(hf b e).1
   have f2:=(hvz b e3.symm).2
   omega
 ·have hgb:z≤gq∧gq<W3.heap.size:=hown.lt gq rfl
  rcases List.mem_append.1 hs with hs|hs
  ·obtain ⟨o1,o2,o3⟩:=h.off s hs q hq
   refine ⟨o1,by omega,fun e=>?_⟩
   simp only [Value.ownBlock,Option.some.injEq] at e
   rcases hat with q1|q1
   ·exact o3 (by rw [q1,e])
   ·omega
  ·simp at hs
   subst hs
   obtain ⟨q8,e8,_⟩:=ht 0 (by simpa [tgn] using List.length_pos_iff.2 hne)
   obtain ⟨f1,f2⟩:=hf q8 e8
   rw [e8] at hq
   simp only [Value.ownBlock,Option.some.injEq] at hq ⊢
   subst hq
   refine ⟨by omega,by omega,fun e=>?_⟩
   have e9:gq=q8:=by simpa using e
   rcases hat with q1|q1
   ·have:=(hvz gq q1).2
    omega
   ·omega
 ·by_cases q:i<H.length
  ·rw [List.getElem_append_left q]
   exact h.done i q hj
  ·have q3:i=H.length:=by rw [List.length_append,List.length_singleton] at hi;omega
   have e2:(H++[(S[k].1,R')])[i]=(S[k].1,R'):=by
    rw [List.getElem_append_right (by omega)]
    simp
   have q4:i=k:=by rw [q3,h.len.2]
   rw [e2]
   subst q4
   exact ⟨rfl,hp,hs⟩
 ·have b2:Bl wA w2:=h.b.grown hg2 h.b.size (fun r e=>by cases e;exact hSk.2.1)
  have b8:Bl wA (w8.alloc o):=b2.trans (k8.mono b2.size)
  exact b8.grown hgrow b8.size (fun r e=>by have:=(hvz r e).1;omega)
theorem four_one (a b c:Int) (d:Option Addr) (n m:Nat):∀u ∈ [Value.int .i64 a,.int .i64 b,.int .i64 c,.slice d n m],u.oneCell'=true:=by
 intro u hu
 simp at hu
 rcases hu with rfl|rfl|rfl|rfl<;>rfl
theorem heap_of {_L pl:List (Int×Int×Int)} {h:Nat→Int} {S:List ((Int×Int×Int)×Nat×Nat)} {H:List ((Int×Int×Int)×List Nat)} (hl:H.length=S.length) (hd:∀i (hi:i<H.length) (hj:i<S.length),H[i].1=S[i].1∧H[i].2.Perm (Gk pl S[i].1)∧Upw h H[i].2) (ho:S.Pairwise (fun x y=>ltT x.1 y.1)) (hne:∀s∈S,Gk pl s.1≠[]) (ha:∀k,k<pl.length→∃s∈S,s.1=pl.getD k (0,0,0)) (hdis:∀i j,i<pl.length→j<pl.length→pl.getD i (0,0,0)=pl.getD j (0,0,0)→i≠j→h i≠h j) :
  Heap pl.length (plcA pl) h H:=by
 refine ⟨?_,?_,?_⟩
 ·rw [List.pairwise_iff_getElem]
  intro i j hi hj hij
  have hp:=List.pairwise_iff_getElem.1 ho i j (by omega) (by omega) hij
  rw [(hd i hi (by omega)).1,(hd j hj (by omega)).1]
  exact hp
 ·intro s hs
  obtain ⟨i,hi,rfl⟩:=List.getElem_of_mem hs
  obtain ⟨e1,e2,e3⟩:=hd i hi (by omega)
  have hm:∀j∈H[i].2,j<pl.length∧pl.getD j (0,0,0)=H[i].1:=fun j hj=>by
   rw [e1]
   exact Gk_mem.1 (e2.mem_iff.1 hj)
  refine ⟨fun e=>?_,?_,hm⟩
  ·rw [e] at e2
   exact hne S[i] (List.getElem_mem _) e2.symm.eq_nil
  ·have hnd:H[i].2.Nodup:=e2.nodup_iff.2 (Gk_nodup _ _)
   refine (e3.and hnd).imp_of_mem (fun {a b} ha hb hab=>?_)
   have h1:=hm a ha
   have h2:=hm b hb
   have:=hdis a b h1.1 h2.1 (by rw [h1.2,h2.2]) hab.2
   have:=hab.1
   omega
 ·intro j hj
  obtain ⟨s,hs,e⟩:=ha j hj
  obtain ⟨i,hi,rfl⟩:=List.getElem_of_mem hs
  refine ⟨H[i],List.getElem_mem (by omega),?_⟩
  exact (hd i (by omega) hi).2.1.mem_iff.2 (Gk_mem.2 ⟨hj,e.symm⟩)
def SRowF (w:World) (base:Nat) (a:Option Addr) (S:List ((Int×Int×Int)×List (Int×Int×Int))):Prop :=
 ∀i (h:i<S.length),∃g sa sc,a=some ⟨g,0,none⟩∧base≤g∧w.cell? ⟨g,i*4,none⟩=some (.int .i64 S[i].1.1)∧w.cell? ⟨g,i*4+1,none⟩=some (.int .i64 S[i].1.2.1)∧w.cell? ⟨g,i*4+2,none⟩=some (.int .i64 S[i].1.2.2)∧w.cell? ⟨g,i*4+3,none⟩=some (.slice sa S[i].2.length sc)∧TRow w sa S[i].2∧∀q,sa=some ⟨q,0,none⟩→base≤q
theorem SRowF.kept {w w':World} {base:Nat} {a:Option Addr} {S:List ((Int×Int×Int)×List (Int×Int×Int))} (h:SRowF w base a S) (hb:Bl w w'):SRowF w' base a S:=fun i hi=>by
 obtain ⟨g,sa,sc,e,hl,c0,c1,c2,c3,ht,hq⟩:=h i hi
 exact ⟨g,sa,sc,e,hl,Qa hb c0,Qa hb c1,Qa hb c2,Qa hb c3,ht.kept hb,hq⟩
theorem SRowF.low {w:World} {base base':Nat} {a:Option Addr} {S:List ((Int×Int×Int)×List (Int×Int×Int))} (h:SRowF w base a S) (hl:base'≤base):SRowF w base' a S:=fun i hi=>by
 obtain ⟨g,sa,sc,e,h1,c0,c1,c2,c3,ht,hq⟩:=h i hi
 exact ⟨g,sa,sc,e,by omega,c0,c1,c2,c3,ht,fun q e=>by have:=hq q e;omega⟩
theorem SRowF.set {w:World} {base:Nat} {a:Option Addr} {S:List ((Int×Int×Int)×List (Int×Int×Int))} (h:SRowF w base a S) {p:Addr} {u:Value} (hp:p.block<base):SRowF (w.setCell p u) base a S:=fun i hi=>by
 obtain ⟨g,sa,sc,e,h1,c0,c1,c2,c3,ht,hq⟩:=h i hi
 exact ⟨g,sa,sc,e,h1,Qj c0 (by dsimp only;omega),Qj c1 (by dsimp only;omega),Qj c2 (by dsimp only;omega),Qj c3 (by dsimp only;omega),ht.far (fun q e=>by have:=hq q e;omega),hq⟩
theorem srow_of {w:World} {base:Nat} {v:Value} {L:List (Int×Int×Int)} {H:List ((Int×Int×Int)×List Nat)} {R:List ((Int×Int×Int)×Value)} (ho:w.ownsRow base 102 4 v R.length (rowS R)) (hl:R.length=H.length) (ht:∀i (hi:i<R.length) (hj:i<H.length),R[i].1=H[i].1∧TrisAt w R[i].2 (tgn L H[i].2)) (hf:∀s∈R,∀q,s.2.ownBlock=some q→base≤q):∃a c,v=.slice a H.length c∧SRowF w base a (H.map fun s=>(s.1,tgn L s.2)):=by
 rcases ho.2 with ⟨rfl,h0⟩|⟨g,cap,cur,rfl,hgb,_⟩
 ·refine ⟨none,0,by rw [←hl,h0],fun i hi=>?_⟩
  rw [List.length_map] at hi
  omega
 ·refine ⟨some ⟨g,0,none⟩,cap,by rw [hl],fun i hi=>?_⟩
  have hi2:i<H.length:=by simpa using hi
  have hi3:i<R.length:=by omega
  obtain ⟨e1,a,c,e2,e3⟩:=ht i hi3 hi2
  obtain ⟨r0,r1,r2,r3⟩:=rowS_at R i hi3
  rw [List.getElem_map]
  refine ⟨g,a,c,rfl,hgb,?_,?_,?_,?_,e3,fun q eq=>hf R[i] (List.getElem_mem hi3) q (by rw [e2,eq];rfl)⟩
  ·rw [ho.cellAt (i*4) (by omega),r0,e1]
  ·rw [ho.cellAt (i*4+1) (by omega),r1,e1]
  ·rw [ho.cellAt (i*4+2) (by omega),r2,e1]
  ·rw [ho.cellAt (i*4+3) (by omega),r3,e2]
theorem stacks_any (w:World) (ad pa:Option Addr) (cc ra rk gm cm pc:Nat) (L pl:List (Int×Int×Int)) (rv:Value) (h:Nat→Int) (hl:pl.length=L.length) (hT:TRow w ad L) (hP:TRow w pa pl) (h0:0<L.length) (hn:L.length≤300) (hS:∀W,Bl w W→SortsN W L.length rv h) (hdis:∀i j,i<pl.length→j<pl.length→pl.getD i (0,0,0)=pl.getD j (0,0,0)→i≠j→h i≠h j) :
  Calls Tryz.prog 74 #[pileV ad L.length cc ra rk gm cm pa pc,rv] w fun e w'=>∃a c H,e=.returned (.slice a H.length c)∧Heap L.length (plcA pl) h H∧SRowF w' w.heap.size a (H.map fun s=>(s.1,tgn L s.2))∧Bl w w':=by
 obtain ⟨n,hnn⟩:∃n,n=L.length:=⟨_,rfl⟩
 unfold pileV
 rw [←hnn]
 have HN:Hid (n=L.length∧pl.length=n):=⟨hnn,by omega⟩
 have hbA:Bl w (w.alloc (.cells #[.slice ad n cc,.map (some ra),.map (some rk),.slice (some ⟨gm,0,none⟩) n cm,.slice pa n pc] 70)):=Qb (Qc _)
 have hSN:=hS _ hbA
 have CP:Hid (Calls Tryz.prog 109 #[.agg #[.slice ad n cc,.map (some ra),.map (some rk),.slice (some ⟨gm,0,none⟩) n cm,.slice pa n pc]] (w.alloc (.cells #[.slice ad n cc,.map (some ra),.map (some rk),.slice (some ⟨gm,0,none⟩) n cm,.slice pa n pc] 70)) fun e w'=>∃g m c S,e=.returned (.slice (some ⟨g,0,none⟩) m c)∧PiledTo (w.alloc (.cells #[.slice ad n cc,.map (some ra),.map (some rk),.slice (some ⟨gm,0,none⟩) n cm,.slice pa n pc] 70)) w' pl g m c S):=by
  have:=piled_any (w.alloc (.cells #[.slice ad n cc,.map (some ra),.map (some rk),.slice (some ⟨gm,0,none⟩) n cm,.slice pa n pc] 70)) ad (some ⟨gm,0,none⟩) pa n cc n cm pc (some ra) (some rk) pl (hP.kept hbA) (by omega) (by omega)
  rw [hl,←hnn] at this
  exact this
 have HT:Hid (TRow w ad L∧TRow w pa pl):=⟨hT,hP⟩
 have HD:Hid (∀i j,i<pl.length→j<pl.length→pl.getD i (0,0,0)=pl.getD j (0,0,0)→i≠j→h i≠h j):=hdis
 have HSN:Hid (SortsN (w.alloc (.cells #[.slice ad n cc,.map (some ra),.map (some rk),.slice (some ⟨gm,0,none⟩) n cm,.slice pa n pc] 70)) L.length rv h):=hSN
 obtain ⟨i98,hi1,hi2,hi3,hi4⟩:=info_parts inf98
 have HI:Hid (Tryz.prog.info? 102=some i98∧i98.zero=some (.agg #[.int .i64 0,.int .i64 0,.int .i64 0,.slice none 0 0])∧i98.size=4∧i98.bytes=48):=⟨hi1,hi2,hi3,hi4⟩
 have hn3:n≤300:=by omega
 have hn0:0<n:=by omega
 clear hT hP hS hdis hSN hbA hl hnn h0 hn hi1 hi2 hi3 hi4
 go_enter Tryz.func74,Tryz.ntmps74
 go_wp2_with (go_at_call 109;refine CP.out.mono ?_;rintro e w1 ⟨g,m,c,S,rfl,hPT⟩;obtain rfl:=hPT.len;have HPT:Hid (PiledTo (w.alloc (.cells #[.slice ad n cc,.map (some ra),.map (some rk),.slice (some ⟨gm,0,none⟩) n cm,.slice pa n pc] 70)) w1 pl g S.length c S):=hPT;clear hPT)
 obtain ⟨wA,hwA⟩:∃wA,wA=w.alloc (.cells #[.slice ad n cc,.map (some ra),.map (some rk),.slice (some ⟨gm,0,none⟩) n cm,.slice pa n pc] 70):=⟨_,rfl⟩
 have hzA:wA.heap.size=w.heap.size+1:=by rw [hwA];simp
 have HBX:Hid (wA.cell? ⟨w.heap.size,0,none⟩=some (.slice ad n cc)∧wA.cell? ⟨w.heap.size,1,none⟩=some (.map (some ra))∧wA.cell? ⟨w.heap.size,2,none⟩=some (.map (some rk))∧wA.cell? ⟨w.heap.size,3,none⟩=some (.slice (some ⟨gm,0,none⟩) n cm)∧wA.cell? ⟨w.heap.size,4,none⟩=some (.slice pa n pc)):=by
  rw [hwA]
  exact ⟨by simp [go_sem],by simp [go_sem],by simp [go_sem],by simp [go_sem],by simp [go_sem]⟩
 have HBA:Hid (Bl w wA):=by rw [hwA];exact Qb (Qc _)
 rw [←hwA] at HPT HSN
 obtain ⟨z,hz⟩:∃z,z=w1.heap.size:=⟨_,rfl⟩
 have hgk:∀e,(Gn pl pl.length e).length=(Gk pl e).length:=fun e=>by rw [Gn_eq,List.length_map];rfl
 have HFR:Hid (Far wA z g S∧wA.heap.size≤z∧(∀s∈S,Gk pl s.1≠[])∧S.length≤300):=by
  have hgs:g<w1.heap.size:=by
   obtain ⟨s,hs,_⟩:=HPT.out.all 0 (by have:=HN.out.2;omega)
   exact bk (HPT.out.row 0 (List.length_pos_of_mem hs))
  refine ⟨⟨by rw [hz];exact hgs,fun s hs=>?_,HPT.out.far⟩,by rw [hz];exact HPT.out.b.size,fun s hs e=>?_,?_⟩
  ·have h1:=(HPT.out.own s hs).lt s.2.1 rfl
   exact ⟨by rw [hz];exact h1.2,h1.1,HPT.out.off s hs⟩
  ·refine HPT.out.ne s hs ?_
   have:=hgk s.1
   rw [e] at this
   exact List.length_eq_zero_iff.1 this
  ·have h1:=sub_lenT (S.map (fun s=>s.1)) pl (by
    refine List.pairwise_map.2 (HPT.out.ord.imp ?_)
    intro a b h e
    exact J3 b.1 (by rw [e] at h;exact h)) (fun e he=>by
    obtain ⟨s,hs,rfl⟩:=List.mem_map.1 he
    have hne:=HPT.out.ne s hs
    rw [Gn_eq] at hne
    obtain ⟨k,hk⟩:=List.exists_mem_of_ne_nil (Gk pl s.1) (fun e=>hne (by show List.map _ (Gk pl s.1)=[];rw [e];rfl))
    have:=Gk_mem.1 hk
    rw [←this.2,List.getD_eq_getElem?_getD,List.getElem?_eq_getElem this.1]
    exact List.getElem_mem _)
   rw [List.length_map] at h1
   have:=HN.out.2
   omega
 have HS0:Hid (STW wA w1 z g (.slice none 0 0) L pl h S 0 [] []):=by
  have:STW wA w1 z g (.slice none 0 0) L pl h S 0 [] []:=by
   refine ⟨fun i hi=>?_,fun i hi _=>own_nw (HPT.out.own S[i] (List.getElem_mem hi)),⟨by simp [rowS],Or.inl ⟨rfl,rfl⟩⟩,⟨rfl,rfl⟩,fun i hi=>by simp at hi,fun s hs=>by simp at hs,fun i hi=>by simp at hi,HPT.out.b,by omega⟩
   rw [HPT.out.row i hi,hgk]
  exact this
 clear hwA hz
 go_wp2
 go_loopg [5,11] S.length (fun gk s5 s11 wx=>∃(k:Nat) (v:Value) (H:List ((Int×Int×Int)×List Nat)) (R:List ((Int×Int×Int)×Value)),k≤S.length∧gk=S.length-k∧v=s5∧s11=.int .i64 (k:Int)∧STW wA wx z g v L pl h S k H R)
 case atStart=>exact ⟨0,_,[],[],by omega,rfl,rfl,rfl,HS0.out⟩
 case round =>
  clear HS0
  obtain ⟨k,v,H,R,hk,rfl,rfl,rfl,hW⟩:=hrel
  have HW:Hid (STW wA wr z g v L pl h S k H R):=hW
  clear hW
  by_cases h1:k<S.length
  ·have i1:(k:Int)<(S.length:Int):=by omega
   have i0:(0:Int)≤(k:Int):=by omega
   have c0:=HW.out.row k h1
   have zg:g<wr.heap.size:=bk c0
   have hSk:=HFR.out.1.s S[k] (List.getElem_mem h1)
   have hNe:=HFR.out.2.2.1 S[k] (List.getElem_mem h1)
   have CS:=HSN.out wr S[k].2.1 S[k].2.2 (Gk pl S[k].1) HW.out.b hSk.2.1 hNe (by have:=Gk_len pl S[k].1;have:=HN.out.2;omega) (fun j hj=>by have:=(Gk_mem.1 hj).1;have:=HN.out;omega) (HW.out.left k h1 (Nat.le_refl _))
   obtain ⟨gb,hgb⟩:∃gb,gb=S[k].2.1:=⟨_,rfl⟩
   obtain ⟨cb,hcb⟩:∃cb,cb=S[k].2.2:=⟨_,rfl⟩
   obtain ⟨nb,hnb⟩:∃nb,nb=(Gk pl S[k].1).length:=⟨_,rfl⟩
   rw [←hgb,←hcb,←hnb] at c0 CS
   have HCS:Hid (Calls Tryz.prog 110 #[.slice (some ⟨gb,0,none⟩) nb cb,.func (.func 111) #[rv] #[]] wr fun e w'=>e=.returned (.tuple #[])∧∃R':List Nat,R'.Perm (Gk pl S[k].1)∧Upw h R'∧NW w' gb R'∧wr.grownBy w' (some gb)):=CS
   have HGB:Hid (gb=S[k].2.1∧cb=S[k].2.2∧nb=(Gk pl S[k].1).length):=⟨hgb,hcb,hnb⟩
   clear CS hSk hgb hcb hnb hNe
   go_wp2_with (go_at_call 110;refine HCS.out.mono ?_;rintro e w2 ⟨rfl,R',hp,hs,hN,hg2⟩;have HR':Hid (R'.Perm (Gk pl S[k].1)∧Upw h R'∧NW w2 gb R'∧wr.grownBy w2 (some gb)):=⟨hp,hs,hN,hg2⟩;clear hp hs hN hg2)
   have hSk:=HFR.out.1.s S[k] (List.getElem_mem h1)
   have hNe:=HFR.out.2.2.1 S[k] (List.getElem_mem h1)
   have hb2:Bl wA w2:=HW.out.b.grown HR'.out.2.2.2 HW.out.b.size (fun r e=>by cases e;rw [HGB.out.1];exact hSk.2.1)
   have hbw:Bl w w2:=HBA.out.trans (hb2.mono HBA.out.size)
   have p0:=Qa hb2 HBX.out.1
   have p1:=Qa hb2 HBX.out.2.1
   have p2:=Qa hb2 HBX.out.2.2.1
   have p3:=Qa hb2 HBX.out.2.2.2.1
   have p4:=Qa hb2 HBX.out.2.2.2.2
   have hRl:R'.length=nb:=by rw [HGB.out.2.2];exact HR'.out.1.length_eq
   have hRne:R'≠[]:=fun e=>hNe (by have:=HR'.out.1;rw [e] at this;exact this.symm.eq_nil)
   have hRp:0<R'.length:=List.length_pos_iff.2 hRne
   obtain ⟨j,hj⟩:∃j,j=R'[0]:=⟨_,rfl⟩
   have r0:=(HR'.out.2.2.1 0 hRp).1
   have hjm:=Gk_mem.1 (HR'.out.1.mem_iff.1 (List.getElem_mem hRp))
   rw [←hj] at r0 hjm
   obtain ⟨gp,rfl,t0,t1,t2⟩:=(HT.out.2.kept hbw) j hjm.1
   have hpj:pl[j]=S[k].1:=by rw [←hjm.2,List.getD_eq_getElem?_getD,List.getElem?_eq_getElem hjm.1];rfl
   rw [hpj] at t0 t1 t2
   obtain ⟨x,hx⟩:∃x,x=S[k].1.1:=⟨_,rfl⟩
   obtain ⟨y,hy⟩:∃y,y=S[k].1.2.1:=⟨_,rfl⟩
   obtain ⟨t,ht⟩:∃t,t=S[k].1.2.2:=⟨_,rfl⟩
   rw [←hx] at t0
   rw [←hy] at t1
   rw [←ht] at t2
   have HXY:Hid (x=S[k].1.1∧y=S[k].1.2.1∧t=S[k].1.2.2):=⟨hx,hy,ht⟩
   have j1:(j:Int)<(n:Int):=by have:=HN.out.2;have:=hjm.1;omega
   have j0:(0:Int)≤(j:Int):=by omega
   have nb0:(0:Int)<(nb:Int):=by omega
   have nbp:0<nb:=by omega
   have zp:w.heap.size<w2.heap.size:=bk p0
   have zb:gb<w2.heap.size:=bk r0
   have zt:gp<w2.heap.size:=bk t0
   have CN:Hid (∀W:World,Bl w2 W→Calls Tryz.prog 112 #[.agg #[.slice ad n cc,.map (some ra),.map (some rk),.slice (some ⟨gm,0,none⟩) n cm,.slice (some ⟨gp,0,none⟩) n pc],.slice (some ⟨gb,0,none⟩) nb cb] W fun e w'=>∃a c,e=.returned (.slice a nb c)∧TRow w' a (tgn L R')∧Bl W w'∧∀g,a=some ⟨g,0,none⟩→W.heap.size≤g∧g<w'.heap.size):=fun W hW=>by
    have:=named_any W ad cc ra rk gm cm pc gb 0 cb (some ⟨gp,0,none⟩) L R' ((HT.out.1.kept hbw).kept hW) (fun i hi=>by rw [Nat.zero_add];exact Qa hW (HR'.out.2.2.1 i hi).1) (fun j hj=>by have:=(Gk_mem.1 (HR'.out.1.mem_iff.1 hj)).1;have:=HN.out;omega) (by have:=HN.out;have:=Gk_len pl S[k].1;have:=HGB.out.2.2;omega) (by have:=HN.out.1;omega)
    unfold pileV at this
    rw [←HN.out.1,hRl] at this
    exact this
   have HRN:Hid (R'≠[]∧R'.length=nb):=⟨hRne,hRl⟩
   have HRk:Hid (R.length=k):=HW.out.len.1
   have hz2:z≤w2.heap.size:=Nat.le_trans HW.out.zz HR'.out.2.2.2.size
   have HOW:Hid (w2.ownsRow z 102 4 v R.length (rowS R)):=HW.out.own.kept HR'.out.2.2.2 (by
    cases hu:v.ownBlock with
    | none=>exact Or.inl rfl
    | some q =>
     refine Or.inr (fun e1=>?_)
     have h5:=(HW.out.own.lt q hu).1
     have h6:=HGB.out.1
     have h7:=hSk.1
     simp at e1
     omega)
   have hk3:k≤300:=by have:=HFR.out.2.2.2;omega
   have HNV:Hid (∀b,b<z→some b≠v.ownBlock):=fun b hb e=>by have:=(HW.out.own.lt b e.symm).1;omega
   have zz0:w.heap.size<z:=by have:=HFR.out.2.1;omega
   have zz1:gb<z:=by rw [HGB.out.1];exact hSk.1
   have zz2:gp<z:=by
    obtain ⟨g',e9,u0,_⟩:=HT.out.2 j hjm.1
    cases e9
    have u9:gp<w.heap.size:=bk u0
    omega
   clear hx hy ht hpj hjm hRl hRne hRp hj hb2 hbw hSk hNe
   go_region_held3 (fun w'=>w'.cell? ⟨w.heap.size,0,none⟩=some (.slice ad n cc)∧w'.cell? ⟨w.heap.size,1,none⟩=some (.map (some ra))∧w'.cell? ⟨w.heap.size,2,none⟩=some (.map (some rk))∧w'.cell? ⟨w.heap.size,3,none⟩=some (.slice (some ⟨gm,0,none⟩) n cm)∧w'.cell? ⟨w.heap.size,4,none⟩=some (.slice (some ⟨gp,0,none⟩) n pc)∧w'.cell? ⟨gb,0,none⟩=some (.int .i64 (j:Int))∧w'.cell? ⟨gp,j*3,none⟩=some (.int .i64 x)∧w'.cell? ⟨gp,j*3+1,none⟩=some (.int .i64 y)∧w'.cell? ⟨gp,j*3+2,none⟩=some (.int .i64 t))
    ((refine ⟨?_,?_,?_,?_,?_,?_,?_,?_,?_⟩<;>(first|(with_reducible (repeat (first|assumption|refine Qh ?_|refine Qi ?_));done)|(simp [go_sem];done))))
    (first
     | (go_at_call 112;refine (CN.out _ (by with_reducible repeat (first | exact Qc _ | refine Qf ?_))).mono ?_;rintro e w8 ⟨a8,c8,rfl,hT8,hb8,hf8⟩;have hq8:Bl w2 w8:=Qe (by with_reducible repeat (first | exact Qc _ | refine Qf ?_)) hb8;have HQ:Hid (TRow w8 a8 (tgn L R')∧Bl w2 w8∧∀g,a8=some ⟨g,0,none⟩→w2.heap.size≤g∧g<w8.heap.size):=⟨hT8,hq8,hf8⟩;have p0_8:=Qa hq8 p0;have p1_8:=Qa hq8 p1;have p2_8:=Qa hq8 p2;have p3_8:=Qa hq8 p3;have p4_8:=Qa hq8 p4;have r0_8:=Qa hq8 r0;have t0_8:=Qa hq8 t0;have t1_8:=Qa hq8 t1;have t2_8:=Qa hq8 t2;have hz8:z≤w8.heap.size:=Nat.le_trans hz2 hq8.size;clear hT8 hb8 hf8 hq8)
     | (refine step_append_lies _ (by rfl) (.tmp 19) (.tmp 31) 27 (by rfl) z 102 i98 (.agg #[.int .i64 0,.int .i64 0,.int .i64 0,.slice none 0 0]) 4 48 Tryz.underlying27 HI.out.1 HI.out.2.1 HI.out.2.2.1 HI.out.2.2.2 rfl (by decide) v R.length (rowS R) (by rfl) (Qs HOW.out (Qb HQ.out.2.1)) ⟨w8.heap.size,0,none⟩ 1 1 [.int .i64 x,.int .i64 y,.int .i64 t,.slice a8 nb c8] (by rfl) rfl (cell_four _ _ _ _ _ _) (four_one _ _ _ _ _ _) (by decide) (by have:=HRk.out;unfold maxLen;omega) (by have:=HRk.out;omega) (by simp;omega) (w8.heap.size+1) (by simp) ?_;intro gq cap W3 hown3 hgrow hat hlt;have s0:=hgrow.cell (Qh p0_8) (HNV.out _ zz0);have s1:=hgrow.cell (Qh p1_8) (HNV.out _ zz0);have s2:=hgrow.cell (Qh p2_8) (HNV.out _ zz0);have s3:=hgrow.cell (Qh p3_8) (HNV.out _ zz0);have s4:=hgrow.cell (Qh p4_8) (HNV.out _ zz0);have s5:=hgrow.cell (Qh r0_8) (HNV.out _ zz1);have s6:=hgrow.cell (Qh t0_8) (HNV.out _ zz2);have s7:=hgrow.cell (Qh t1_8) (HNV.out _ zz2);have s8:=hgrow.cell (Qh t2_8) (HNV.out _ zz2);have HW3:Hid (STW wA W3 z g (.slice (some ⟨gq,0,none⟩) (R.length+1) cap) L pl h S (k+1) (H++[(S[k].1,R')]) (R++[(S[k].1,.slice a8 nb c8)])):=(HW.out.next h1 HFR.out.1 HFR.out.2.1 (HGB.out.1 ▸ HR'.out.2.2.2) HR'.out.1 HR'.out.2.1 HQ.out.2.1 HQ.out.1 (by rw [←HRN.out.2];simp [tgn]) HQ.out.2.2 hgrow (by rw [←HXY.out.1,←HXY.out.2.1,←HXY.out.2.2];exact hown3) hat HRN.out.1);clear hown3 hgrow hat))
   all_goals
    go_wp2
    go_roundg (S.length-(k+1))
    case measure=>omega
    case rel=>exact ⟨k+1,_,_,_,by omega,rfl,rfl,by go_num,HW3.out⟩
  ·have i1:¬(k:Int)<(S.length:Int):=by omega
   obtain rfl:k=S.length:=by omega
   obtain ⟨a,c9,rfl,hSR⟩:=srow_of HW.out.own (by rw [HW.out.len.1,HW.out.len.2]) HW.out.tris (fun s hs q hq=>(HW.out.off s hs q hq).1)
   have HE:Hid (Heap n (plcA pl) h H∧SRowF wr w.heap.size a (H.map fun s=>(s.1,tgn L s.2))∧Bl w wr):=by
    refine ⟨?_,hSR.low (by have:=HFR.out.2.1;omega),HBA.out.trans (HW.out.b.mono HBA.out.size)⟩
    have:=heap_of (_L:=L) HW.out.len.2 HW.out.done HPT.out.ord HFR.out.2.2.1 HPT.out.all HD.out
    rw [HN.out.2] at this
    exact this
   clear hSR
   go_wp2
   go_ret
   exact ⟨a,c9,H,rfl,HE.out⟩
end Go.Proofs.YtgpjaecgkkgehaaGreatDoor
namespace Go.Proofs.YtgpjaecgkkgehaaGreatDoor
open Go.RowKit
structure Ordr (w:World) (bh bf gh oh ch gf of_ cf:Nat) (hs:List Int) (fs:List Nat):Prop where
 h:w.cell? ⟨bh,0,none⟩=some (.slice (some ⟨gh,oh,none⟩) hs.length ch)
 f:w.cell? ⟨bf,0,none⟩=some (.slice (some ⟨gf,of_,none⟩) fs.length cf)
 hr:Row w (some ⟨gh,oh,none⟩) hs
 fr:NRow w gf of_ fs
theorem Ordr.kept {w w':World} {bh bf gh oh ch gf of_ cf:Nat} {hs:List Int} {fs:List Nat} (o:Ordr w bh bf gh oh ch gf of_ cf hs fs) (hb:Bl w w'):Ordr w' bh bf gh oh ch gf of_ cf hs fs:=⟨Qa hb o.h,Qa hb o.f,o.hr.kept hb,o.fr.kept hb⟩
def hgt (hs:List Int) (fs:List Nat) (a:Nat):Int:=hs.getD (fs.getD a 0) 0
theorem row_get {w:World} {g o:Nat} {hs:List Int} (h:Row w (some ⟨g,o,none⟩) hs) {i:Nat} (hi:i<hs.length):w.cell? ⟨g,o+i,none⟩=some (.int .i64 (hs.getD i 0)):=by
 obtain ⟨b,off,e,hc⟩:=h i hi
 cases e
 rw [hc,List.getD_eq_getElem?_getD,List.getElem?_eq_getElem hi]
 rfl
theorem above_any (w:World) (bh bf gh oh ch gf of_ cf a b:Nat) (hs:List Int) (fs:List Nat) (o:Ordr w bh bf gh oh ch gf of_ cf hs fs) (ha:a<fs.length) (hb:b<fs.length) (hf:∀j∈fs,j<hs.length) (_h1:fs.length≤300) (_h2:hs.length≤300) :
  Calls Tryz.prog 32 #[.int .i64 (a:Int),.int .i64 (b:Int),.pointer (some ⟨bh,0,none⟩),.pointer (some ⟨bf,0,none⟩)] w fun e w'=>e=.returned (.bool (decide (hgt hs fs b<hgt hs fs a)))∧Bl w w':=by
 have p0:=o.h
 have p1:=o.f
 have ra:=o.fr a ha
 have rb:=o.fr b hb
 have ja:=hf fs[a] (List.getElem_mem ha)
 have jb:=hf fs[b] (List.getElem_mem hb)
 have ca:=row_get o.hr ja
 have cb:=row_get o.hr jb
 have ea:hgt hs fs a=hs.getD fs[a] 0:=by
  unfold hgt
  rw [List.getD_eq_getElem?_getD (l:=fs),List.getElem?_eq_getElem ha]
  rfl
 have eb:hgt hs fs b=hs.getD fs[b] 0:=by
  unfold hgt
  rw [List.getD_eq_getElem?_getD (l:=fs),List.getElem?_eq_getElem hb]
  rfl
 rw [ea,eb]
 obtain ⟨x,hx⟩:∃x,x=fs[a]:=⟨_,rfl⟩
 obtain ⟨y,hy⟩:∃y,y=fs[b]:=⟨_,rfl⟩
 rw [←hx] at ra ja ca ⊢
 rw [←hy] at rb jb cb ⊢
 obtain ⟨u,hu⟩:∃u,u=hs.getD x 0:=⟨_,rfl⟩
 obtain ⟨v,hv⟩:∃v,v=hs.getD y 0:=⟨_,rfl⟩
 rw [←hu] at ca ⊢
 rw [←hv] at cb ⊢
 have i1:(a:Int)<(fs.length:Int):=by omega
 have i2:(b:Int)<(fs.length:Int):=by omega
 have i3:(x:Int)<(hs.length:Int):=by omega
 have i4:(y:Int)<(hs.length:Int):=by omega
 have k1:(0:Int)≤(a:Int):=by omega
 have k2:(0:Int)≤(b:Int):=by omega
 have k3:(0:Int)≤(x:Int):=by omega
 have k4:(0:Int)≤(y:Int):=by omega
 have z0:bh<w.heap.size:=bk p0
 have z1:bf<w.heap.size:=bk p1
 have z2:gf<w.heap.size:=bk ra
 have z3:gh<w.heap.size:=bk ca
 clear o hf hx hy hu hv ea eb
 go_enter Tryz.func32,Tryz.ntmps32
 go_wp2
 have kc:=Kin.cells w
 have kn:Nonempty (Kin w):=⟨⟨w,Qc _⟩⟩
 refine Qg (by kernel_rfl) (by kernel_rfl) ?_
 repeat (go_big_quiet_step (fail))
 refine wpQuiet_nil ?_
 intro wq hw'
 obtain ⟨nq,hw''⟩:=hw'
 have hq:Bl w wq:=hw'' ▸ nq.h
 clear hw'' nq kc kn p0 p1 ra rb ca cb
 go_wp2
 go_ret
 exact ⟨rfl,hq⟩
def cmpN (hs:List Int) (fs:List Nat) (a b:Nat):Int:=if hgt hs fs a<hgt hs fs b then -1 else if hgt hs fs b<hgt hs fs a then 1 else 0
theorem orderCompare_any (w:World) (bh bf gh oh ch gf of_ cf a b:Nat) (hs:List Int) (fs:List Nat) (o:Ordr w bh bf gh oh ch gf of_ cf hs fs) (ha:a<fs.length) (hb:b<fs.length) (hf:∀j∈fs,j<hs.length) (h1:fs.length≤300) (h2:hs.length≤300) :
  Calls Tryz.prog 111 #[.func (.func 32) #[] #[.pointer (some ⟨bh,0,none⟩),.pointer (some ⟨bf,0,none⟩)],.int .i64 (a:Int),.int .i64 (b:Int)] w fun e w'=>e=.returned (.int .i64 (cmpN hs fs a b))∧Bl w w':=by
 have C1:Hid (∀W:World,Bl w W→Calls Tryz.prog 32 #[.int .i64 (b:Int),.int .i64 (a:Int),.pointer (some ⟨bh,0,none⟩),.pointer (some ⟨bf,0,none⟩)] W fun e w'=>e=.returned (.bool (decide (hgt hs fs a<hgt hs fs b)))∧Bl W w'):=fun W hW=>above_any W bh bf gh oh ch gf of_ cf b a hs fs (o.kept hW) hb ha hf h1 h2
 have C2:Hid (∀W:World,Bl w W→Calls Tryz.prog 32 #[.int .i64 (a:Int),.int .i64 (b:Int),.pointer (some ⟨bh,0,none⟩),.pointer (some ⟨bf,0,none⟩)] W fun e w'=>e=.returned (.bool (decide (hgt hs fs b<hgt hs fs a)))∧Bl W w'):=fun W hW=>above_any W bh bf gh oh ch gf of_ cf a b hs fs (o.kept hW) ha hb hf h1 h2
 have HE:Hid (cmpN hs fs a b=if decide (hgt hs fs a<hgt hs fs b)=true then -1 else if decide (hgt hs fs b<hgt hs fs a)=true then 1 else 0):=by
  have:cmpN hs fs a b=if decide (hgt hs fs a<hgt hs fs b)=true then -1 else if decide (hgt hs fs b<hgt hs fs a)=true then 1 else 0:=by simp [cmpN]
  exact this
 obtain ⟨r,hr⟩:∃r,r=cmpN hs fs a b:=⟨_,rfl⟩
 obtain ⟨p,hp⟩:∃p,p=decide (hgt hs fs a<hgt hs fs b):=⟨_,rfl⟩
 obtain ⟨q,hq⟩:∃q,q=decide (hgt hs fs b<hgt hs fs a):=⟨_,rfl⟩
 rw [←hp] at C1 HE
 rw [←hq] at C2 HE
 rw [←hr] at HE ⊢
 clear hp hq hr o hf ha hb h1 h2
 cases p
 ·cases q
  ·have HR:Hid (r=0):=HE.out
   clear HE
   go_enter Tryz.func111,Tryz.ntmps111
   go_wp2_with (first
    | (go_at_call 32;refine (C1.out _ (Qc _)).mono ?_;rintro e w1 ⟨rfl,hb1⟩;have HB1:Hid (Bl w w1):=hb1;clear hb1 C1)
    | (go_at_call 32;refine (C2.out _ HB1.out).mono ?_;rintro e w2 ⟨rfl,hb2⟩;have HB2:Hid (Bl w w2):=Qe HB1.out hb2;clear hb2))
   go_ret
   exact ⟨Ji HR.out.symm,HB2.out⟩
  ·have HR:Hid (r=1):=HE.out
   clear HE
   go_enter Tryz.func111,Tryz.ntmps111
   go_wp2_with (first
    | (go_at_call 32;refine (C1.out _ (Qc _)).mono ?_;rintro e w1 ⟨rfl,hb1⟩;have HB1:Hid (Bl w w1):=hb1;clear hb1 C1)
    | (go_at_call 32;refine (C2.out _ HB1.out).mono ?_;rintro e w2 ⟨rfl,hb2⟩;have HB2:Hid (Bl w w2):=Qe HB1.out hb2;clear hb2))
   go_ret
   exact ⟨Ji HR.out.symm,HB2.out⟩
 ·have HR:Hid (r=-1):=HE.out
  clear HE
  go_enter Tryz.func111,Tryz.ntmps111
  go_wp2_with (go_at_call 32;refine (C1.out _ (Qc _)).mono ?_;rintro e w1 ⟨rfl,hb1⟩;have HB1:Hid (Bl w w1):=hb1;clear hb1)
  go_ret
  exact ⟨Ji HR.out.symm,HB1.out⟩
end Go.Proofs.YtgpjaecgkkgehaaGreatDoor
