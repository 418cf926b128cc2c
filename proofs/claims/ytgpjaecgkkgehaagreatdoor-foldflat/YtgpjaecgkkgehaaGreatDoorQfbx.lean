/- A part of the proof of foldFlat_holds. -/
import Derived.Test.YtgpjaecgkkgehaaGreatDoorQfbj
import Derived.Test.YtgpjaecgkkgehaaGreatDoorQfbn
import Derived.Test.YtgpjaecgkkgehaaGreatDoorQfbm
import Derived.Test.YtgpjaecgkkgehaaGreatDoorQfau
import Derived.Test.YtgpjaecgkkgehaaGreatDoorQfba
import Derived.Test.YtgpjaecgkkgehaaGreatDoorQfaj
import Derived.Test.YtgpjaecgkkgehaaGreatDoorQfal
import Derived.Test.YtgpjaecgkkgehaaGreatDoorQfad
import Derived.Test.YtgpjaecgkkgehaaGreatDoorQfaq
import Derived.Test.YtgpjaecgkkgehaaGreatDoorQfas
import Derived.Deep.AppendLies
import Derived.Laws.OwnMore
import Derived.Test.YtgpjaecgkkgehaaGreatDoorQfag
import Derived.Test.YtgpjaecgkkgehaaGreatDoorQfac
import Derived.Test.YtgpjaecgkkgehaaGreatDoorQfaz
import Derived.Test.YtgpjaecgkkgehaaGreatDoorQfao
import Derived.Test.YtgpjaecgkkgehaaGreatDoorQfan
import Derived.Test.YtgpjaecgkkgehaaGreatDoorQfbc
import Derived.Test.YtgpjaecgkkgehaaGreatDoorQfav
import Derived.Test.YtgpjaecgkkgehaaGreatDoorQfae
import Derived.Deep.DeepCutAuto
import Derived.Test.YtgpjaecgkkgehaaGreatDoorQfbf
import Derived.Test.YtgpjaecgkkgehaaGreatDoorQfbk
import Derived.Maps.AppendAt
import Derived.Test.YtgpjaecgkkgehaaGreatDoorQfbw
namespace Go.Proofs.YtgpjaecgkkgehaaGreatDoor
open Go.RowKit Go.Shelf Go.ChangeMaps
def Upw (h:Nat→Int) (R:List Nat):Prop:=R.Pairwise (fun a b=>¬ h b<h a)
def plcA (pl:List (Int×Int×Int)) (k:Nat):Int×Int×Int:=pl.getD k (0,0,0)
def NW (w:World) (g:Nat) (R:List Nat):Prop := ∀ i (h:i<R.length),w.cell? ⟨g,i,none⟩=some (.int .i64 ((R[i]:Nat):Int))∧w.frozen? ⟨g,i,none⟩=false
theorem NW.kept {w w':World} {g:Nat} {R:List Nat} (h:NW w g R) (hb:Below w.heap.size w w'):NW w' g R:=fun i hi=>by
 obtain ⟨h1,h2⟩:=h i hi
 exact ⟨cl_kept hb h1,(hb.frozen (World.block_lt_of_cell? _ _ h1)).trans h2⟩
theorem NW.grown {w w':World} {g:Nat} {R:List Nat} {row:Option Nat} (h:NW w g R) (hg:w.grownBy w' row) (hn:some g≠row):NW w' g R:=fun i hi=>by
 obtain ⟨h1,h2⟩:=h i hi
 exact ⟨hg.cell h1 hn,(World.frozen?_of_block (a:=⟨g,i,none⟩) (hg.block g (World.block_lt_of_cell? _ _ h1) hn)).trans h2⟩
def SortsN (w:World) (N:Nat) (rv:Value) (h:Nat→Int):Prop := ∀ (W:World) (g cap:Nat) (R:List Nat),Below w.heap.size w W→w.heap.size≤g→R≠[]→R.length≤300→(∀ j∈R,j<N)→NW W g R →
 Calls Tryz.prog 110 #[.slice (some ⟨g,0,none⟩) R.length cap,.func (.func 111) #[rv] #[]] W fun e w'=>e=.returned (.tuple #[])∧∃ R':List Nat,R'.Perm R∧Upw h R'∧NW w' g R'∧W.grownBy w' (some g)
def Gk (pl:List (Int×Int×Int)) (e:Int×Int×Int):List Nat:=(List.range pl.length).filter fun k=>decide (pl.getD k (0,0,0)=e)
theorem Gn_eq (pl:List (Int×Int×Int)):∀ i e,Gn pl i e=((List.range i).filter fun k=>decide (pl.getD k (0,0,0)=e)).map (fun k:Nat=>(k:Int))
 | 0,e=>by simp [Gn]
 | i+1,e=>by
  unfold Gn
  rw [List.range_succ,List.filter_append,List.map_append,← Gn_eq pl i e]
  by_cases q:e=pl.getD i (0,0,0)
  ·rw [if_pos q,← q]
   simp [q]
  ·rw [if_neg q]
   have q2:¬ pl.getD i (0,0,0)=e:=fun h=>q h.symm
   simp only [List.filter_cons,List.filter_nil,q2,decide_false,Bool.false_eq_true,if_false,List.map_nil,List.append_nil]
theorem Gk_mem {pl:List (Int×Int×Int)} {e:Int×Int×Int} {k:Nat}:k∈Gk pl e↔k<pl.length∧pl.getD k (0,0,0)=e:=by
 unfold Gk
 rw [List.mem_filter,List.mem_range,decide_eq_true_eq]
theorem Gk_len (pl:List (Int×Int×Int)) (e:Int×Int×Int):(Gk pl e).length≤pl.length:=by
 have:=List.length_filter_le (fun k=>decide (pl.getD k (0,0,0)=e)) (List.range pl.length)
 rw [List.length_range] at this
 exact this
theorem Gk_nodup (pl:List (Int×Int×Int)) (e:Int×Int×Int):(Gk pl e).Nodup:=List.Pairwise.filter _ List.nodup_range
theorem own_nw {w:World} {base g c:Nat} {pl:List (Int×Int×Int)} {e:Int×Int×Int} (h:w.ownsRow base 3 1 (.slice (some ⟨g,0,none⟩) (Gn pl pl.length e).length c) (Gn pl pl.length e).length ((Gn pl pl.length e).map (Value.int .i64))):NW w g (Gk pl e):=fun i hi=>by
 have hl:(Gn pl pl.length e).length=(Gk pl e).length:=by rw [Gn_eq,List.length_map];rfl
 have hc:=h.cellAt i (by omega)
 have e1:(Gn pl pl.length e)=(Gk pl e).map (fun k:Nat=>(k:Int)):=Gn_eq pl pl.length e
 refine ⟨?_, ?_⟩
 ·rw [hc,e1]
  simp [hi]
 ·rcases h.2 with ⟨h1,_⟩ | ⟨g',cap,cur,h1,_,h3,_⟩
  ·cases h1
  ·cases h1
   simp [World.frozen?,h3]
theorem inf98:(Tryz.prog.info? 102).map (fun i=>(i.zero,i.size,i.bytes))=some (some (.agg #[.int .i64 0,.int .i64 0,.int .i64 0,.slice none 0 0]),4,48):=by kernel_rfl
theorem cell_four (w:World) (a b c d:Value) (T:TypeId):∀ j u,([a,b,c,d])[j]?=some u→(w.alloc (.cells #[a,b,c,d] T)).cell? ((⟨w.heap.size,0,none⟩:Addr).add j)=some u:=by
 intro j u hu
 match j,hu with
 | 0,hu=>simp at hu;subst hu;simp [Addr.add,go_sem]
 | 1,hu=>simp at hu;subst hu;simp [Addr.add,go_sem]
 | 2,hu=>simp at hu;subst hu;simp [Addr.add,go_sem]
 | 3,hu=>simp at hu;subst hu;simp [Addr.add,go_sem]
structure Far (wA:World) (z g:Nat) (S:List ((Int×Int×Int)×Nat×Nat)):Prop where
 lt:g<z
 s:∀ s∈S,s.2.1<z∧wA.heap.size≤s.2.1∧s.2.1≠g
 far:S.Pairwise (fun x y=>x.2.1≠y.2.1)
theorem Far.ne {wA:World} {z g:Nat} {S:List ((Int×Int×Int)×Nat×Nat)} (h:Far wA z g S) {i k:Nat} (hi:i<S.length) (hk:k<S.length) (hne:i≠k):S[i].2.1≠S[k].2.1:=by
 have hp:=List.pairwise_iff_getElem.1 h.far
 rcases Nat.lt_or_ge i k with q | q
 ·exact hp i k hi hk q
 ·exact (hp k i hk hi (by omega)).symm
structure STW (wA wx:World) (z g:Nat) (v:Value) (L pl:List (Int×Int×Int)) (h:Nat→Int) (S:List ((Int×Int×Int)×Nat×Nat)) (k:Nat) (H:List ((Int×Int×Int)×List Nat)) (R:List ((Int×Int×Int)×Value)):Prop where
 row:∀ i (hi:i<S.length),wx.cell? ⟨g,i,none⟩=some (.slice (some ⟨S[i].2.1,0,none⟩) (Gk pl S[i].1).length S[i].2.2)
 left:∀ i (hi:i<S.length),k≤i→NW wx S[i].2.1 (Gk pl S[i].1)
 own:wx.ownsRow z 102 4 v R.length (rowS R)
 len:R.length=k∧H.length=k
 tris:∀ i (hi:i<R.length) (hj:i<H.length),R[i].1=H[i].1∧TrisAt wx R[i].2 (tgn L H[i].2)
 off:∀ s∈R,∀ q,s.2.ownBlock=some q→z≤q∧q<wx.heap.size∧v.ownBlock≠some q
 done:∀ i (hi:i<H.length) (hj:i<S.length),H[i].1=S[i].1∧H[i].2.Perm (Gk pl S[i].1)∧Upw h H[i].2
 b:Below wA.heap.size wA wx
 zz:z≤wx.heap.size
theorem STW.next {wA wx w2 w8 W3:World} {z g k gq cap n8 c8:Nat} {a8:Option Addr} {v:Value} {o:Obj} {L pl:List (Int×Int×Int)} {hh:Nat→Int} {S:List ((Int×Int×Int)×Nat×Nat)} {H:List ((Int×Int×Int)×List Nat)} {R:List ((Int×Int×Int)×Value)} {R':List Nat} (h:STW wA wx z g v L pl hh S k H R) (hk:k<S.length) (hF:Far wA z g S) (hzA:wA.heap.size≤z)
  (hg2:wx.grownBy w2 (some S[k].2.1)) (hp:R'.Perm (Gk pl S[k].1)) (hs:Upw hh R') (h8:Below w2.heap.size w2 w8) (ht:TRow w8 a8 (tgn L R')) (hn8:n8=(tgn L R').length) (hf:∀ q,a8=some ⟨q,0,none⟩→w2.heap.size≤q∧q<w8.heap.size)
  (hgrow:(w8.alloc o).grownBy W3 v.ownBlock) (hown:W3.ownsRow z 102 4 (.slice (some ⟨gq,0,none⟩) (R.length+1) cap) (R.length+1) (rowS R ++ [.int .i64 S[k].1.1,.int .i64 S[k].1.2.1,.int .i64 S[k].1.2.2,.slice a8 n8 c8])) (hat:v.ownBlock=some gq∨gq=w8.heap.size+1) (hne:R'≠[]) :
  STW wA W3 z g (.slice (some ⟨gq,0,none⟩) (R.length+1) cap) L pl hh S (k+1) (H ++ [(S[k].1,R')]) (R ++ [(S[k].1,.slice a8 n8 c8)]):=by
 have z2:wx.heap.size≤w2.heap.size:=hg2.size
 have z8:=h8.size
 have z3:=hgrow.size
 have zz:=h.zz
 rw [World.size_alloc] at z3
 have hvz:∀ q,v.ownBlock=some q→z≤q∧q<wx.heap.size:=fun q e=>h.own.lt q e
 have hSk:=hF.s S[k] (List.getElem_mem hk)
 have k8:Below w2.heap.size w2 (w8.alloc o):=bl_alloc h8
 -- what lies below z in a block other than the one that was sorted
 have keep:∀ b q u,b<z→b≠S[k].2.1→wx.cell? ⟨b,q,none⟩=some u→W3.cell? ⟨b,q,none⟩=some u:=fun b q u hb hne hc =>
  hgrow.cell (cl_kept k8 (hg2.cell hc (by simpa using hne))) (fun e=>by have:=(hvz _ e.symm).1;dsimp only at this;omega)
 have hn3:∀ b R0,b<z→b≠S[k].2.1→NW wx b R0→NW W3 b R0:=fun b R0 hb hne hN =>
  ((hN.grown hg2 (by simpa using hne)).kept k8).grown hgrow (fun e=>by have:=(hvz _ e.symm).1;omega)
 refine ⟨fun i hi=>keep _ _ _ hF.lt hSk.2.2.symm (h.row i hi),fun i hi hki=>?_, ?_,⟨by simp [h.len.1],by simp [h.len.2]⟩,fun i hi hj=>?_,fun s hs q hq=>?_,fun i hi hj=>?_, ?_,by omega⟩
 ·exact hn3 _ _ (hF.s _ (List.getElem_mem hi)).1 (hF.ne hi hk (by omega)) (h.left i hi (by omega))
 ·rw [List.length_append,rowS_add]
  exact hown
 ·by_cases q:i<R.length
  ·have q2:i<H.length:=by rw [h.len.2,← h.len.1];exact q
   obtain ⟨t1,t2⟩:=h.tris i q q2
   rw [List.getElem_append_left q,List.getElem_append_left q2]
   refine ⟨t1, ?_⟩
   have o1:=h.off R[i] (List.getElem_mem q)
   have t3:=t2.grown hg2 (fun b e=>by
    have:=(o1 b e).1
    intro e2
    simp at e2
    omega)
   exact (t3.kept k8).grown hgrow (fun b e e2=>(o1 b e).2.2 e2.symm)
  ·have q3:i=R.length:=by rw [List.length_append,List.length_singleton] at hi;omega
   have q4:i=H.length:=by rw [q3,h.len.1,h.len.2]
   have e1:(R ++ [(S[k].1,Value.slice a8 n8 c8)])[i]=(S[k].1,Value.slice a8 n8 c8):=by
    rw [List.getElem_append_right (by omega)]
    simp
   have e2:(H ++ [(S[k].1,R')])[i]=(S[k].1,R'):=by
    rw [List.getElem_append_right (by omega)]
    simp
   rw [e1,e2]
   refine ⟨rfl,a8,c8,by rw [hn8], ?_⟩
   refine (ht.kept (bl_alloc (bl_refl _))).grownN hgrow (fun b e e3=>?_)
   have f1:=(hf b e).1
   have f2:=(hvz b e3.symm).2
   omega
 ·have hgb:z≤gq∧gq<W3.heap.size:=hown.lt gq rfl
  rcases List.mem_append.1 hs with hs | hs
  ·obtain ⟨o1,o2,o3⟩:=h.off s hs q hq
   refine ⟨o1,by omega,fun e=>?_⟩
   simp only [Value.ownBlock,Option.some.injEq] at e
   rcases hat with q1 | q1
   ·exact o3 (by rw [q1,e])
   ·omega
  ·simp at hs
   subst hs
   obtain ⟨q8,e8,_⟩:=ht 0 (by simpa [tgn] using List.length_pos_iff.2 hne)
   obtain ⟨f1,f2⟩:=hf q8 e8
   rw [e8] at hq
   simp only [Value.ownBlock,Option.some.injEq] at hq ⊢
   subst hq
   refine ⟨by omega,by omega,fun e=>?_⟩
   have e9:gq=q8:=by simpa using e
   rcases hat with q1 | q1
   ·have:=(hvz gq q1).2
    omega
   ·omega
 ·by_cases q:i<H.length
  ·rw [List.getElem_append_left q]
   exact h.done i q hj
  ·have q3:i=H.length:=by rw [List.length_append,List.length_singleton] at hi;omega
   have e2:(H ++ [(S[k].1,R')])[i]=(S[k].1,R'):=by
    rw [List.getElem_append_right (by omega)]
    simp
   have q4:i=k:=by rw [q3,h.len.2]
   rw [e2]
   subst q4
   exact ⟨rfl,hp,hs⟩
 ·have b2:Below wA.heap.size wA w2:=h.b.grown hg2 h.b.size (fun r e=>by cases e;exact hSk.2.1)
  have b8:Below wA.heap.size wA (w8.alloc o):=b2.trans (k8.mono b2.size)
  exact b8.grown hgrow b8.size (fun r e=>by have:=(hvz r e).1;omega)
end Go.Proofs.YtgpjaecgkkgehaaGreatDoor
namespace Go.Proofs.YtgpjaecgkkgehaaGreatDoor
open Go.RowKit Go.Shelf Go.ChangeMaps
theorem four_one (a b c:Int) (d:Option Addr) (n m:Nat):∀ u ∈ [Value.int .i64 a,.int .i64 b,.int .i64 c,.slice d n m],u.oneCell'=true:=by
 intro u hu
 simp at hu
 rcases hu with rfl | rfl | rfl | rfl <;> rfl
theorem heap_of {_L pl:List (Int×Int×Int)} {h:Nat→Int} {S:List ((Int×Int×Int)×Nat×Nat)} {H:List ((Int×Int×Int)×List Nat)} (hl:H.length=S.length) (hd:∀ i (hi:i<H.length) (hj:i<S.length),H[i].1=S[i].1∧H[i].2.Perm (Gk pl S[i].1)∧Upw h H[i].2) (ho:S.Pairwise (fun x y=>ltT x.1 y.1)) (hne:∀ s∈S,Gk pl s.1≠[]) (ha:∀ k,k<pl.length→∃ s∈S,s.1=pl.getD k (0,0,0)) (hdis:∀ i j,i<pl.length→j<pl.length→pl.getD i (0,0,0)=pl.getD j (0,0,0)→i≠j→h i≠h j) :
  Heap pl.length (plcA pl) h H:=by
 refine ⟨?_, ?_, ?_⟩
 ·rw [List.pairwise_iff_getElem]
  intro i j hi hj hij
  have hp:=List.pairwise_iff_getElem.1 ho i j (by omega) (by omega) hij
  rw [(hd i hi (by omega)).1,(hd j hj (by omega)).1]
  exact hp
 ·intro s hs
  obtain ⟨i,hi,rfl⟩:=List.getElem_of_mem hs
  obtain ⟨e1,e2,e3⟩:=hd i hi (by omega)
  have hm:∀ j∈H[i].2,j<pl.length∧pl.getD j (0,0,0)=H[i].1:=fun j hj=>by
   rw [e1]
   exact Gk_mem.1 (e2.mem_iff.1 hj)
  refine ⟨fun e=>?_, ?_,hm⟩
  ·rw [e] at e2
   exact hne S[i] (List.getElem_mem _) e2.symm.eq_nil
  ·have hnd:H[i].2.Nodup:=e2.nodup_iff.2 (Gk_nodup _ _)
   refine (e3.and hnd).imp_of_mem (fun {a b} ha hb hab=>?_)
   have h1:=hm a ha
   have h2:=hm b hb
   have:=hdis a b h1.1 h2.1 (by rw [h1.2,h2.2]) hab.2
   have:=hab.1
   omega
 ·intro j hj
  obtain ⟨s,hs,e⟩:=ha j hj
  obtain ⟨i,hi,rfl⟩:=List.getElem_of_mem hs
  refine ⟨H[i],List.getElem_mem (by omega), ?_⟩
  exact (hd i (by omega) hi).2.1.mem_iff.2 (Gk_mem.2 ⟨hj,e.symm⟩)
def SRowF (w:World) (base:Nat) (a:Option Addr) (S:List ((Int×Int×Int)×List (Int×Int×Int))):Prop :=
 ∀ i (h:i<S.length),∃ g sa sc,a=some ⟨g,0,none⟩∧base≤g∧w.cell? ⟨g,i*4,none⟩=some (.int .i64 S[i].1.1)∧w.cell? ⟨g,i*4+1,none⟩=some (.int .i64 S[i].1.2.1)∧w.cell? ⟨g,i*4+2,none⟩=some (.int .i64 S[i].1.2.2)∧w.cell? ⟨g,i*4+3,none⟩=some (.slice sa S[i].2.length sc)∧TRow w sa S[i].2∧∀ q,sa=some ⟨q,0,none⟩→base≤q
theorem SRowF.kept {w w':World} {base:Nat} {a:Option Addr} {S:List ((Int×Int×Int)×List (Int×Int×Int))} (h:SRowF w base a S) (hb:Below w.heap.size w w'):SRowF w' base a S:=fun i hi=>by
 obtain ⟨g,sa,sc,e,hl,c0,c1,c2,c3,ht,hq⟩:=h i hi
 exact ⟨g,sa,sc,e,hl,cl_kept hb c0,cl_kept hb c1,cl_kept hb c2,cl_kept hb c3,ht.kept hb,hq⟩
theorem SRowF.low {w:World} {base base':Nat} {a:Option Addr} {S:List ((Int×Int×Int)×List (Int×Int×Int))} (h:SRowF w base a S) (hl:base'≤base):SRowF w base' a S:=fun i hi=>by
 obtain ⟨g,sa,sc,e,h1,c0,c1,c2,c3,ht,hq⟩:=h i hi
 exact ⟨g,sa,sc,e,by omega,c0,c1,c2,c3,ht,fun q e=>by have:=hq q e;omega⟩
theorem SRowF.set {w:World} {base:Nat} {a:Option Addr} {S:List ((Int×Int×Int)×List (Int×Int×Int))} (h:SRowF w base a S) {p:Addr} {u:Value} (hp:p.block<base):SRowF (w.setCell p u) base a S:=fun i hi=>by
 obtain ⟨g,sa,sc,e,h1,c0,c1,c2,c3,ht,hq⟩:=h i hi
 exact ⟨g,sa,sc,e,h1,set_far c0 (by dsimp only;omega),set_far c1 (by dsimp only;omega),set_far c2 (by dsimp only;omega),set_far c3 (by dsimp only;omega),ht.far (fun q e=>by have:=hq q e;omega),hq⟩
theorem srow_of {w:World} {base:Nat} {v:Value} {L:List (Int×Int×Int)} {H:List ((Int×Int×Int)×List Nat)} {R:List ((Int×Int×Int)×Value)} (ho:w.ownsRow base 102 4 v R.length (rowS R)) (hl:R.length=H.length) (ht:∀ i (hi:i<R.length) (hj:i<H.length),R[i].1=H[i].1∧TrisAt w R[i].2 (tgn L H[i].2)) (hf:∀ s∈R,∀ q,s.2.ownBlock=some q→base≤q):∃ a c,v=.slice a H.length c∧SRowF w base a (H.map fun s=>(s.1,tgn L s.2)):=by
 rcases ho.2 with ⟨rfl,h0⟩ | ⟨g,cap,cur,rfl,hgb,_⟩
 ·refine ⟨none,0,by rw [← hl,h0],fun i hi=>?_⟩
  rw [List.length_map] at hi
  omega
 ·refine ⟨some ⟨g,0,none⟩,cap,by rw [hl],fun i hi=>?_⟩
  have hi2:i<H.length:=by simpa using hi
  have hi3:i<R.length:=by omega
  obtain ⟨e1,a,c,e2,e3⟩:=ht i hi3 hi2
  obtain ⟨r0,r1,r2,r3⟩:=rowS_at R i hi3
  rw [List.getElem_map]
  refine ⟨g,a,c,rfl,hgb, ?_, ?_, ?_, ?_,e3,fun q eq=>hf R[i] (List.getElem_mem hi3) q (by rw [e2,eq];rfl)⟩
  ·rw [ho.cellAt (i*4) (by omega),r0,e1]
  ·rw [ho.cellAt (i*4+1) (by omega),r1,e1]
  ·rw [ho.cellAt (i*4+2) (by omega),r2,e1]
  ·rw [ho.cellAt (i*4+3) (by omega),r3,e2]
set_option maxRecDepth 100000 in
set_option maxHeartbeats 6400000 in
theorem stacks_any (w:World) (ad pa:Option Addr) (cc ra rk gm cm pc:Nat) (L pl:List (Int×Int×Int)) (rv:Value) (h:Nat→Int) (hl:pl.length=L.length) (hT:TRow w ad L) (hP:TRow w pa pl) (h0:0<L.length) (hn:L.length≤300) (hS:∀ W,Below w.heap.size w W→SortsN W L.length rv h) (hdis:∀ i j,i<pl.length→j<pl.length→pl.getD i (0,0,0)=pl.getD j (0,0,0)→i≠j→h i≠h j) :
  Calls Tryz.prog 74 #[pileV ad L.length cc ra rk gm cm pa pc,rv] w fun e w'=>∃ a c H,e=.returned (.slice a H.length c)∧Heap L.length (plcA pl) h H∧SRowF w' w.heap.size a (H.map fun s=>(s.1,tgn L s.2))∧Below w.heap.size w w':=by
 obtain ⟨n,hnn⟩:∃ n,n=L.length:=⟨_,rfl⟩
 unfold pileV
 rw [← hnn]
 have HN:Hid (n=L.length∧pl.length=n):=⟨hnn,by omega⟩
 have hbA:Below w.heap.size w (w.alloc (.cells #[.slice ad n cc,.map (some ra),.map (some rk),.slice (some ⟨gm,0,none⟩) n cm,.slice pa n pc] 70)):=bl_alloc (bl_refl _)
 have hSN:=hS _ hbA
 have CP:Hid (Calls Tryz.prog 109 #[.agg #[.slice ad n cc,.map (some ra),.map (some rk),.slice (some ⟨gm,0,none⟩) n cm,.slice pa n pc]] (w.alloc (.cells #[.slice ad n cc,.map (some ra),.map (some rk),.slice (some ⟨gm,0,none⟩) n cm,.slice pa n pc] 70)) fun e w'=>∃ g m c S,e=.returned (.slice (some ⟨g,0,none⟩) m c)∧PiledTo (w.alloc (.cells #[.slice ad n cc,.map (some ra),.map (some rk),.slice (some ⟨gm,0,none⟩) n cm,.slice pa n pc] 70)) w' pl g m c S):=by
  have:=piled_any (w.alloc (.cells #[.slice ad n cc,.map (some ra),.map (some rk),.slice (some ⟨gm,0,none⟩) n cm,.slice pa n pc] 70)) ad (some ⟨gm,0,none⟩) pa n cc n cm pc (some ra) (some rk) pl (hP.kept hbA) (by omega) (by omega)
  rw [hl,← hnn] at this
  exact this
 have HT:Hid (TRow w ad L∧TRow w pa pl):=⟨hT,hP⟩
 have HD:Hid (∀ i j,i<pl.length→j<pl.length→pl.getD i (0,0,0)=pl.getD j (0,0,0)→i≠j→h i≠h j):=hdis
 have HSN:Hid (SortsN (w.alloc (.cells #[.slice ad n cc,.map (some ra),.map (some rk),.slice (some ⟨gm,0,none⟩) n cm,.slice pa n pc] 70)) L.length rv h):=hSN
 obtain ⟨i98,hi1,hi2,hi3,hi4⟩:=info_parts inf98
 have HI:Hid (Tryz.prog.info? 102=some i98∧i98.zero=some (.agg #[.int .i64 0,.int .i64 0,.int .i64 0,.slice none 0 0])∧i98.size=4∧i98.bytes=48):=⟨hi1,hi2,hi3,hi4⟩
 have hn3:n≤300:=by omega
 have hn0:0<n:=by omega
 clear hT hP hS hdis hSN hbA hl hnn h0 hn hi1 hi2 hi3 hi4
 go_enter Tryz.func74,Tryz.ntmps74
 go_wp2_with (go_at_call 109;refine CP.out.mono ?_;rintro e w1 ⟨g,m,c,S,rfl,hPT⟩;obtain rfl:=hPT.len;have HPT:Hid (PiledTo (w.alloc (.cells #[.slice ad n cc,.map (some ra),.map (some rk),.slice (some ⟨gm,0,none⟩) n cm,.slice pa n pc] 70)) w1 pl g S.length c S):=hPT;clear hPT)
 obtain ⟨wA,hwA⟩:∃ wA,wA=w.alloc (.cells #[.slice ad n cc,.map (some ra),.map (some rk),.slice (some ⟨gm,0,none⟩) n cm,.slice pa n pc] 70):=⟨_,rfl⟩
 have hzA:wA.heap.size=w.heap.size+1:=by rw [hwA];simp
 have HBX:Hid (wA.cell? ⟨w.heap.size,0,none⟩=some (.slice ad n cc)∧wA.cell? ⟨w.heap.size,1,none⟩=some (.map (some ra))∧wA.cell? ⟨w.heap.size,2,none⟩=some (.map (some rk))∧wA.cell? ⟨w.heap.size,3,none⟩=some (.slice (some ⟨gm,0,none⟩) n cm)∧wA.cell? ⟨w.heap.size,4,none⟩=some (.slice pa n pc)):=by
  rw [hwA]
  exact ⟨by simp [go_sem],by simp [go_sem],by simp [go_sem],by simp [go_sem],by simp [go_sem]⟩
 have HBA:Hid (Below w.heap.size w wA):=by rw [hwA];exact bl_alloc (bl_refl _)
 rw [← hwA] at HPT HSN
 obtain ⟨z,hz⟩:∃ z,z=w1.heap.size:=⟨_,rfl⟩
 have hgk:∀ e,(Gn pl pl.length e).length=(Gk pl e).length:=fun e=>by rw [Gn_eq,List.length_map];rfl
 have HFR:Hid (Far wA z g S∧wA.heap.size≤z∧(∀ s∈S,Gk pl s.1≠[])∧S.length≤300):=by
  have hgs:g<w1.heap.size:=by
   obtain ⟨s,hs,_⟩:=HPT.out.all 0 (by have:=HN.out.2;omega)
   exact World.block_lt_of_cell? _ _ (HPT.out.row 0 (List.length_pos_of_mem hs))
  refine ⟨⟨by rw [hz];exact hgs,fun s hs=>?_,HPT.out.far⟩,by rw [hz];exact HPT.out.b.size,fun s hs e=>?_, ?_⟩
  ·have h1:=(HPT.out.own s hs).lt s.2.1 rfl
   exact ⟨by rw [hz];exact h1.2,h1.1,HPT.out.off s hs⟩
  ·refine HPT.out.ne s hs ?_
   have:=hgk s.1
   rw [e] at this
   exact List.length_eq_zero_iff.1 this
  ·have h1:=sub_lenT (S.map (fun s=>s.1)) pl (by
    refine List.pairwise_map.2 (HPT.out.ord.imp ?_)
    intro a b h e
    exact ltT_irr b.1 (by rw [e] at h;exact h)) (fun e he=>by
    obtain ⟨s,hs,rfl⟩:=List.mem_map.1 he
    have hne:=HPT.out.ne s hs
    rw [Gn_eq] at hne
    obtain ⟨k,hk⟩:=List.exists_mem_of_ne_nil (Gk pl s.1) (fun e=>hne (by show List.map _ (Gk pl s.1)=[];rw [e];rfl))
    have:=Gk_mem.1 hk
    rw [← this.2,List.getD_eq_getElem?_getD,List.getElem?_eq_getElem this.1]
    exact List.getElem_mem _)
   rw [List.length_map] at h1
   have:=HN.out.2
   omega
 have HS0:Hid (STW wA w1 z g (.slice none 0 0) L pl h S 0 [] []):=by
  have:STW wA w1 z g (.slice none 0 0) L pl h S 0 [] []:=by
   refine ⟨fun i hi=>?_,fun i hi _=>own_nw (HPT.out.own S[i] (List.getElem_mem hi)),⟨by simp [rowS],Or.inl ⟨rfl,rfl⟩⟩,⟨rfl,rfl⟩,fun i hi=>by simp at hi,fun s hs=>by simp at hs,fun i hi=>by simp at hi,HPT.out.b,by omega⟩
   rw [HPT.out.row i hi,hgk]
  exact this
 clear hwA hz
 go_wp2
 go_loopg [5,11] S.length (fun gk s5 s11 wx=>∃ (k:Nat) (v:Value) (H:List ((Int×Int×Int)×List Nat)) (R:List ((Int×Int×Int)×Value)),k≤S.length∧gk=S.length - k∧v=s5∧s11=.int .i64 (k:Int)∧STW wA wx z g v L pl h S k H R)
 case atStart=>exact ⟨0,_,[],[],by omega,rfl,rfl,rfl,HS0.out⟩
 case round =>
  clear HS0
  obtain ⟨k,v,H,R,hk,rfl,rfl,rfl,hW⟩:=hrel
  have HW:Hid (STW wA wr z g v L pl h S k H R):=hW
  clear hW
  by_cases h1:k<S.length
  ·have i1:(k:Int)<(S.length:Int):=by omega
   have i0:(0:Int)≤(k:Int):=by omega
   have c0:=HW.out.row k h1
   have zg:g<wr.heap.size:=World.block_lt_of_cell? _ _ c0
   have hSk:=HFR.out.1.s S[k] (List.getElem_mem h1)
   have hNe:=HFR.out.2.2.1 S[k] (List.getElem_mem h1)
   have CS:=HSN.out wr S[k].2.1 S[k].2.2 (Gk pl S[k].1) HW.out.b hSk.2.1 hNe (by have:=Gk_len pl S[k].1;have:=HN.out.2;omega) (fun j hj=>by have:=(Gk_mem.1 hj).1;have:=HN.out;omega) (HW.out.left k h1 (Nat.le_refl _))
   obtain ⟨gb,hgb⟩:∃ gb,gb=S[k].2.1:=⟨_,rfl⟩
   obtain ⟨cb,hcb⟩:∃ cb,cb=S[k].2.2:=⟨_,rfl⟩
   obtain ⟨nb,hnb⟩:∃ nb,nb=(Gk pl S[k].1).length:=⟨_,rfl⟩
   rw [← hgb,← hcb,← hnb] at c0 CS
   have HCS:Hid (Calls Tryz.prog 110 #[.slice (some ⟨gb,0,none⟩) nb cb,.func (.func 111) #[rv] #[]] wr fun e w'=>e=.returned (.tuple #[])∧∃ R':List Nat,R'.Perm (Gk pl S[k].1)∧Upw h R'∧NW w' gb R'∧wr.grownBy w' (some gb)):=CS
   have HGB:Hid (gb=S[k].2.1∧cb=S[k].2.2∧nb=(Gk pl S[k].1).length):=⟨hgb,hcb,hnb⟩
   clear CS hSk hgb hcb hnb hNe
   go_wp2_with (go_at_call 110;refine HCS.out.mono ?_;rintro e w2 ⟨rfl,R',hp,hs,hN,hg2⟩;have HR':Hid (R'.Perm (Gk pl S[k].1)∧Upw h R'∧NW w2 gb R'∧wr.grownBy w2 (some gb)):=⟨hp,hs,hN,hg2⟩;clear hp hs hN hg2)
   have hSk:=HFR.out.1.s S[k] (List.getElem_mem h1)
   have hNe:=HFR.out.2.2.1 S[k] (List.getElem_mem h1)
   have hb2:Below wA.heap.size wA w2:=HW.out.b.grown HR'.out.2.2.2 HW.out.b.size (fun r e=>by cases e;rw [HGB.out.1];exact hSk.2.1)
   have hbw:Below w.heap.size w w2:=HBA.out.trans (hb2.mono HBA.out.size)
   have p0:=cl_kept hb2 HBX.out.1
   have p1:=cl_kept hb2 HBX.out.2.1
   have p2:=cl_kept hb2 HBX.out.2.2.1
   have p3:=cl_kept hb2 HBX.out.2.2.2.1
   have p4:=cl_kept hb2 HBX.out.2.2.2.2
   have hRl:R'.length=nb:=by rw [HGB.out.2.2];exact HR'.out.1.length_eq
   have hRne:R'≠[]:=fun e=>hNe (by have:=HR'.out.1;rw [e] at this;exact this.symm.eq_nil)
   have hRp:0<R'.length:=List.length_pos_iff.2 hRne
   obtain ⟨j,hj⟩:∃ j,j=R'[0]:=⟨_,rfl⟩
   have r0:=(HR'.out.2.2.1 0 hRp).1
   have hjm:=Gk_mem.1 (HR'.out.1.mem_iff.1 (List.getElem_mem hRp))
   rw [← hj] at r0 hjm
   obtain ⟨gp,rfl,t0,t1,t2⟩:=(HT.out.2.kept hbw) j hjm.1
   have hpj:pl[j]=S[k].1:=by rw [← hjm.2,List.getD_eq_getElem?_getD,List.getElem?_eq_getElem hjm.1];rfl
   rw [hpj] at t0 t1 t2
   obtain ⟨x,hx⟩:∃ x,x=S[k].1.1:=⟨_,rfl⟩
   obtain ⟨y,hy⟩:∃ y,y=S[k].1.2.1:=⟨_,rfl⟩
   obtain ⟨t,ht⟩:∃ t,t=S[k].1.2.2:=⟨_,rfl⟩
   rw [← hx] at t0
   rw [← hy] at t1
   rw [← ht] at t2
   have HXY:Hid (x=S[k].1.1∧y=S[k].1.2.1∧t=S[k].1.2.2):=⟨hx,hy,ht⟩
   have j1:(j:Int)<(n:Int):=by have:=HN.out.2;have:=hjm.1;omega
   have j0:(0:Int)≤(j:Int):=by omega
   have nb0:(0:Int)<(nb:Int):=by omega
   have nbp:0<nb:=by omega
   have zp:w.heap.size<w2.heap.size:=World.block_lt_of_cell? _ _ p0
   have zb:gb<w2.heap.size:=World.block_lt_of_cell? _ _ r0
   have zt:gp<w2.heap.size:=World.block_lt_of_cell? _ _ t0
   have CN:Hid (∀ W:World,Below w2.heap.size w2 W→Calls Tryz.prog 112 #[.agg #[.slice ad n cc,.map (some ra),.map (some rk),.slice (some ⟨gm,0,none⟩) n cm,.slice (some ⟨gp,0,none⟩) n pc],.slice (some ⟨gb,0,none⟩) nb cb] W fun e w'=>∃ a c,e=.returned (.slice a nb c)∧TRow w' a (tgn L R')∧Below W.heap.size W w'∧∀ g,a=some ⟨g,0,none⟩→W.heap.size≤g∧g<w'.heap.size):=fun W hW=>by
    have:=named_any W ad cc ra rk gm cm pc gb 0 cb (some ⟨gp,0,none⟩) L R' ((HT.out.1.kept hbw).kept hW) (fun i hi=>by rw [Nat.zero_add];exact cl_kept hW (HR'.out.2.2.1 i hi).1) (fun j hj=>by have:=(Gk_mem.1 (HR'.out.1.mem_iff.1 hj)).1;have:=HN.out;omega) (by have:=HN.out;have:=Gk_len pl S[k].1;have:=HGB.out.2.2;omega) (by have:=HN.out.1;omega)
    unfold pileV at this
    rw [← HN.out.1,hRl] at this
    exact this
   have HRN:Hid (R'≠[]∧R'.length=nb):=⟨hRne,hRl⟩
   have HRk:Hid (R.length=k):=HW.out.len.1
   have hz2:z≤w2.heap.size:=Nat.le_trans HW.out.zz HR'.out.2.2.2.size
   have HOW:Hid (w2.ownsRow z 102 4 v R.length (rowS R)):=HW.out.own.kept HR'.out.2.2.2 (by
    cases hu:v.ownBlock with
    | none=>exact Or.inl rfl
    | some q =>
     refine Or.inr (fun e1=>?_)
     have h5:=(HW.out.own.lt q hu).1
     have h6:=HGB.out.1
     have h7:=hSk.1
     simp at e1
     omega)
   have hk3:k≤300:=by have:=HFR.out.2.2.2;omega
   have HNV:Hid (∀ b,b<z→some b≠v.ownBlock):=fun b hb e=>by have:=(HW.out.own.lt b e.symm).1;omega
   have zz0:w.heap.size<z:=by have:=HFR.out.2.1;omega
   have zz1:gb<z:=by rw [HGB.out.1];exact hSk.1
   have zz2:gp<z:=by
    obtain ⟨g',e9,u0,_⟩:=HT.out.2 j hjm.1
    cases e9
    have u9:gp<w.heap.size:=World.block_lt_of_cell? _ _ u0
    omega
   clear hx hy ht hpj hjm hRl hRne hRp hj hb2 hbw hSk hNe
   go_region_held3 (fun w'=>w'.cell? ⟨w.heap.size,0,none⟩=some (.slice ad n cc)∧w'.cell? ⟨w.heap.size,1,none⟩=some (.map (some ra))∧w'.cell? ⟨w.heap.size,2,none⟩=some (.map (some rk))∧w'.cell? ⟨w.heap.size,3,none⟩=some (.slice (some ⟨gm,0,none⟩) n cm)∧w'.cell? ⟨w.heap.size,4,none⟩=some (.slice (some ⟨gp,0,none⟩) n pc)∧w'.cell? ⟨gb,0,none⟩=some (.int .i64 (j:Int))∧w'.cell? ⟨gp,j*3,none⟩=some (.int .i64 x)∧w'.cell? ⟨gp,j*3+1,none⟩=some (.int .i64 y)∧w'.cell? ⟨gp,j*3+2,none⟩=some (.int .i64 t))
    ((refine ⟨?_, ?_, ?_, ?_, ?_, ?_, ?_, ?_, ?_⟩ <;> (first | (with_reducible (repeat (first | assumption | refine al_old ?_ | refine dr_old ?_));done) | (simp [go_sem];done))))
    (first
     | (go_at_call 112;refine (CN.out _ (by with_reducible repeat (first | exact bl_refl _ | refine bl_drew ?_))).mono ?_;rintro e w8 ⟨a8,c8,rfl,hT8,hb8,hf8⟩;have hq8:Below w2.heap.size w2 w8:=bl_via (by with_reducible repeat (first | exact bl_refl _ | refine bl_drew ?_)) hb8;have HQ:Hid (TRow w8 a8 (tgn L R')∧Below w2.heap.size w2 w8∧∀ g,a8=some ⟨g,0,none⟩→w2.heap.size≤g∧g<w8.heap.size):=⟨hT8,hq8,hf8⟩;have p0_8:=cl_kept hq8 p0;have p1_8:=cl_kept hq8 p1;have p2_8:=cl_kept hq8 p2;have p3_8:=cl_kept hq8 p3;have p4_8:=cl_kept hq8 p4;have r0_8:=cl_kept hq8 r0;have t0_8:=cl_kept hq8 t0;have t1_8:=cl_kept hq8 t1;have t2_8:=cl_kept hq8 t2;have hz8:z≤w8.heap.size:=Nat.le_trans hz2 hq8.size;clear hT8 hb8 hf8 hq8)
     | (refine step_append_lies _ (by rfl) (.tmp 19) (.tmp 31) 27 (by rfl) z 102 i98 (.agg #[.int .i64 0,.int .i64 0,.int .i64 0,.slice none 0 0]) 4 48 Tryz.underlying27 HI.out.1 HI.out.2.1 HI.out.2.2.1 HI.out.2.2.2 rfl (by decide) v R.length (rowS R) (by rfl) (own_below HOW.out (bl_alloc HQ.out.2.1)) ⟨w8.heap.size,0,none⟩ 1 1 [.int .i64 x,.int .i64 y,.int .i64 t,.slice a8 nb c8] (by rfl) rfl (cell_four _ _ _ _ _ _) (four_one _ _ _ _ _ _) (by decide) (by have:=HRk.out;unfold maxLen;omega) (by have:=HRk.out;omega) (by simp;omega) (w8.heap.size+1) (by simp) ?_;intro gq cap W3 hown3 hgrow hat hlt;have s0:=hgrow.cell (al_old p0_8) (HNV.out _ zz0);have s1:=hgrow.cell (al_old p1_8) (HNV.out _ zz0);have s2:=hgrow.cell (al_old p2_8) (HNV.out _ zz0);have s3:=hgrow.cell (al_old p3_8) (HNV.out _ zz0);have s4:=hgrow.cell (al_old p4_8) (HNV.out _ zz0);have s5:=hgrow.cell (al_old r0_8) (HNV.out _ zz1);have s6:=hgrow.cell (al_old t0_8) (HNV.out _ zz2);have s7:=hgrow.cell (al_old t1_8) (HNV.out _ zz2);have s8:=hgrow.cell (al_old t2_8) (HNV.out _ zz2);have HW3:Hid (STW wA W3 z g (.slice (some ⟨gq,0,none⟩) (R.length+1) cap) L pl h S (k+1) (H ++ [(S[k].1,R')]) (R ++ [(S[k].1,.slice a8 nb c8)])):=(HW.out.next h1 HFR.out.1 HFR.out.2.1 (HGB.out.1 ▸ HR'.out.2.2.2) HR'.out.1 HR'.out.2.1 HQ.out.2.1 HQ.out.1 (by rw [← HRN.out.2];simp [tgn]) HQ.out.2.2 hgrow (by rw [← HXY.out.1,← HXY.out.2.1,← HXY.out.2.2];exact hown3) hat HRN.out.1);clear hown3 hgrow hat))
   all_goals
    go_wp2
    go_roundg (S.length - (k+1))
    case measure=>omega
    case rel=>exact ⟨k+1,_,_,_,by omega,rfl,rfl,by go_num,HW3.out⟩
  ·have i1:¬ (k:Int)<(S.length:Int):=by omega
   obtain rfl:k=S.length:=by omega
   obtain ⟨a,c9,rfl,hSR⟩:=srow_of HW.out.own (by rw [HW.out.len.1,HW.out.len.2]) HW.out.tris (fun s hs q hq=>(HW.out.off s hs q hq).1)
   have HE:Hid (Heap n (plcA pl) h H∧SRowF wr w.heap.size a (H.map fun s=>(s.1,tgn L s.2))∧Below w.heap.size w wr):=by
    refine ⟨?_,hSR.low (by have:=HFR.out.2.1;omega),HBA.out.trans (HW.out.b.mono HBA.out.size)⟩
    have:=heap_of (_L:=L) HW.out.len.2 HW.out.done HPT.out.ord HFR.out.2.2.1 HPT.out.all HD.out
    rw [HN.out.2] at this
    exact this
   clear hSR
   go_wp2
   go_ret
   exact ⟨a,c9,H,rfl,HE.out⟩
open Go.RowKit Go.ChangeMaps
theorem zrow_row {w:World} {g n:Nat} {f:Nat→Int} (h:ZRow w g n f):Row w (some ⟨g,0,none⟩) ((List.range n).map f):=fun i hi=>by
 have hi2:i<n:=by simpa using hi
 exact ⟨g,0,rfl,by rw [Nat.zero_add,(h i hi2).1];simp⟩
theorem hvs_range (f:Nat→Int) {n j:Nat} (h:j<n):hvs ((List.range n).map f) j=f j:=by
 unfold hvs
 rw [List.getD_eq_getElem?_getD]
 simp [h]
theorem ints_made {w:World} {base n g:Nat} (h:w.ownsRow base 3 1 (.slice (some ⟨g,0,none⟩) n n) n (madeCells #[.int .i64 0] n).toList):ZRow w g n (fun _=>0):=fun i hi=>by
 have h0:(madeCells #[Value.int .i64 0] n).toList[i]?=some (.int .i64 0):=by
  rw [Array.getElem?_toList]
  unfold madeCells
  have:i % 1=0:=by omega
  simp [hi,this]
 exact ⟨(h.cellAt i (by omega)).trans h0,h.frozenAt i⟩
theorem heap_congr {n:Nat} {pl pl':Nat→Int×Int×Int} {h h':Nat→Int} {S:List ((Int×Int×Int)×List Nat)} (H:Heap n pl h S) (h1:∀ j,j<n→pl j=pl' j) (h2:∀ j,j<n→h j=h' j):Heap n pl' h' S:=by
 refine ⟨H.1,fun s hs=>?_,H.2.2⟩
 obtain ⟨a,b,c⟩:=H.2.1 s hs
 refine ⟨a, ?_,fun j hj=>⟨(c j hj).1,by rw [← h1 j (c j hj).1];exact (c j hj).2⟩⟩
 exact List.Pairwise.imp_of_mem (fun {x y} hx hy q=>by rw [← h2 x (c x hx).1,← h2 y (c y hy).1];exact q) b
theorem heap_hpN {pl:Nat→Int×Int×Int} {h:Nat→Int}:∀ n,(∀ i j,i<n→j<n→pl i=pl j→i≠j→h i≠h j)→Heap n pl h (hpN pl h n)
 | 0,_=>heap_nil pl h
 | n+1,hd=>by
  unfold hpN
  exact (heap_hpN n (fun i j hi hj=>hd i j (by omega) (by omega))).ins (fun j hj e=>hd j n (by omega) (by omega) e (by omega))
open Go.RowKit Go.ChangeMaps
set_option maxRecDepth 100000 in
set_option maxHeartbeats 6400000 in
theorem flatOf_any (W H b off cap m n ccap nn:Nat) (cb:Option Addr) (zs ks:List Int) (L:List (Int×Int×Int)) (w:World)
  (CT:Hid (∀ W':World,Below w.heap.size w W'→Calls Tryz.prog 38 #[.agg #[.int .i64 (W:Int),.int .i64 (H:Int),.slice (some ⟨b,off,none⟩) m cap,.slice cb n ccap]] W' fun e w'=>∃ a c,e=.returned (.slice a nn c)∧TRow w' a L∧Below W'.heap.size W' w'))
  (CO:Hid (∀ W':World,Below w.heap.size w W'→Calls Tryz.prog 8 #[.agg #[.int .i64 (W:Int),.int .i64 (H:Int),.slice (some ⟨b,off,none⟩) m cap,.slice cb n ccap]] W' fun e w'=>∃ a' ca' b' cb',e=.returned (.agg #[.int .i64 (W:Int),.int .i64 (H:Int),.slice a' m ca',.slice b' n cb'])∧RowF w' W'.heap.size a' zs∧RowF w' W'.heap.size b' ks∧Below W'.heap.size W' w'))
  (hnn:nn=L.length) (h0:0<nn) (hlen:nn≤256) (hbd:∀ t∈L,(0≤t.1∧t.1≤8)∧(0≤t.2.1∧t.2.1≤8)∧(0≤t.2.2∧t.2.2≤3)) (hnd:L.Nodup) :
  Calls Tryz.prog 17 #[.agg #[.int .i64 (W:Int),.int .i64 (H:Int),.slice (some ⟨b,off,none⟩) m cap,.slice cb n ccap]] w fun e w'=>HeapF w w' (W:Int) (H:Int) m n nn zs ks (fun _=>idM) (trS L (hpN (mvP L (fun _=>idM)) (hvs ((List.range nn).map fun _=>0)) nn)) e:=by
 obtain ⟨i3,hi3,hz0,hz1,hz2⟩:=info_parts inf3
 have HI3:Hid (Tryz.prog.info? 3=some i3∧i3.zero=some (.int .i64 0)∧i3.size=1∧i3.bytes=8):=⟨hi3,hz0,hz1,hz2⟩
 obtain ⟨i6,hi6,hz60,hz61,hz62⟩:=info_parts inf59
 have HI6:Hid (Tryz.prog.info? 89=some i6∧i6.zero=some (.agg #[.int .i64 0,.int .i64 0,.int .i64 0,.int .i64 0,.int .i64 0,.int .i64 0])∧i6.size=6∧i6.bytes=48):=⟨hi6,hz60,hz61,hz62⟩
 have CH:Hid (∀ (W':World) (gm g9:Nat) (M:Nat→M6),Below w.heap.size w W'→MRow W' gm nn (fun _=>idM)→ZRow W' g9 nn (fun _=>0)→Calls Tryz.prog 48 #[.agg #[.int .i64 (W:Int),.int .i64 (H:Int),.slice (some ⟨b,off,none⟩) m cap,.slice cb n ccap],.slice (some ⟨gm,0,none⟩) nn nn,.slice (some ⟨g9,0,none⟩) nn nn] W' fun e w'=>HeapF W' w' (W:Int) (H:Int) m n nn zs ks (fun _=>idM) (trS L (hpN (mvP L (fun _=>idM)) (hvs ((List.range nn).map fun _=>0)) nn)) e):=fun W' gm g9 M hb hM hz=>heaped_any W H b off cap m n ccap nn gm nn g9 0 nn cb zs ks ((List.range nn).map fun _=>0) L (fun _=>idM) W' (fun V hV=>CT.out V (bl_via hb hV)) (fun V hV=>CO.out V (bl_via hb hV)) hnn h0 hlen hM (fun _ _=>idM_good.mono (by omega)) (zrow_row hz) (by simp) hbd hnd
 clear hnn hbd hnd hi3 hz0 hz1 hz2 hi6 hz60 hz61 hz62 CO
 go_enter Tryz.func17,Tryz.ntmps17
 go_upto_region 1 with fail
 refine wp_named (fun W0 hW0=>?_)
 have hw0:Below w.heap.size w W0:=by rw [hW0];exact bl_alloc (bl_alloc (bl_refl _))
 have x00:W0.cell? ⟨w.heap.size,0,none⟩=some (.int .i64 (W:Int)):=by rw [hW0];simp [go_sem]
 have x01:W0.cell? ⟨w.heap.size,1,none⟩=some (.int .i64 (H:Int)):=by rw [hW0];simp [go_sem]
 have x02:W0.cell? ⟨w.heap.size,2,none⟩=some (.slice (some ⟨b,off,none⟩) m cap):=by rw [hW0];simp [go_sem]
 have x03:W0.cell? ⟨w.heap.size,3,none⟩=some (.slice cb n ccap):=by rw [hW0];simp [go_sem]
 have z0:w.heap.size+1<W0.heap.size:=by rw [hW0];simp
 have HXB0:Hid (BoxR W0 (w.heap.size+1)):=by
  have:BoxR W0 (w.heap.size+1):=by rw [hW0];exact boxR_new _
  exact this
 clear hW0
 go_wp2_with (first
  | (go_at_call 38;refine (CT.out _ hw0).mono ?_;rintro e w2 ⟨a7,c7,rfl,hT,hb⟩;have y0:=cl_kept hb x00;have y1:=cl_kept hb x01;have y2:=cl_kept hb x02;have y3:=cl_kept hb x03;have HXB:Hid (BoxR w2 (w.heap.size+1)):=HXB0.out.kept hb;have H2:Hid (Below w.heap.size w w2):=bl_via hw0 hb;have z2:w.heap.size+1<w2.heap.size:=Nat.lt_of_lt_of_le z0 hb.size;clear hT hb)
  | (at_make;refine wpList_make_full _ rfl (.tmp 10) (.tmp 10) 26 rfl w2.heap.size 89 i6 (.agg #[.int .i64 0,.int .i64 0,.int .i64 0,.int .i64 0,.int .i64 0,.int .i64 0]) 6 Tryz.underlying26 HI6.out.1 HI6.out.2.1 HI6.out.2.2.1 .i64 .i64 _ _ nn rfl rfl rfl rfl ?b2 ?b3 ?b4 ?mk))
 case b2 =>
  rw [HI6.out.2.2.2]
  omega
 case b3 =>
  unfold maxLen
  omega
 case b4=>exact Nat.le_refl _
 case mk =>
  intro w3 ho hg
  have hrow:=maps_made ho
  have hbl:Below w2.heap.size w2 w3:=(Below.refl _ _).grown hg (Nat.le_refl _) (fun k h=>by cases h)
  have hlt:w2.heap.size<w3.heap.size:=World.block_lt_of_cell? _ _ (hrow 0 h0).1.1
  have HW3:Hid (MRow w3 w2.heap.size nn (fun _=>noM)∧Below w2.heap.size w2 w3):=⟨hrow,hbl⟩
  clear ho hg hrow hbl x00 x01 x02 x03 hw0 CT
  go_wp2_with (at_make;refine wpList_make_full _ rfl (.tmp 13) (.tmp 13) 22 rfl w3.heap.size 3 i3 (.int .i64 0) 1 Tryz.underlying22 HI3.out.1 HI3.out.2.1 HI3.out.2.2.1 .i64 .i64 _ _ nn rfl rfl rfl rfl ?d2 ?d3 ?d4 ?mk2)
  case d2 =>
   rw [HI3.out.2.2.2]
   omega
  case d3 =>
   unfold maxLen
   omega
  case d4=>exact Nat.le_refl _
  case mk2 =>
   intro w4 ho hg
   have hrow:=ints_made (by simpa using ho)
   have hbl:Below w3.heap.size w3 w4:=(Below.refl _ _).grown hg (Nat.le_refl _) (fun k h=>by cases h)
   obtain ⟨g4,hg4⟩:∃ g,g=w2.heap.size:=⟨_,rfl⟩
   obtain ⟨g5,hg5⟩:∃ g,g=w3.heap.size:=⟨_,rfl⟩
   rw [← hg5] at hrow
   have HW4:Hid (MRow w4 g4 nn (fun _=>noM)∧ZRow w4 g5 nn (fun _=>0)∧Below w2.heap.size w2 w4∧g4=w2.heap.size∧g4<g5):=⟨by rw [hg4];exact HW3.out.1.kept hbl,hrow,bl_via HW3.out.2 hbl,hg4,by omega⟩
   rw [← hg4,← hg5]
   clear ho hg hrow hbl hg4 hg5 HW3 hlt
   go_wp2
   go_loopg [6] nn (fun gk s6 wx=>∃ i:Nat,i≤nn∧gk=nn - i∧s6=.int .i64 (i:Int)∧MRow wx g4 nn (fun q=>if q<i then idM else noM)∧ZRow wx g5 nn (fun _=>0)∧Below w2.heap.size w2 wx)
   case atStart=>exact ⟨0,by omega,rfl,rfl,by simpa using HW4.out.1,HW4.out.2.1,HW4.out.2.2.1⟩
   case round =>
    obtain ⟨i,hi,rfl,rfl,hm,hz,hbx⟩:=hrel
    have HR:Hid (MRow wr g4 nn (fun q=>if q<i then idM else noM)∧ZRow wr g5 nn (fun _=>0)∧Below w2.heap.size w2 wr):=⟨hm,hz,hbx⟩
    clear hm hz hbx
    by_cases h1:i<nn
    ·have i1:(i:Int)<(nn:Int):=by omega
     have i0:(0:Int)≤(i:Int):=by omega
     obtain ⟨⟨m0,m1,m2,m3,m4,m5⟩,f0,f1,f2,f3,f4,f5⟩:=HR.out.1 i h1
     dsimp only at m0 m1 m2 m3 m4 m5
     rw [if_neg (by omega)] at m0 m1 m2 m3 m4 m5
     have z4:g4<wr.heap.size:=World.block_lt_of_cell? _ _ m0
     have HK:Hid (MRow (set6 wr g4 i idM) g4 nn (fun q=>if q<i+1 then idM else noM)∧ZRow (set6 wr g4 i idM) g5 nn (fun _=>0)∧Below w2.heap.size w2 (set6 wr g4 i idM)):=by
      have h4:=HW4.out.2.2.2
      refine ⟨?_,HR.out.2.1.grown (set6_grown wr g4 i idM) (by simp;omega), ?_⟩
      ·have e:(fun q=>if q<i+1 then idM else noM)=(fun q=>if q=i then idM else if q<i then idM else noM):=by
        funext q
        by_cases e1:q=i
        ·subst e1
         simp
        ·by_cases e2:q<i
         ·rw [if_pos (by omega),if_neg e1,if_pos e2]
         ·rw [if_neg (by omega),if_neg e1,if_neg e2]
       rw [e]
       exact HR.out.1.set6 h1 idM
      ·unfold set6
       with_reducible repeat (refine bl_set ?_ ?_)
       all_goals first | exact HR.out.2.2 | (dsimp only;omega)
     go_wp2
     go_roundg (nn - (i+1))
     case measure=>omega
     case rel=>exact ⟨i+1,by omega,rfl,by go_num,HK.out.1,HK.out.2.1,HK.out.2.2⟩
    ·have i1:¬ (i:Int)<(nn:Int):=by omega
     have v0:=cl_kept HR.out.2.2 y0
     have v1:=cl_kept HR.out.2.2 y1
     have v2:=cl_kept HR.out.2.2 y2
     have v3:=cl_kept HR.out.2.2 y3
     have zr:w.heap.size+1<wr.heap.size:=Nat.lt_of_lt_of_le z2 HR.out.2.2.size
     have HM:Hid (MRow wr g4 nn (fun _=>idM)):=fun q hq=>by
      have:=HR.out.1 q hq
      dsimp only at this
      rw [if_pos (by omega)] at this
      exact this
     clear y0 y1 y2 y3
     go_wp2_with (go_at_call 48;refine (CH.out _ _ _ (fun _=>idM) (bl_via H2.out HR.out.2.2) HM.out HR.out.2.1).mono ?_;rintro e w5 ⟨a5,ca5,b5,cb5,g9,c5,t5,u5,rfl,r1,r2,r3,r4,hb5⟩;have H5:Hid (RowF w5 wr.heap.size a5 zs∧RowF w5 wr.heap.size b5 ks∧(MRow w5 g9 nn (fun _=>idM)∧wr.heap.size≤g9)∧SRowE w5 wr.heap.size t5 (trS L (hpN (mvP L (fun _=>idM)) (hvs ((List.range nn).map fun _=>0)) nn))∧Below w.heap.size w w5∧BoxR w5 (w.heap.size+1)):=⟨r1,r2,r3,r4,bl_via (bl_via H2.out HR.out.2.2) hb5,(HXB.out.kept HR.out.2.2).kept hb5⟩;obtain ⟨⟨b0,b1,b2,b3,b4,b5'⟩,bf⟩:=H5.out.2.2.2.2.2;have k0:=bf 0;have k1:=bf 1;have k2:=bf 2;have k3:=bf 3;have k4:=bf 4;have k5:=bf 5;have zb:w.heap.size+1<w5.heap.size:=World.block_lt_of_cell? _ _ b0;clear r1 r2 r3 r4 hb5 bf)
     refine bodyPost_ret (v:=.agg #[.int .i64 (W:Int),.int .i64 (H:Int),.slice a5 m ca5,.slice b5 n cb5,.slice (some ⟨g9,0,none⟩) nn c5,.slice t5 (trS L (hpN (mvP L (fun _=>idM)) (hvs ((List.range nn).map fun _=>0)) nn)).length u5]) (by simp [results,Tryz.results17,go_sem, *]) rfl ⟨a5,ca5,b5,cb5,g9,c5,t5,u5,rfl, ?_, ?_,⟨?_, ?_⟩, ?_, ?_⟩
     ·refine RowF.low (base:=wr.heap.size) ?_ (by omega)
      with_reducible repeat (refine RowF.set ?_ (by dsimp only;exact zr))
      exact H5.out.1
     ·refine RowF.low (base:=wr.heap.size) ?_ (by omega)
      with_reducible repeat (refine RowF.set ?_ (by dsimp only;exact zr))
      exact H5.out.2.1
     ·have h1:=H5.out.2.2.1.2
      have hne:g9≠w.heap.size+1:=by omega
      with_reducible repeat (refine MRow.setE ?_ hne)
      exact H5.out.2.2.1.1
     ·have h1:=H5.out.2.2.1.2
      omega
     ·refine SRowE.low (base:=wr.heap.size) ?_ (by omega)
      with_reducible repeat (refine SRowE.set ?_ (by dsimp only;exact zr))
      exact H5.out.2.2.2.1
     ·with_reducible repeat (refine bl_set ?_ ?_)
      all_goals first | exact H5.out.2.2.2.2.1 | (dsimp only;omega)
end Go.Proofs.YtgpjaecgkkgehaaGreatDoor
