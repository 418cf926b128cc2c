/- A part of the proof of foldFlat_holds. -/
import Derived.Test.YtgpjaecgkkgehaaGreatDoorQfav
import Derived.Test.YtgpjaecgkkgehaaGreatDoorQfaa
namespace Go.Proofs.YtgpjaecgkkgehaaGreatDoor
open Go.RowKit Go.Shelf Go.ChangeMaps
attribute [local go_sem] Oper.semAt_some
def valsOf (vis:List ((Int×Int×Int)×Value×Nat)):List Value:=vis.map fun x=>x.2.1
theorem valsOf_add (vis:List ((Int×Int×Int)×Value×Nat)) (x:((Int×Int×Int)×Value×Nat)):valsOf (vis ++ [x])=valsOf vis ++ [x.2.1]:=by simp [valsOf]
structure CA (w:World) (b0 l1 D1:Nat) (rec:Loop) (mb:Nat→Prop) (vis:List ((Int×Int×Int)×Value×Nat)) (W:World):Prop where
 m:mb b0∧mb l1∧mb D1
 lt:∀ b,mb b→b<W.heap.size
 l:W.heap[l1]?=some (.loop rec)
 d:W.heap[D1]?=some (.deferred (some []))
 b:Below w.heap.size w W
 row:∃ v,Boxed W b0 171 v∧W.ownsRow w.heap.size 22 1 v vis.length (valsOf vis)∧∀ q,v.ownBlock=some q→mb q
theorem CA.grown {w:World} {b0 l1 D1:Nat} {rec:Loop} {mb:Nat→Prop} {k:List ((Int×Int×Int)×Value×Nat)} {W W':World} {row:Option Nat} (h:CA w b0 l1 D1 rec mb k W) (hg:W.grownBy W' row) (hr:∀ r,row=some r→w.heap.size≤r∧¬ mb r):CA w b0 l1 D1 rec mb k W':=by
 have hn:∀ b,mb b→some b≠row:=fun b hb e=>(hr b e.symm).2 hb
 obtain ⟨m0,m1,m2⟩:=h.m
 obtain ⟨v,r1,r2,r3⟩:=h.row
 refine ⟨h.m,fun b hb=>Nat.lt_of_lt_of_le (h.lt b hb) hg.size,(hg.block _ (h.lt _ m1) (hn _ m1)).trans h.l,(hg.block _ (h.lt _ m2) (hn _ m2)).trans h.d,h.b.grown hg h.b.size (fun r e=>(hr r e).1),v,r1.kept hg (hn _ m0),r2.kept hg ?_,r3⟩
 cases e:v.ownBlock with
 | none=>exact Or.inl rfl
 | some q=>exact Or.inr (fun e2=>hn q (r3 q e) e2)
theorem CA.fr (w:World) (b0 l1 D1:Nat) (rec:Loop):Frm (JJ w.heap.size (CA w b0 l1 D1 rec)) :=
 Frm.of (fun h=>h.b.size) (fun h hg hr=>h.grown hg hr) (fun h hb=>h.lt _ hb)
theorem own_cells {W:World} {base e n:Nat} {v:Value} {xs:List Value} {q:Nat} (h:W.ownsRow base e 1 v n xs) (hq:v.ownBlock=some q):∃ cur,W.heap[q]?=some (.cells cur e):=by
 rcases h.2 with ⟨rfl,_⟩ | ⟨g,cap,cur,rfl,_,h3,_⟩
 ·simp [Value.ownBlock] at hq
 ·simp [Value.ownBlock] at hq
  subst hq
  exact ⟨cur,h3⟩
theorem JA.yes {w w1:World} {b0 l1 D1:Nat} {R:LoopState→Loop} {fb:Option (Nat×Obj)} {vis:List ((Int×Int×Int)×Value×Nat)} {x:((Int×Int×Int)×Value×Nat)} {tmp:Obj} {W:World} {mb:Nat→Prop} {v v':Value} (hd:b0≠l1∧D1≠l1∧D1≠b0) (hb:w.heap.size≤b0∧w.heap.size≤l1)
  (h2:∀ y,fb=some y→W.heap[y.1]?=some y.2∧w.heap.size≤y.1) (hC:CA w b0 l1 D1 (R .ready) mb vis W) (h4:∀ y,fb=some y→¬ mb y.1)
  (r1:Boxed W b0 171 v) (r2:W.ownsRow w.heap.size 22 1 v vis.length (valsOf vis)) (r3:∀ q,v.ownBlock=some q→mb q)
  (hown:w1.ownsRow w.heap.size 22 1 v' (vis.length+1) (valsOf vis ++ [x.2.1])) (hgrow:((W.putObj l1 (.loop (R .busy))).alloc tmp).grownBy w1 v.ownBlock) (hblk:v'.ownBlock=v.ownBlock∨v'.ownBlock=some ((W.putObj l1 (.loop (R .busy))).alloc tmp).heap.size) :
  (w1.setCell ⟨b0,0,none⟩ v').heap[l1]?=some (.loop (R .busy))∧JJ w.heap.size (CA w b0 l1 D1 (R .ready)) fb (vis ++ [x]) ((w1.setCell ⟨b0,0,none⟩ v').putObj l1 (.loop (R .ready))):=by
 obtain ⟨m0,m1,m2⟩:=hC.m
 obtain ⟨d1,d2,d3⟩:=hd
 obtain ⟨hb0,hbl⟩:=hb
 have g1:=grownBy_putObj' W l1 (.loop (R .busy))
 have g2:(W.putObj l1 (.loop (R .busy))).grownBy ((W.putObj l1 (.loop (R .busy))).alloc tmp) none:=World.grownBy_alloc _ _ _
 have g4:=grownBy_setCell' w1 b0 v'
 have g5:=grownBy_putObj' (w1.setCell ⟨b0,0,none⟩ v') l1 (.loop (R .ready))
 have z2:W.heap.size≤((W.putObj l1 (.loop (R .busy))).alloc tmp).heap.size:=Nat.le_trans g1.size g2.size
 have z3:W.heap.size≤w1.heap.size:=Nat.le_trans z2 hgrow.size
 have z4:W.heap.size≤(w1.setCell ⟨b0,0,none⟩ v').heap.size:=Nat.le_trans z3 g4.size
 have no1:∀ q,v.ownBlock=some q→q≠l1:=fun q hq e=>by
  obtain ⟨cur,hc⟩:=own_cells r2 hq
  rw [e,hC.l] at hc
  cases hc
 have no2:∀ q,v.ownBlock=some q→q≠D1:=fun q hq e=>by
  obtain ⟨cur,hc⟩:=own_cells r2 hq
  rw [e,hC.d] at hc
  cases hc
 have no0:some b0≠v.ownBlock:=r1.not_row (by decide) r2
 have same3:∀ b,b<W.heap.size→b≠l1→some b≠v.ownBlock→w1.heap[b]?=W.heap[b]?:=fun b hlt n1 nv =>
  ((hgrow.block b (Nat.lt_of_lt_of_le hlt z2) nv).trans (g2.block b (Nat.lt_of_lt_of_le hlt g1.size) (by simp))).trans (g1.block b hlt (by simpa using n1))
 have same:∀ b,b<W.heap.size→b≠l1→b≠b0→some b≠v.ownBlock→((w1.setCell ⟨b0,0,none⟩ v').putObj l1 (.loop (R .ready))).heap[b]?=W.heap[b]?:=fun b hlt n1 n0 nv =>
  ((g5.block b (Nat.lt_of_lt_of_le hlt z4) (by simpa using n1)).trans (g4.block b (Nat.lt_of_lt_of_le hlt z3) (by simpa using n0))).trans (same3 b hlt n1 nv)
 have hlb:(W.putObj l1 (.loop (R .busy))).heap[l1]?=some (.loop (R .busy)):=World.putObj_heap_same (hC.lt _ m1)
 have hl3:w1.heap[l1]?=some (.loop (R .busy)):=((hgrow.block l1 (Nat.lt_of_lt_of_le (hC.lt _ m1) z2) (fun e=>no1 l1 e.symm rfl)).trans (g2.block l1 (Nat.lt_of_lt_of_le (hC.lt _ m1) g1.size) (by simp))).trans hlb
 have hl4:(w1.setCell ⟨b0,0,none⟩ v').heap[l1]?=some (.loop (R .busy)):=(g4.block l1 (Nat.lt_of_lt_of_le (hC.lt _ m1) z3) (by simpa using d1.symm)).trans hl3
 have zf:W.heap.size≤((w1.setCell ⟨b0,0,none⟩ v').putObj l1 (.loop (R .ready))).heap.size:=Nat.le_trans z4 g5.size
 have rowf:((w1.setCell ⟨b0,0,none⟩ v').putObj l1 (.loop (R .ready))).ownsRow w.heap.size 22 1 v' (vis ++ [x]).length (valsOf (vis ++ [x])):=by
  have b1:Boxed w1 b0 171 v:=((r1.kept g1 (by simpa using d1)).alloc tmp).kept hgrow no0
  have h8:=hown.kept g4 (.inr (b1.not_row (by decide) hown).symm)
  have h9:=ownsRow_putObj h8 (.loop (R .ready)) hl4 rfl
  rw [List.length_append,valsOf_add]
  exact h9
 refine ⟨hl4,fun y hy=>?_,fun b=>mb b∨v'.ownBlock=some b,⟨⟨Or.inl m0,Or.inl m1,Or.inl m2⟩, ?_, ?_, ?_, ?_,v', ?_,rowf,fun q hq=>Or.inr hq⟩, ?_⟩
 ·have hx2:=h2 y hy
  have hx4:=h4 y hy
  refine ⟨?_,hx2.2⟩
  rw [same y.1 (Array.getElem?_eq_some_iff.1 hx2.1).1 (fun e=>hx4 (e ▸ m1)) (fun e=>hx4 (e ▸ m0)) (fun e=>hx4 (r3 _ e.symm))]
  exact hx2.1
 ·rintro b (hb | hb)
  ·exact Nat.lt_of_lt_of_le (hC.lt b hb) zf
  ·obtain ⟨cur,hc⟩:=own_cells rowf hb
   exact (Array.getElem?_eq_some_iff.1 hc).1
 ·exact World.putObj_heap_same (Array.getElem?_eq_some_iff.1 hl4).1
 ·exact (same D1 (hC.lt _ m2) d2 d3 (fun e=>no2 D1 e.symm rfl)).trans hC.d
 ·have k1:=hC.b.grown g1 hC.b.size (fun r e=>by cases e;exact hbl)
  have k2:=k1.grown g2 k1.size (fun r e=>by cases e)
  have k3:=k2.grown hgrow k2.size (fun r e=>(r2.lt r e).1)
  have k4:=k3.grown g4 k3.size (fun r e=>by cases e;exact hb0)
  exact k4.grown g5 k4.size (fun r e=>by cases e;exact hbl)
 ·exact ((((r1.kept g1 (by simpa using d1)).alloc tmp).kept hgrow no0).set v').kept g5 (by simpa using d1)
 ·rintro y hy (hm | hq)
  ·exact h4 y hy hm
  ·have hx2:=h2 y hy
   have hlt:=(Array.getElem?_eq_some_iff.1 hx2.1).1
   rcases hblk with e | e
   ·exact h4 y hy (r3 _ (by rw [← e];exact hq))
   ·rw [e] at hq
    simp only [Option.some.injEq] at hq
    omega
theorem cell_oneV (w:World) (v:Value) (T:TypeId):∀ j u,([v])[j]?=some u→(w.alloc (.cells #[v] T)).cell? ((⟨w.heap.size,0,none⟩:Addr).add j)=some u:=by
 intro j u hu
 match j,hu with
 | 0,hu=>simp at hu;subst hu;simp [Addr.add,go_sem]
theorem infV:(Tryz.prog.info? 22).map (fun i=>(i.zero,i.size,i.bytes))=some (some (.slice none 0 0),1,24):=by kernel_rfl
def Gath (w w':World) (ls:List ((Int×Int×Int)×Value×Nat)) (v:Value):Prop := ∃ vis,vis.Perm ls∧w'.ownsRow w.heap.size 22 1 v vis.length (valsOf vis)∧Below w.heap.size w w'
set_option maxRecDepth 100000 in
set_option maxHeartbeats 1600000 in
theorem appendSeq_any (Bm rm c:Nat) (ls:List ((Int×Int×Int)×Value×Nat)) (hG:TGood ls c) (hsl:∀ x∈ls,∃ a n q,x.2.1=.slice a n q) (hlen:ls.length≤300) (w:World) (hd:w.cell? ⟨Bm,0,none⟩=some (.map (some rm))) (hm:TEM w rm ls c) :
  Calls Tryz.prog 197 #[.slice none 0 0,.func (.func 175) #[] #[.pointer (some ⟨Bm,0,none⟩)]] w fun e w'=>∃ v,e=.returned v∧Gath w w' ls v:=by
 obtain ⟨n,hn⟩:∃ n:Nat,n=n:=⟨0,rfl⟩
 refine (callsIn_wide (n:=n)).1 ?_
 clear hn
 obtain ⟨iV,hI⟩:=info_parts infV
 have HI:Hid (Tryz.prog.info? 22=some iV∧iV.zero=some (.slice none 0 0)∧iV.size=1∧iV.bytes=24):=hI
 clear hI
 refine callsIn_of_wp_marks Tryz.func197 rfl trivial ?_ rfl
 simp only [Tryz.ntmps197,List.size_toArray,List.length_cons,List.length_nil,Nat.reduceAdd,Nat.reduceSub,Array.replicate_succ,Array.replicate_zero,List.push_toArray,List.append_toArray,List.nil_append,List.cons_append]
 have zd:Bm<w.heap.size:=World.block_lt_of_cell? _ _ hd
 have zm:=hm.lt
 gi_wp2
 refine range_outer (gf:=175) (lb:=#[.pointer (some ⟨Bm,0,none⟩)]) rfl (enters_of Tryz.func175 (by kernel_rfl) rfl) (fun fn=>?_)
 generalize hR:Rec fn _ _ _ _ _=R
 simp only [World.size_alloc] at hR ⊢
 have hdis:w.heap.size≠w.heap.size+1+1∧w.heap.size+1≠w.heap.size+1+1∧w.heap.size+1≠w.heap.size:=by omega
 have hble:w.heap.size≤w.heap.size∧w.heap.size≤w.heap.size+1+1:=by omega
 have h0:JJ w.heap.size (CA w w.heap.size (w.heap.size+1+1) (w.heap.size+1) (R .ready)) none [] (((w.alloc (.cells #[.slice none 0 0] 171)).alloc (.deferred (some []))).alloc (.loop (R .ready))):=by
  refine ⟨fun x hx=>(by cases hx),fun b=>b=w.heap.size∨b=w.heap.size+1+1∨b=w.heap.size+1,⟨by simp, ?_, ?_, ?_, ?_,.slice none 0 0, ?_, ?_, ?_⟩,fun x hx=>(by cases hx)⟩
  ·intro b hb
   simp only [World.size_alloc]
   omega
  ·have h9:=heap_alloc_new ((w.alloc (.cells #[.slice none 0 0] 171)).alloc (.deferred (some []))) (.loop (R .ready))
   rw [World.size_alloc,World.size_alloc] at h9
   exact h9
  ·have h9:=heap_alloc_new (w.alloc (.cells #[.slice none 0 0] 171)) (.deferred (some []))
   rw [World.size_alloc] at h9
   exact (Below.heap_alloc _ _ _ (by simp)).trans h9
  ·exact bl_alloc (bl_alloc (bl_alloc (bl_refl _)))
  ·exact ((Boxed.new w 171 _).alloc _).alloc _
  ·exact ⟨rfl,Or.inl ⟨rfl,rfl⟩⟩
  ·intro q hq
   simp [Value.ownBlock] at hq
 refine (values1_in rm Bm c (w.heap.size+1+1) 0 (n - 1) ls hG hsl (JJ w.heap.size (CA w w.heap.size (w.heap.size+1+1) (w.heap.size+1) (R .ready))) (CA.fr ..) ?hD ?hYes _ h0).mono ?_
 case hD =>
  rintro fb k W ⟨_,mb,hC,_⟩
  exact ⟨cl_kept hC.b hd,hm.grown (bl_grown hC.b) (by simp)⟩
 case hYes =>
  rintro fb vis x W ⟨h2,mb,hC,h4⟩ hx hxl
  obtain ⟨a3,n3,q3,hv⟩:=hsl x hx
  obtain ⟨v,r1,r2,r3⟩:=hC.row
  have hfin:=fun (w1:World) (v':Value) (tmp:Obj)=>JA.yes (w1:=w1) (v':=v') (tmp:=tmp) (x:=x) hdis hble h2 hC h4 r1 r2 r3
  have hl:=hC.l
  have hbx:=r1.kept (grownBy_putObj' W (w.heap.size+1+1) (.loop (R .busy))) (by simpa using hdis.1)
  have hrow:=ownsRow_putObj r2 (.loop (R .busy)) hl rfl
  have zz:w.heap.size≤(W.putObj (w.heap.size+1+1) (.loop (R .busy))).heap.size:=by
   rw [World.putObj_size]
   exact hC.b.size
  rw [hv] at hfin ⊢
  have HF:Hid (∀ (w1:World) (v':Value) (tmp:Obj),w1.ownsRow w.heap.size 22 1 v' (vis.length+1) (valsOf vis ++ [.slice a3 n3 q3])→((W.putObj (w.heap.size+1+1) (.loop (R .busy))).alloc tmp).grownBy w1 v.ownBlock→(v'.ownBlock=v.ownBlock∨v'.ownBlock=some ((W.putObj (w.heap.size+1+1) (.loop (R .busy))).alloc tmp).heap.size)→(w1.setCell ⟨w.heap.size,0,none⟩ v').heap[w.heap.size+1+1]?=some (.loop (R .busy))∧JJ w.heap.size (CA w w.heap.size (w.heap.size+1+1) (w.heap.size+1) (R .ready)) fb (vis ++ [x]) ((w1.setCell ⟨w.heap.size,0,none⟩ v').putObj (w.heap.size+1+1) (.loop (R .ready)))):=hfin
  obtain ⟨a8,c8,rfl⟩:∃ a8 c8,v=.slice a8 vis.length c8:=by
   rcases r2.2 with ⟨rfl,h9⟩ | ⟨g9,cap9,cur9,rfl,_⟩
   ·exact ⟨none,0,by rw [h9]⟩
   ·exact ⟨_,cap9,rfl⟩
  clear h2 hC h4 r1 r2 r3 hx hfin hv
  rw [← hR] at hl
  refine round_of hl rfl { tmps:=#[.slice none 0 0,.func (.func 175) #[] #[.pointer (some ⟨Bm,0,none⟩)],.pointer (some ⟨w.heap.size,0,none⟩),undef,.slice none 0 0,.slice a3 n3 q3,.func (.func 175) #[] #[.pointer (some ⟨Bm,0,none⟩)],.slice a3 n3 q3,undef,undef,undef,undef,undef],defers:=[] } ?assign ?body
  case assign =>
   intro K hK
   gi_wp2
   exact hK
  case body =>
   rw [hR]
   have c0:=hbx.cell
   have zb9:=hbx.lt
   generalize hWb:W.putObj (w.heap.size+1+1) (.loop (R .busy))=Wb at *
   clear hR hl h0 hWb
   have hrow2:=own_below hrow (bl_alloc (o:=.cells #[.slice a3 n3 q3] 22) (bl_refl Wb))
   gi_wp2_with (gi_at_builtin;refine wpListIn_append_own_at _ rfl (.tmp 8) (.tmp 10) 171 rfl w.heap.size 22 iV (.slice none 0 0) 1 24 Tryz.underlying171 HI.out.1 HI.out.2.1 HI.out.2.2.1 HI.out.2.2.2 rfl (by decide) (.slice a8 vis.length c8) vis.length (valsOf vis) rfl hrow2 ⟨Wb.heap.size,0,none⟩ 1 1 [.slice a3 n3 q3] rfl rfl (cell_oneV _ _ _) (by intro u hu;simp at hu;subst hu;rfl) (by unfold maxLen;omega) (by omega) (by simp;omega) ?grow)
   case grow =>
    intro v' w1 hown hgrow _ hblk
    have hf:=HF.out w1 v' _ hown hgrow (hblk.imp id (fun e=>by rw [World.size_alloc];exact e))
    obtain ⟨g9,c9,rfl⟩:=ownsRow_succ hown
    have hbx1:=(hbx.alloc _).kept hgrow (hbx.not_row (by decide) hrow)
    have c1:=hbx1.cell
    have f1:=hbx1.frozen
    have z1:=hbx1.lt
    clear hown hgrow hblk hbx hbx1 hrow hrow2 c0 zb9
    gi_wp2
 rintro e V ⟨⟨u,rfl⟩,vis,hP,_,mb,hC,_⟩
 refine ⟨⟨u,rfl⟩,hC.l, ?_⟩
 obtain ⟨v,r1,r2,r3⟩:=hC.row
 have hbx:=r1.kept (grownBy_putObj' V (w.heap.size+1+1) (.loop (R .exhausted))) (by simpa using hdis.1)
 have hrow:=ownsRow_putObj r2 (.loop (R .exhausted)) hC.l rfl
 have hK:(V.putObj (w.heap.size+1+1) (.loop (R .exhausted))).heap[w.heap.size+1]?=some (.deferred (some [])):=(put_other hdis.2.1).trans hC.d
 have hB:Below w.heap.size w (V.putObj (w.heap.size+1+1) (.loop (R .exhausted))):=hC.b.grown (grownBy_putObj' V _ _) hC.b.size (fun r e=>by cases e;exact hble.2)
 have HP:Hid (vis.Perm ls):=hP
 obtain ⟨a8,c8,rfl⟩:∃ a8 c8,v=.slice a8 vis.length c8:=by
  rcases r2.2 with ⟨rfl,h9⟩ | ⟨g9,cap9,cur9,rfl,_⟩
  ·exact ⟨none,0,by rw [h9]⟩
  ·exact ⟨_,cap9,rfl⟩
 clear r1 r2 r3 hC h0 hR hP
 generalize V.putObj (w.heap.size+1+1) (.loop (R .exhausted))=V1 at *
 have c0:=hbx.cell
 have zb9:=hbx.lt
 gi_wp2
 refine ⟨by simp,.inl ⟨_,_,rfl,run_takeDeferred hK, ?_⟩⟩
 exact ⟨.slice a8 vis.length c8,by simp [results,Tryz.results197,go_sem],.slice a8 vis.length c8,rfl,vis,HP.out,ownsRow_putObj hrow _ hK rfl,hB.grown (grownBy_putObj' V1 _ _) hB.size (fun r e=>by cases e;omega)⟩
theorem Gath.slice {w w':World} {ls:List ((Int×Int×Int)×Value×Nat)} {v:Value} (h:Gath w w' ls v):∃ a n q,v=.slice a n q:=by
 obtain ⟨vis,_,hr,_⟩:=h
 rcases hr.2 with ⟨rfl,_⟩ | ⟨_,_,_,rfl,_⟩
 ·exact ⟨_,_,_,rfl⟩
 ·exact ⟨_,_,_,rfl⟩
set_option maxRecDepth 100000 in
theorem collect_any (Bm rm c:Nat) (ls:List ((Int×Int×Int)×Value×Nat)) (hG:TGood ls c) (hsl:∀ x∈ls,∃ a n q,x.2.1=.slice a n q) (hlen:ls.length≤300) (w:World) (hd:w.cell? ⟨Bm,0,none⟩=some (.map (some rm))) (hm:TEM w rm ls c) :
  Calls Tryz.prog 173 #[.func (.func 175) #[] #[.pointer (some ⟨Bm,0,none⟩)]] w fun e w'=>∃ v,e=.returned v∧Gath w w' ls v:=by
 have HA:Hid (Calls Tryz.prog 197 #[.slice none 0 0,.func (.func 175) #[] #[.pointer (some ⟨Bm,0,none⟩)]] w fun e w'=>∃ v,e=.returned v∧Gath w w' ls v):=appendSeq_any Bm rm c ls hG hsl hlen w hd hm
 clear hG hsl hd hm
 go_enter Tryz.func173,Tryz.ntmps173
 go_wp2_with (go_at_call 197;refine HA.out.mono ?_;rintro e w1 ⟨v,rfl,hg⟩;obtain ⟨a8,n8,c8,rfl⟩:=hg.slice)
 have HG:Hid (Gath w w1 ls (.slice a8 n8 c8)):=hg
 clear hg
 go_ret
 exact ⟨_,rfl,HG.out⟩
theorem values_any (rm:Nat) (w:World):Calls Tryz.prog 142 #[.map (some rm)] w fun e w'=>e=.returned (.func (.func 175) #[] #[.pointer (some ⟨w.heap.size,0,none⟩)])∧w'=w.alloc (.cells #[.map (some rm)] 200):=by
 go_enter Tryz.func142,Tryz.ntmps142
 go_wp2
 go_ret
 exact ⟨rfl,rfl⟩
end Go.Proofs.YtgpjaecgkkgehaaGreatDoor
namespace Go.Proofs.YtgpjaecgkkgehaaGreatDoor
theorem sorted_one {α:Type} {lt : α → α→Prop} (hi:∀ x,¬ lt x x) (ht:∀ x y z,lt x y→lt y z→lt x z):∀ {l m:List α},l.Pairwise lt→m.Pairwise lt→(∀ x,x∈l↔x∈m)→l=m
 | [],[],_,_,_=>rfl
 | [],b :: m,_,_,h=>by
  have:=(h b).2 (by simp)
  simp at this
 | a :: l,[],_,_,h=>by
  have:=(h a).1 (by simp)
  simp at this
 | a :: l,b :: m,h1,h2,h=>by
  rw [List.pairwise_cons] at h1 h2
  have e:a=b:=by
   have h3:=(h a).1 (by simp)
   have h4:=(h b).2 (by simp)
   rcases List.mem_cons.1 h3 with e | h3
   ·exact e
   ·rcases List.mem_cons.1 h4 with e | h4
    ·exact e.symm
    ·exact absurd (ht _ _ _ (h2.1 a h3) (h1.1 b h4)) (hi b)
  subst e
  rw [sorted_one hi ht h1.2 h2.2 fun x=>?_]
  constructor
  ·intro hx
   rcases List.mem_cons.1 ((h x).1 (List.mem_cons_of_mem _ hx)) with e | h3
   ·subst e
    exact absurd (h1.1 x hx) (hi x)
   ·exact h3
  ·intro hx
   rcases List.mem_cons.1 ((h x).2 (List.mem_cons_of_mem _ hx)) with e | h3
   ·subst e
    exact absurd (h2.1 x hx) (hi x)
   ·exact h3
def ltT (a b:Int×Int×Int):Prop:=a.2.1<b.2.1∨(a.2.1=b.2.1∧(a.1<b.1∨(a.1=b.1∧a.2.2<b.2.2)))
theorem ltT_irr (a:Int×Int×Int):¬ ltT a a:=by unfold ltT;omega
theorem ltT_trans (a b c:Int×Int×Int) (h1:ltT a b) (h2:ltT b c):ltT a c:=by unfold ltT at *;omega
def Heap (n:Nat) (pl:Nat→Int×Int×Int) (h:Nat→Int) (S:List ((Int×Int×Int)×List Nat)):Prop :=
 S.Pairwise (fun a b=>ltT a.1 b.1)∧(∀ s∈S,s.2≠[]∧s.2.Pairwise (fun i j=>h i<h j)∧∀ j∈s.2,j<n∧pl j=s.1)∧∀ j,j<n→∃ s∈S,j∈s.2
theorem pair_same {S:List ((Int×Int×Int)×List Nat)} (h:S.Pairwise (fun a b=>ltT a.1 b.1)):∀ {s t},s∈S→t∈S→s.1=t.1→s=t:=by
 induction h with
 | nil=>intro s t hs;simp at hs
 | cons h1 _ ih =>
  intro s t hs ht e
  rcases List.mem_cons.1 hs with e1 | hs1
  ·rcases List.mem_cons.1 ht with e2 | ht1
   ·rw [e1,e2]
   ·have:=h1 t ht1
    rw [← e1,e] at this
    exact absurd this (ltT_irr _)
  ·rcases List.mem_cons.1 ht with e2 | ht1
   ·have:=h1 s hs1
    rw [← e2,e] at this
    exact absurd this (ltT_irr _)
   ·exact ih hs1 ht1 e
theorem Heap.mem {n:Nat} {pl:Nat→Int×Int×Int} {h:Nat→Int} {S:List ((Int×Int×Int)×List Nat)} (H:Heap n pl h S) {s} (hs:s∈S) (k:Nat):k∈s.2↔k<n∧pl k=s.1:=by
 constructor
 ·exact (H.2.1 s hs).2.2 k
 ·rintro ⟨h1,h2⟩
  obtain ⟨t,ht,hk⟩:=H.2.2 k h1
  have:=((H.2.1 t ht).2.2 k hk).2
  rw [← pair_same H.1 ht hs (this.symm.trans h2)]
  exact hk
theorem Heap.sub {n:Nat} {pl:Nat→Int×Int×Int} {h:Nat→Int} {S T:List ((Int×Int×Int)×List Nat)} (H:Heap n pl h S) (K:Heap n pl h T) {s} (hs:s∈S):s∈T:=by
 obtain ⟨h1,h2,h3⟩:=H.2.1 s hs
 obtain ⟨j,hj⟩:=List.exists_mem_of_ne_nil _ h1
 obtain ⟨t,ht,hk⟩:=K.2.2 j (h3 j hj).1
 have e1:t.1=s.1:=((K.2.1 t ht).2.2 j hk).2.symm.trans (h3 j hj).2
 have e2:t.2=s.2:=sorted_one (lt:=fun i j=>h i<h j) (fun x=>by omega) (fun x y z=>by omega) (K.2.1 t ht).2.1 h2 fun k=>by
  rw [K.mem ht,H.mem hs,e1]
 rw [← show t=s from Prod.ext e1 e2]
 exact ht
theorem Heap.one {n:Nat} {pl:Nat→Int×Int×Int} {h:Nat→Int} {S T:List ((Int×Int×Int)×List Nat)} (H:Heap n pl h S) (K:Heap n pl h T):S=T :=
 sorted_one (lt:=fun a b=>ltT a.1 b.1) (fun _=>ltT_irr _) (fun _ _ _=>ltT_trans _ _ _) H.1 K.1 fun _=>⟨H.sub K,K.sub H⟩
def ltB (a b:Int×Int×Int):Bool:=decide (a.2.1<b.2.1∨(a.2.1=b.2.1∧(a.1<b.1∨(a.1=b.1∧a.2.2<b.2.2))))
theorem ltB_iff {a b:Int×Int×Int}:ltB a b=true↔ltT a b:=by simp [ltB,ltT]
theorem ltT_three {a b:Int×Int×Int} (h1:¬ ltT a b) (h2:a≠b):ltT b a:=by
 unfold ltT at *
 have h2':¬ (a.1=b.1∧a.2.1=b.2.1∧a.2.2=b.2.2):=fun e=>h2 (Prod.ext e.1 (Prod.ext e.2.1 e.2.2))
 omega
def insN (h:Nat→Int) (i:Nat):List Nat→List Nat
 | []=>[i]
 | j :: r=>if h j<h i then j :: insN h i r else i :: j :: r
theorem mem_insN {h:Nat→Int} {i k:Nat}:∀ {l:List Nat},k∈insN h i l↔k=i∨k∈l
 | []=>by simp [insN]
 | j :: r=>by
  unfold insN
  split
  ·rw [List.mem_cons,mem_insN,List.mem_cons]
   constructor
   ·rintro (h | h | h) <;> simp [h]
   ·rintro (h | h | h) <;> simp [h]
  ·simp
theorem insN_sorted {h:Nat→Int} {i:Nat}:∀ {l:List Nat},l.Pairwise (fun a b=>h a<h b)→(∀ j∈l,h j≠h i)→(insN h i l).Pairwise (fun a b=>h a<h b)
 | [],_,_=>by simp [insN]
 | j :: r,hp,hn=>by
  rw [List.pairwise_cons] at hp
  unfold insN
  split
  ·rename_i c
   rw [List.pairwise_cons]
   refine ⟨fun k hk=>?_,insN_sorted hp.2 fun k hk=>hn k (List.mem_cons_of_mem _ hk)⟩
   rcases mem_insN.1 hk with e | hk
   ·rw [e]
    exact c
   ·exact hp.1 k hk
  ·rename_i c
   rw [List.pairwise_cons,List.pairwise_cons]
   have hj:=hn j (by simp)
   refine ⟨fun k hk=>?_,hp.1,hp.2⟩
   rcases List.mem_cons.1 hk with e | hk
   ·rw [e]
    omega
   ·have:=hp.1 k hk
    omega
def insS (h:Nat→Int) (i:Nat) (at_:Int×Int×Int):List ((Int×Int×Int)×List Nat)→List ((Int×Int×Int)×List Nat)
 | []=>[(at_,[i])]
 | s :: r=>if ltB s.1 at_=true then s :: insS h i at_ r else if s.1=at_ then (s.1,insN h i s.2) :: r else (at_,[i]) :: s :: r
theorem mem_insS {h:Nat→Int} {i:Nat} {at_:Int×Int×Int}:∀ {S:List ((Int×Int×Int)×List Nat)},S.Pairwise (fun a b=>ltT a.1 b.1)→∀ t,t∈insS h i at_ S↔(t∈S∧t.1≠at_)∨(t.1=at_∧((∃ s∈S,s.1=at_∧t.2=insN h i s.2)∨(t.2=[i]∧∀ s∈S,s.1≠at_)))
 | [],_,t=>by
  simp only [insS,List.mem_singleton,List.not_mem_nil,false_and,false_or,exists_false,false_implies,implies_true,and_true]
  constructor
  ·rintro rfl
   exact ⟨rfl,rfl⟩
  ·rintro ⟨h1,h2⟩
   exact Prod.ext h1 h2
 | s :: r,hp,t=>by
  rw [List.pairwise_cons] at hp
  unfold insS
  split
  ·rename_i c
   rw [ltB_iff] at c
   have hs:s.1≠at_:=fun e=>ltT_irr _ (e ▸ c)
   rw [List.mem_cons,mem_insS hp.2]
   constructor
   ·rintro (rfl | ⟨h1,h2⟩ | ⟨h1,(⟨u,h2,h3⟩ | ⟨h2,h3⟩)⟩)
    ·exact Or.inl ⟨by simp,hs⟩
    ·exact Or.inl ⟨List.mem_cons_of_mem _ h1,h2⟩
    ·exact Or.inr ⟨h1,Or.inl ⟨u,List.mem_cons_of_mem _ h2,h3⟩⟩
    ·refine Or.inr ⟨h1,Or.inr ⟨h2,fun u hu=>?_⟩⟩
     rcases List.mem_cons.1 hu with e | hu
     ·rw [e]
      exact hs
     ·exact h3 u hu
   ·rintro (⟨h1,h2⟩ | ⟨h1,(⟨u,h2,h3,h4⟩ | ⟨h2,h3⟩)⟩)
    ·rcases List.mem_cons.1 h1 with e | h1
     ·exact Or.inl e
     ·exact Or.inr (Or.inl ⟨h1,h2⟩)
    ·rcases List.mem_cons.1 h2 with e | h2
     ·exact absurd (e ▸ h3) hs
     ·exact Or.inr (Or.inr ⟨h1,Or.inl ⟨u,h2,h3,h4⟩⟩)
    ·exact Or.inr (Or.inr ⟨h1,Or.inr ⟨h2,fun u hu=>h3 u (List.mem_cons_of_mem _ hu)⟩⟩)
  ·rename_i c
   rw [ltB_iff] at c
   split
   ·rename_i c2
    have hr:∀ u∈r,u.1≠at_:=fun u hu e=>ltT_irr at_ (by have:=hp.1 u hu;rw [e,c2] at this;exact this)
    rw [List.mem_cons]
    constructor
    ·rintro (rfl | h1)
     ·exact Or.inr ⟨c2,Or.inl ⟨s,by simp,c2,rfl⟩⟩
     ·exact Or.inl ⟨List.mem_cons_of_mem _ h1,hr t h1⟩
    ·rintro (⟨h1,h2⟩ | ⟨h1,(⟨u,h2,h3,h4⟩ | ⟨h2,h3⟩)⟩)
     ·rcases List.mem_cons.1 h1 with e | h1
      ·exact absurd (e ▸ c2) h2
      ·exact Or.inr h1
     ·rcases List.mem_cons.1 h2 with e | h2
      ·rw [e] at h4
       exact Or.inl (Prod.ext (h1.trans c2.symm) h4)
      ·exact absurd h3 (hr u h2)
     ·exact absurd c2 (h3 s (by simp))
   ·rename_i c2
    have hlt:=ltT_three c c2
    have hall:∀ u∈s :: r,u.1≠at_:=fun u hu e=>by
     rcases List.mem_cons.1 hu with e2 | hu
     ·exact c2 (e2 ▸ e)
     ·have:=ltT_trans _ _ _ hlt (hp.1 u hu)
      rw [e] at this
      exact ltT_irr _ this
    rw [List.mem_cons]
    constructor
    ·rintro (rfl | h1)
     ·exact Or.inr ⟨rfl,Or.inr ⟨rfl,hall⟩⟩
     ·exact Or.inl ⟨h1,hall t h1⟩
    ·rintro (⟨h1,h2⟩ | ⟨h1,(⟨u,h2,h3,h4⟩ | ⟨h2,h3⟩)⟩)
     ·exact Or.inr h1
     ·exact absurd h3 (hall u h2)
     ·exact Or.inl (Prod.ext h1 h2)
theorem insS_sorted {h:Nat→Int} {i:Nat} {at_:Int×Int×Int}:∀ {S:List ((Int×Int×Int)×List Nat)},S.Pairwise (fun a b=>ltT a.1 b.1)→(insS h i at_ S).Pairwise (fun a b=>ltT a.1 b.1)
 | [],_=>by simp [insS]
 | s :: r,hp=>by
  have hp0:=hp
  rw [List.pairwise_cons] at hp
  unfold insS
  split
  ·rename_i c
   rw [ltB_iff] at c
   rw [List.pairwise_cons]
   refine ⟨fun t ht=>?_,insS_sorted hp.2⟩
   rcases (mem_insS hp.2 t).1 ht with ⟨h1,_⟩ | ⟨h1,_⟩
   ·exact hp.1 t h1
   ·rw [h1]
    exact c
  ·rename_i c
   rw [ltB_iff] at c
   split
   ·rw [List.pairwise_cons]
    exact hp
   ·rename_i c2
    have hlt:=ltT_three c c2
    rw [List.pairwise_cons]
    refine ⟨fun t ht=>?_,hp0⟩
    rcases List.mem_cons.1 ht with e | ht
    ·rw [e]
     exact hlt
    ·exact ltT_trans _ _ _ hlt (hp.1 t ht)
theorem Heap.ins {n:Nat} {pl:Nat→Int×Int×Int} {h:Nat→Int} {S:List ((Int×Int×Int)×List Nat)} (H:Heap n pl h S) (hd:∀ j,j<n→pl j=pl n→h j≠h n):Heap (n+1) pl h (insS h n (pl n) S):=by
 refine ⟨insS_sorted H.1,fun t ht=>?_,fun j hj=>?_⟩
 ·rcases (mem_insS H.1 t).1 ht with ⟨h1,_⟩ | ⟨h1,(⟨s,h2,h3,h4⟩ | ⟨h2,_⟩)⟩
  ·obtain ⟨a,b,c⟩:=H.2.1 t h1
   exact ⟨a,b,fun j hj=>⟨by have:=(c j hj).1;omega,(c j hj).2⟩⟩
  ·obtain ⟨_,b,c⟩:=H.2.1 s h2
   rw [h4,h1]
   refine ⟨fun e=>?_,insN_sorted b fun j hj=>hd j (c j hj).1 ((c j hj).2.trans h3),fun j hj=>?_⟩
   ·have:n∈insN h n s.2:=mem_insN.2 (Or.inl rfl)
    rw [e] at this
    simp at this
   ·rcases mem_insN.1 hj with e | hj
    ·rw [e]
     exact ⟨by omega,rfl⟩
    ·exact ⟨by have:=(c j hj).1;omega,(c j hj).2.trans h3⟩
  ·rw [h2,h1]
   refine ⟨by simp,by simp,fun j hj=>?_⟩
   simp at hj
   rw [hj]
   exact ⟨by omega,rfl⟩
 ·by_cases e:pl j=pl n
  ·by_cases hs:∃ s∈S,s.1=pl n
   ·obtain ⟨s,h1,h2⟩:=hs
    refine ⟨(pl n,insN h n s.2),(mem_insS H.1 _).2 (Or.inr ⟨rfl,Or.inl ⟨s,h1,h2,rfl⟩⟩),mem_insN.2 ?_⟩
    by_cases ej:j=n
    ·exact Or.inl ej
    ·exact Or.inr ((H.mem h1 j).2 ⟨by omega,e.trans h2.symm⟩)
   ·have hs':∀ s∈S,s.1≠pl n:=fun s h1 h2=>hs ⟨s,h1,h2⟩
    refine ⟨(pl n,[n]),(mem_insS H.1 _).2 (Or.inr ⟨rfl,Or.inr ⟨rfl,hs'⟩⟩), ?_⟩
    by_cases ej:j=n
    ·simp [ej]
    ·obtain ⟨s,h1,h2⟩:=H.2.2 j (by omega)
     exact absurd (((H.2.1 s h1).2.2 j h2).2.symm.trans e) (hs' s h1)
  ·have hj':j<n:=by
    rcases Nat.lt_or_ge j n with h' | h'
    ·exact h'
    ·have:j=n:=by omega
     rw [this] at e
     exact absurd rfl e
   obtain ⟨s,h1,h2⟩:=H.2.2 j hj'
   exact ⟨s,(mem_insS H.1 s).2 (Or.inl ⟨h1,fun e2=>e (((H.2.1 s h1).2.2 j h2).2.trans e2)⟩),h2⟩
theorem heap_nil (pl:Nat→Int×Int×Int) (h:Nat→Int):Heap 0 pl h []:=⟨by simp,by simp,fun j hj=>by omega⟩
end Go.Proofs.YtgpjaecgkkgehaaGreatDoor
