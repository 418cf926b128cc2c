/- A part of the proof of foldFlat_holds. -/
import Derived.Test.YtgpjaecgkkgehaaGreatDoorQfau
import Derived.Test.YtgpjaecgkkgehaaGreatDoorQfai
import Derived.RangeFuncNested
import Derived.RangeFuncBound
import Derived.RangeFuncCalls
import Derived.RangeFuncLeaves
import Derived.RangeFuncBox
import Derived.Shelf.Abstract
import Derived.Shelf.RegionOpen
import Derived.WalkKit
import Derived.OwnWalkIn
import Derived.TacticsInMore
import Derived.LoopNIn
import Derived.LoopIn
import Derived.Sort.LoopGhostIn
import Derived.Sort.MapsRangeIn
import Derived.Maps.OwnIn
import Derived.Maps.RangeRun
import Derived.Test.YtgpjaecgkkgehaaGreatDoorQfam
namespace Go.Proofs.YtgpjaecgkkgehaaGreatDoor
open Go.RowKit Go.ChangeMaps
def TGP (w:World) (base ra:Nat) (vt:Value) (G:Int×Int×Int→List Int):Prop :=
 ∃ ls clock,TEM w ra ls clock∧TGood ls clock∧(∀ e,Tlk ls e=none→G e=[]) ∧
  (∀ e v,Tlk ls e=some v→w.ownsRow base 3 1 v (G e).length ((G e).map (Value.int .i64))∧G e≠[]∧(vt.ownBlock=none∨v.ownBlock≠vt.ownBlock)) ∧
  (∀ e e' v v',e≠e'→Tlk ls e=some v→Tlk ls e'=some v'→v.ownBlock≠v'.ownBlock)
theorem TEM.lt {w:World} {r:Nat} {ls:List ((Int×Int×Int)×Value×Nat)} {c:Nat} (h:TEM w r ls c):r<w.heap.size:=(Array.getElem?_eq_some_iff.1 h).1
theorem TEM.grown {w w':World} {r:Nat} {ls:List ((Int×Int×Int)×Value×Nat)} {c:Nat} {row:Option Nat} (h:TEM w r ls c) (hg:w.grownBy w' row) (hne:some r≠row):TEM w' r ls c:=(hg.block r h.lt hne).trans h
theorem TGP.kept {w w':World} {base ra:Nat} {vt:Value} {G:Int×Int×Int→List Int} (h:TGP w base ra vt G) (hb:Below w.heap.size w w'):TGP w' base ra vt G:=by
 obtain ⟨ls,c,h1,h2,h3,h4,h5⟩:=h
 refine ⟨ls,c,h1.grown (bl_grown hb) (by simp),h2,h3,fun e v he=>?_,h5⟩
 obtain ⟨a1,a2,a3⟩:=h4 e v he
 exact ⟨own_below a1 hb,a2,a3⟩
theorem TGP.entry {w:World} {base ra:Nat} {vt:Value} {G:Int×Int×Int→List Int} (h:TGP w base ra vt G) (hra:ra<base) (hvt:∀ g,vt.ownBlock=some g→g<w.heap.size) (e:Int×Int×Int) (n:Int) :
  ∃ v0 st W2,(Instr.mapEntry 200 (.map (some ra)) (Tek e)).run Tryz.prog w=.ok (.tuple #[v0,.int .i64 st]) W2∧w.grownBy W2 (some ra)∧W2.heap.size=w.heap.size∧W2.ownsRow base 3 1 v0 (G e).length ((G e).map (Value.int .i64)) ∧
   ∀ v' W3,W2.grownBy W3 v0.ownBlock→W3.ownsRow base 3 1 v' ((G e).length+1) ((G e).map (Value.int .i64) ++ [.int .i64 n])→(v'.ownBlock=v0.ownBlock∨v'.ownBlock=some W2.heap.size) →
    ∃ W4,(Instr.entryStore 200 (.map (some ra)) (.int .i64 st) v').run Tryz.prog W3=.ok () W4∧W3.grownBy W4 (some ra)∧TGP W4 base ra vt (fun j=>if j=e then G e ++ [n] else G j):=by
 obtain ⟨ls,c,h1,h2,h3,h4,h5⟩:=h
 obtain ⟨st,ls1,c1,hrun,hst⟩:=Tentry27 Tryz.underlying200 zero70 h1 h2 e
 have hb:=h1
 unfold TEM at hb
 have hg1:=grown_set hb (.map (ls1.map TtoE).toArray c1)
 have hne:∀ {W:World} {v:Value} {n:Nat} {xs:List Value},W.ownsRow base 3 1 v n xs→v.ownBlock=none∨v.ownBlock≠some ra:=fun {W v n xs} ho=>by
  cases hu:v.ownBlock with
  | none=>exact Or.inl rfl
  | some g =>
   refine Or.inr (fun e1=>?_)
   have:=(ho.lt g hu).1
   simp at e1
   omega
 have hv0:(setBlock w ra (.map (ls1.map TtoE).toArray c1)).ownsRow base 3 1 ((Tlk ls e).getD (.slice none 0 0)) (G e).length ((G e).map (Value.int .i64)):=by
  cases hl:Tlk ls e with
  | none =>
   rw [h3 e hl]
   exact World.ownsRow_nil _ _ _ _
  | some v =>
   have a:=(h4 e v hl).1
   exact a.kept hg1 (hne a)
 have hsz:(setBlock w ra (.map (ls1.map TtoE).toArray c1)).heap.size=w.heap.size:=by simp [setBlock]
 refine ⟨_,(st:Int),_,hrun,hg1,hsz,hv0,fun v' W3 hg2 hown hloc=>?_⟩
 obtain ⟨ls',c',g1,g2,_,g3⟩:=hst v'
 have hem:TEM W3 ra ls1 c1:=by
  have e0:TEM (setBlock w ra (.map (ls1.map TtoE).toArray c1)) ra ls1 c1:=heap_setBlock_same hb _
  refine e0.grown hg2 ?_
  rcases hne hv0 with e1 | e1
  ·rw [e1]
   simp
  ·exact fun e2=>e1 e2.symm
 have hg3:=grown_set hem (.map (ls'.map TtoE).toArray c')
 refine ⟨_,g3 W3 hem,hg3,ls',c',heap_setBlock_same hem _,g1,fun j hj=>?_,fun j v hj=>?_,fun j j' v v2 hjj hj hj'=>?_⟩
 ·rw [g2 j] at hj
  by_cases e1:j=e
  ·rw [if_pos e1] at hj
   cases hj
  ·rw [if_neg e1] at hj
   dsimp only
   rw [if_neg e1]
   exact h3 j hj
 ·rw [g2 j] at hj
  by_cases e1:j=e
  ·dsimp only
   rw [if_pos e1] at hj ⊢
   simp at hj
   subst hj
   refine ⟨?_,by simp, ?_⟩
   ·have:=hown.kept hg3 (hne hown)
    simpa using this
   ·rcases hloc with hl | hl
    ·cases hlk:Tlk ls e with
     | none =>
      rw [hlk] at hl
      have:v'.ownBlock=none:=by rw [hl];rfl
      obtain ⟨g,hg,_⟩:=own_some hown (by omega)
      rw [hg] at this
      cases this
     | some v =>
      rw [hlk] at hl
      rw [hl]
      exact (h4 e v hlk).2.2
    ·rw [hl]
     cases hvb:vt.ownBlock with
     | none=>exact Or.inl rfl
     | some g =>
      have:=hvt g hvb
      refine Or.inr (fun e2=>?_)
      simp at e2
      omega
  ·dsimp only
   rw [if_neg e1] at hj ⊢
   obtain ⟨a1,a2,a3⟩:=h4 j v hj
   refine ⟨?_,a2,a3⟩
   have b1:=a1.kept hg1 (hne a1)
   have b2:W3.ownsRow base 3 1 v (G j).length ((G j).map (Value.int .i64)):=by
    refine b1.kept hg2 ?_
    cases hlk:Tlk ls e with
    | none =>
     obtain ⟨g,hg,_⟩:=own_some a1 (List.length_pos_iff.2 a2)
     rw [hg]
     exact Or.inr (by simp [Value.ownBlock])
    | some v0=>exact Or.inr (h5 j e v v0 e1 hj hlk)
   exact b2.kept hg3 (hne b2)
 ·rw [g2 j] at hj
  rw [g2 j'] at hj'
  have fresh:∀ i u,i≠e→Tlk ls i=some u→u.ownBlock≠v'.ownBlock:=fun i u hi hu=>by
   obtain ⟨a1,a2,_⟩:=h4 i u hu
   obtain ⟨g,hg,_,hg3⟩:=own_some a1 (List.length_pos_iff.2 a2)
   rcases hloc with hl | hl
   ·cases hlk:Tlk ls e with
    | none =>
     rw [hlk] at hl
     rw [hl,hg]
     simp [Value.ownBlock]
    | some v0 =>
     rw [hlk] at hl
     rw [hl]
     exact h5 i e u v0 hi hu hlk
   ·rw [hl,hg,hsz]
    intro e2
    simp at e2
    omega
  by_cases e1:j=e
  ·rw [if_pos e1] at hj
   rw [if_neg (fun e2=>hjj (e1.trans e2.symm))] at hj'
   simp at hj
   subst hj
   exact fun e2=>fresh j' v2 (fun e3=>hjj (e1.trans e3.symm)) hj' e2.symm
  ·rw [if_neg e1] at hj
   by_cases e3:j'=e
   ·rw [if_pos e3] at hj'
    simp at hj'
    subst hj'
    exact fresh j v e1 hj
   ·rw [if_neg e3] at hj'
    exact h5 j j' v v2 hjj hj hj'
end Go.Proofs.YtgpjaecgkkgehaaGreatDoor
namespace Go.Proofs.YtgpjaecgkkgehaaGreatDoor
open Go.RowKit Go.Shelf Go.ChangeMaps
attribute [local go_sem] Oper.semAt_some
def Rec (fn:FuncId) (tmps:Array Value) (ps:Array Tmp) (assign body:Code) (D:Nat) (st:LoopState):Loop:={ state:=st,pending:=none,fn:=fn,tmps:=tmps,params:=ps,assign:=assign,body:=body,defers:=D }
theorem range_outer {P:Program} {n:Nat} {g:Operand} {ps:Array Tmp} {assign body:Code} {Q:Exit→Act→World→Prop} {a:Act} {w:World} {gf:Nat} {lb:Array Value} (hg:a.eval g=.func (.func gf) #[] lb) (eg:∀ args w,(callFunc gf args).run P w=.ok (.enter gf args) w)
  (h:∀ fn,CallsIn .wide (n - 1) P gf (#[.func (.yield (w.heap.size+1)) #[] #[]] ++ lb) ((w.alloc (.deferred (some []))).alloc (.loop (Rec fn a.tmps ps assign body w.heap.size .ready))) fun e W=>(∃ v,e=.returned v)∧W.heap[w.heap.size+1]?=some (.loop (Rec fn a.tmps ps assign body w.heap.size .ready))∧Q .normal { a with defers:={ target:=.collected w.heap.size,args:=#[] } :: a.defers } (W.putObj (w.heap.size+1) (.loop (Rec fn a.tmps ps assign body w.heap.size .exhausted)))) :
  (Code.rangeFunc g ps assign body).wpIn .wide n P Q a w:=by
 refine wpIn_rangeFunc ?_
 intro fn _
 refine ⟨w.heap.size+1,[{ target:=.collected w.heap.size,args:=#[] }],((w.alloc (.deferred (some []))).alloc (.loop (Rec fn a.tmps ps assign body w.heap.size .ready))),{ target:=.fn (.func gf) lb,args:=#[.func (.yield (w.heap.size+1)) #[] #[]] },((w.alloc (.deferred (some []))).alloc (.loop (Rec fn a.tmps ps assign body w.heap.size .ready))),gf,#[.func (.yield (w.heap.size+1)) #[] #[]] ++ lb,((w.alloc (.deferred (some []))).alloc (.loop (Rec fn a.tmps ps assign body w.heap.size .ready))),run_enterLoop_outer _ _ _ _ _, ?_,fun _ _=>trivial, ?_,fun h=>(by cases h), ?_⟩
 ·simp only [resolve,hg]
  simp [go_sem]
 ·simp [invoke,go_sem,eg]
 ·refine (h fn).mono ?_
  rintro e W ⟨⟨v,rfl⟩,hl,hq⟩
  exact ⟨none,_,run_endLoop hl (by simp [Rec]),hq⟩
theorem round_of {P:Program} {l m:Nat} {R:Ending→World→Prop} {fn:FuncId} {tmps:Array Value} {ps:Array Tmp} {assign body:Code} {D:Nat} {W:World} {args:Array Value} (hl:W.heap[l]?=some (.loop (Rec fn tmps ps assign body D .ready))) (hs:args.size=ps.size) (a₁:Act)
  (hassign:∀ K:Act→World→Prop,K a₁ W→assign.wpIn (Fence.wide.inRound l) m P (Exit.then K (fun _ _ _=>False)) { tmps:=(ps.zip args).foldl (fun t (p,v)=>t.setIfInBounds p v) tmps,defers:=[] } W)
  (hbody:body.wpIn (Fence.wide.inRound l) m P (fun e _ W3=>e=.normal∧W3.heap[l]?=some (.loop (Rec fn tmps ps assign body D .busy))∧R (.returned (.bool true)) (W3.putObj l (.loop (Rec fn tmps ps assign body D .ready)))) a₁ (W.putObj l (.loop (Rec fn tmps ps assign body D .busy)))) :
  YieldAt .wide m P l args W R:=by
 refine ⟨fn,_,assign,body,run_yield hl hs,roundIn_of_wpIn trivial (hassign _ ⟨_,run_beginRound hl rfl,wpIn_mono hbody ?_⟩)⟩
 rintro e a3 W3 ⟨rfl,h3,hr⟩
 exact ⟨_,_,run_endRound none h3,hr⟩
theorem RoundIn_any {m m':Nat} {P:Program} {l:Nat} {f:FuncId} {tmps:Array Value} {assign body:Code} {w:World} {R:Ending→World→Prop} (h:RoundIn .wide m P l f tmps assign body w R):RoundIn .wide m' P l f tmps assign body w R:=⟨h.1,fun c cs _=>h.2 c cs (room_wide _)⟩
structure Frm (J:Option (Nat×Obj)→List ((Int×Int×Int)×Value×Nat)→World→Prop):Prop where
 gro:∀ {fb vis W W'},J fb vis W→Below W.heap.size W W'→J fb vis W'
 new:∀ {vis W o},J none vis W→J (some (W.heap.size,o)) vis (W.alloc o)
 put:∀ {b o vis W} (o':Obj),J (some (b,o)) vis W→J (some (b,o')) vis (W.putObj b o')
 here:∀ {b o vis W},J (some (b,o)) vis W→W.heap[b]?=some o
 tail:∀ {b o vis W},J (some (b,o)) vis W→J none vis W
def JJ (n₀:Nat) (C:(Nat→Prop)→List ((Int×Int×Int)×Value×Nat)→World→Prop) (fb:Option (Nat×Obj)) (vis:List ((Int×Int×Int)×Value×Nat)) (W:World):Prop:=(∀ x,fb=some x→W.heap[x.1]?=some x.2∧n₀≤x.1)∧∃ mb,C mb vis W∧∀ x,fb=some x→¬ mb x.1
theorem put_other {W:World} {b c:Nat} {o:Obj} (h:c≠b):(W.putObj b o).heap[c]?=W.heap[c]?:=World.putObj_heap_other h
theorem Frm.of {n₀:Nat} {C:(Nat→Prop)→List ((Int×Int×Int)×Value×Nat)→World→Prop} (s0:∀ {mb k W},C mb k W→n₀≤W.heap.size) (sg:∀ {mb k W W' row},C mb k W→W.grownBy W' row→(∀ r,row=some r→n₀≤r∧¬ mb r)→C mb k W') (s3:∀ {mb k W b},C mb k W→mb b→b<W.heap.size):Frm (JJ n₀ C):={
 gro:=by
  rintro fb k W W' ⟨h2,mb,h3,h4⟩ hb
  exact ⟨fun x hx=>⟨(hb.block x.1 (Array.getElem?_eq_some_iff.1 (h2 x hx).1).1).trans (h2 x hx).1,(h2 x hx).2⟩,mb,sg h3 (bl_grown hb) (fun r e=>by cases e),h4⟩
 new:=by
  rintro k W o ⟨_,mb,h3,_⟩
  refine ⟨fun x hx=>?_,mb,sg (row:=none) h3 (World.grownBy_alloc _ _ _) (fun r e=>by cases e),fun x hx hm=>?_⟩
  ·cases hx
   exact ⟨heap_alloc_new W o,s0 h3⟩
  ·cases hx
   have:=s3 h3 hm
   simp only at this
   omega
 put:=by
  rintro b o k W o' ⟨h2,mb,h3,h4⟩
  have hb:=h2 (b,o) rfl
  have hlt:=(Array.getElem?_eq_some_iff.1 hb.1).1
  refine ⟨fun x hx=>?_,mb,sg h3 (grownBy_putObj' W b o') (fun r e=>by cases e;exact ⟨hb.2,h4 (b,o) rfl⟩),fun x hx=>?_⟩
  ·cases hx
   exact ⟨World.putObj_heap_same hlt,hb.2⟩
  ·cases hx
   exact h4 (b,o) rfl
 here:=by
  rintro b o k W ⟨h2,_⟩
  exact (h2 (b,o) rfl).1
 tail:=by
  rintro b o k W ⟨h2,mb,h3,h4⟩
  refine ⟨?_,mb,h3, ?_⟩ <;> (intro x hx;cases hx) }
theorem run_range_tm {w:World} {rm c:Nat} {ls:List ((Int×Int×Int)×Value×Nat)} (h:TEM w rm ls c):(Instr.range 200 (.map (some rm))).run Tryz.prog w=.ok (.pointer (some ⟨w.heap.size,0,none⟩)) (w.alloc (.mapIter (some rm) c #[] c)):=by
 unfold TEM at h
 simp [Instr.range,run_underlying Tryz.underlying200,MapKept.run_getObj_map h,Result.andThen]
theorem tm_same {w:World} {r:Nat} (h:r<w.heap.size) (o:Obj):(w.putObj r o).heap[r]?=some o:=World.putObj_heap_same h
def AllC (ls:List ((Int×Int×Int)×Value×Nat)) (seen:List Nat):Prop := ∀ x∈ls,x.2.2∈seen
def OneC (ls:List ((Int×Int×Int)×Value×Nat)) (seen:List Nat) (x:((Int×Int×Int)×Value×Nat)):Prop:=x∈ls∧x.2.2 ∉ seen
theorem wpListIn_next_tm {F:Fence} {n:Nat} {w:World} {ops:Array Oper} {rest:List Oper} {o:Oper} {a:Act} {Q:Exit→Act→World→Prop} (hg:o.guard=none) (it:Operand) (hop:o.op=Op.next it false) (rm r c:Nat) (ls:List ((Int×Int×Int)×Value×Nat)) (seen:List Nat)
  (hit:a.eval it=.pointer (some ⟨r,0,none⟩)) (hm:TEM w rm ls c) (hr:w.heap[r]?=some (.mapIter (some rm) c seen.toArray c)) (hG:TGood ls c) (hne:r≠rm)
  (hDone:AllC ls seen→wpListIn F n Tryz.prog ops Q rest (a.put o.dst (.tuple #[.bool false])) w)
  (hMore:∀ (k1 k2 k3:Int) (xv:Value) (st:Nat) (W1:World),OneC ls seen ((k1,k2,k3),xv,st)→Below w.heap.size w W1→(Instr.entry (.pointer (some ⟨r,0,none⟩))).run Tryz.prog (W1.putObj r (.mapIter (some rm) c (seen ++ [st]).toArray c))=.ok (.tuple #[.agg #[.int .i64 k1,.int .i64 k2,.int .i64 k3],xv]) (W1.putObj r (.mapIter (some rm) c (seen ++ [st]).toArray c)) →
   wpListIn F n Tryz.prog ops Q rest (a.put o.dst (.tuple #[.bool true,.agg #[.int .i64 k1,.int .i64 k2,.int .i64 k3],xv])) (W1.putObj r (.mapIter (some rm) c (seen ++ [st]).toArray c))):wpListIn F n Tryz.prog ops Q (o :: rest) a w:=by
 refine wpListIn_plain hg fun K' hK'=>?_
 unfold Oper.wpIn
 refine ⟨by simp [Oper.about,hop], ?_⟩
 rw [Oper.semAt_plain F _ _ (by rw [hop];intro c hc';cases hc')]
 have hold:∀ x∈((ls.map TtoE).toArray).toList,x.born<c:=fun x hx=>by
  simp only [List.mem_map] at hx
  obtain ⟨y,hy,rfl⟩:=hx
  exact hG.2.2 y hy
 rcases run_next_at (P:=Tryz.prog) w o.type r rm c c seen.toArray _ c hr hm hold (Nat.le_refl _) with ⟨h0,hrun⟩ | ⟨e,he,w1,hw1,hrun⟩
 ·simp [execOp,hop,hit,hrun,Result.andThen]
  refine hK' _ _ (hDone (fun x hx=>?_))
  have:leftOf (ls.map TtoE).toArray seen.toArray=#[]:=Array.eq_empty_of_size_eq_zero h0
  unfold leftOf at this
  rw [Array.filter_eq_empty_iff] at this
  have:=this (TtoE x) (by rw [List.mem_toArray];exact List.mem_map.2 ⟨x,hx,rfl⟩)
  simpa [TtoE] using this
 ·have hel:∃ x∈ls,x.2.2 ∉ seen∧TtoE x=e:=by
   unfold leftOf at he
   simp only [Array.toList_filter,List.mem_filter,List.mem_map] at he
   obtain ⟨⟨x,hx,rfl⟩,hs⟩:=he
   exact ⟨x,hx,by simpa [TtoE] using hs,rfl⟩
  obtain ⟨x,hx,hxs,rfl⟩:=hel
  have hm1:TEM w1 rm ls c∧w1.heap[r]?=some (.mapIter (some rm) c seen.toArray c)∧Below w.heap.size w w1:=by
   rcases hw1 with rfl | rfl
   ·exact ⟨hm,hr,bl_refl _⟩
   ·exact ⟨hm,hr,bl_drew (bl_refl _)⟩
  obtain ⟨m1,r1,b1⟩:=hm1
  simp [execOp,hop,hit,hrun,Result.andThen]
  obtain ⟨⟨k1,k2,k3⟩,xv,st⟩:=x
  refine hK' _ _ (hMore k1 k2 k3 xv st w1 ⟨hx,hxs⟩ b1 ?_)
  have zr:=(Array.getElem?_eq_some_iff.1 r1).1
  have e1:=run_entry_at (P:=Tryz.prog) (w1.putObj r (.mapIter (some rm) c (seen ++ [st]).toArray c)) r rm c seen.toArray (ls.map TtoE).toArray c (TtoE ((k1,k2,k3),xv,st)) (by
   rw [tm_same zr]
   simp [TtoE]) ((put_other (Ne.symm hne)).trans m1) (by simpa using List.mem_map.2 ⟨_,hx,rfl⟩) (by
   have:=hG.2.1
   simpa [List.map_map,TtoE,Function.comp_def] using this)
  exact e1
def Vis (ls vis:List ((Int×Int×Int)×Value×Nat)):Prop:=(∀ x∈vis,x∈ls)∧(vis.map (fun x=>x.2.2)).Nodup
theorem stamp_len:∀ (a b:List Nat),a.Nodup→(∀ x∈a,x∈b)→a.length≤b.length
 | [],_,_,_=>by simp
 | x :: r,b,h,hs=>by
  rw [List.nodup_cons] at h
  have hx:=hs x (by simp)
  have h1:=stamp_len r (b.erase x) h.2 (fun y hy=>by
   have hne:y≠x:=fun e=>h.1 (e ▸ hy)
   exact (List.mem_erase_of_ne hne).2 (hs y (by simp [hy])))
  rw [List.length_erase_of_mem hx] at h1
  have:=List.length_pos_of_mem hx
  rw [List.length_cons]
  omega
theorem Vis.len {ls vis:List ((Int×Int×Int)×Value×Nat)} {c:Nat} (_hG:TGood ls c) (h:Vis ls vis):vis.length≤ls.length:=by
 have h1:=stamp_len (vis.map (fun x=>x.2.2)) (ls.map (fun x=>x.2.2)) h.2 (fun y hy=>by
  obtain ⟨x,hx,rfl⟩:=List.mem_map.1 hy
  exact List.mem_map.2 ⟨x,h.1 x hx,rfl⟩)
 simpa using h1
theorem Vis.more {ls vis:List ((Int×Int×Int)×Value×Nat)} {x:((Int×Int×Int)×Value×Nat)} (h:Vis ls vis) (hx:x∈ls) (hn:x.2.2 ∉ vis.map (fun x=>x.2.2)):Vis ls (vis ++ [x]):=by
 refine ⟨fun y hy=>?_, ?_⟩
 ·rcases List.mem_append.1 hy with hy | hy
  ·exact h.1 y hy
  ·simp at hy
   rw [hy]
   exact hx
 ·rw [List.map_append,List.nodup_append]
  refine ⟨h.2,by simp,fun a ha b hb e=>?_⟩
  simp at hb
  exact hn (by rw [← hb,← e];exact ha)
theorem inj_stamp {ls:List ((Int×Int×Int)×Value×Nat)} {c:Nat} (hG:TGood ls c) {x y:((Int×Int×Int)×Value×Nat)} (hx:x∈ls) (hy:y∈ls) (e:x.2.2=y.2.2):x=y:=by
 obtain ⟨i,hi,rfl⟩:=List.getElem_of_mem hx
 obtain ⟨j,hj,rfl⟩:=List.getElem_of_mem hy
 have h2:=hG.2.1
 have hp:=List.pairwise_iff_getElem.1 h2
 rcases Nat.lt_trichotomy i j with q | q | q
 ·exact absurd (by rw [List.getElem_map,List.getElem_map];exact e) (hp i j (by simpa using hi) (by simpa using hj) q)
 ·subst q
  rfl
 ·exact absurd (by rw [List.getElem_map,List.getElem_map];exact e.symm) (hp j i (by simpa using hj) (by simpa using hi) q)
theorem Vis.all {ls vis:List ((Int×Int×Int)×Value×Nat)} {c:Nat} (hG:TGood ls c) (h:Vis ls vis) (ha:∀ x∈ls,x.2.2∈vis.map (fun x=>x.2.2)):vis.Perm ls:=by
 have n1:vis.Nodup:=List.Pairwise.of_map (fun x=>x.2.2) (fun a b q e=>q (by rw [e])) h.2
 have n2:ls.Nodup:=List.Pairwise.of_map (fun x=>x.2.2) (fun a b q e=>q (by rw [e])) hG.2.1
 refine (List.perm_ext_iff_of_nodup n1 n2).2 fun x=>⟨h.1 x,fun hx=>?_⟩
 obtain ⟨y,hy,e⟩:=List.mem_map.1 (ha x hx)
 rw [← inj_stamp hG (h.1 y hy) hx e]
 exact hy
set_option maxRecDepth 100000 in
set_option maxHeartbeats 1600000 in
theorem values1_in (rm Bm c l m m':Nat) (ls:List ((Int×Int×Int)×Value×Nat)) (hG:TGood ls c) (hsl:∀ x∈ls,∃ a n q,x.2.1=.slice a n q) (J:Option (Nat×Obj)→List ((Int×Int×Int)×Value×Nat)→World→Prop) (hF:Frm J)
  (hD:∀ {fb vis W},J fb vis W→W.cell? ⟨Bm,0,none⟩=some (.map (some rm))∧TEM W rm ls c)
  (hY:∀ {fb vis x W},J fb vis W→x∈ls→vis.length<ls.length→YieldAt .wide m Tryz.prog l #[x.2.1] W fun e W'=>e=.returned (.bool true)∧J fb (vis ++ [x]) W')
  (W:World) (h0:J none [] W) :
  CallsIn .wide m' Tryz.prog 175 #[.func (.yield l) #[] #[],.pointer (some ⟨Bm,0,none⟩)] W fun e W'=>(∃ v,e=.returned v)∧∃ vis,vis.Perm ls∧J none vis W':=by
 refine callsIn_of_wp Tryz.func175 rfl trivial ?_ rfl
 simp only [Tryz.ntmps175,List.size_toArray,List.length_cons,List.length_nil,Nat.reduceAdd,Nat.reduceSub,Array.replicate_succ,Array.replicate_zero,List.push_toArray,List.append_toArray,List.nil_append,List.cons_append]
 obtain ⟨hd0,hm0⟩:=hD h0
 have hrr:=run_range_tm hm0
 have zm:=hm0.lt
 obtain ⟨r,hr⟩:∃ r,r=W.heap.size:=⟨_,rfl⟩
 have h1:=hF.new (o:=.mapIter (some rm) c #[] c) h0
 have HD:Hid (∀ fb vis W,J fb vis W→W.cell? ⟨Bm,0,none⟩=some (.map (some rm))∧TEM W rm ls c):=fun _ _ _ h=>hD h
 have HY:Hid (∀ fb vis x W,J fb vis W→x∈ls→vis.length<ls.length→YieldAt .wide m Tryz.prog l #[x.2.1] W fun e W'=>e=.returned (.bool true)∧J fb (vis ++ [x]) W'):=fun _ _ _ _ h1 h2 h3=>hY h1 h2 h3
 have HSL:Hid (∀ x∈ls,∃ a n q,x.2.1=.slice a n q):=hsl
 have HG:Hid (TGood ls c):=hG
 have HF:Hid (Frm J):=hF
 have HJ:Hid (J (some (r,.mapIter (some rm) c #[] c)) [] (W.alloc (.mapIter (some rm) c #[] c))):=by rw [hr];exact h1
 have HNE:Hid (r≠rm):=by
  have:r≠rm:=by omega
  exact this
 clear hD hY hsl hG hF h1 h0 zm
 gi_wp2
 rw [← hr]
 obtain ⟨W1,hW1⟩:∃ W1,W1=W.alloc (.mapIter (some rm) c #[] c):=⟨_,rfl⟩
 rw [← hW1] at HJ ⊢
 clear hW1 hrr hm0 hd0 hr
 gi_loopg [] ls.length (fun gk wx=>∃ vis:List ((Int×Int×Int)×Value×Nat),gk=ls.length - vis.length∧Vis ls vis∧J (some (r,.mapIter (some rm) c (vis.map (fun x=>x.2.2)).toArray c)) vis wx)
 case atStart=>exact ⟨[],by simp,⟨by simp,by simp⟩,HJ.out⟩
 case round =>
  clear HJ
  obtain ⟨vis,rfl,hV,hJ⟩:=hrel
  have hm:=(HD.out _ _ _ hJ).2
  have hit:=HF.out.here hJ
  gi_wp2_with (gi_at_next;refine wpListIn_next_tm rfl _ rfl rm r c ls (vis.map (fun x=>x.2.2)) rfl hm hit HG.out HNE.out ?done ?more)
  case done =>
   intro hall
   gi_wp2
   go_end0
   exact ⟨⟨_,rfl⟩,vis,hV.all HG.out hall,HF.out.tail hJ⟩
  case more =>
   intro k1 k2 k3 xv st W2 hone hb hen
   obtain ⟨x,hxe⟩:∃ x:((Int×Int×Int)×Value×Nat),x=((k1,k2,k3),xv,st):=⟨_,rfl⟩
   rw [← hxe] at hone
   obtain ⟨hx,hxn⟩:=hone
   obtain ⟨a3,n3,q3,hv⟩:=HSL.out x hx
   have hst:st=x.2.2:=by rw [hxe]
   have hxv:xv=.slice a3 n3 q3:=by rw [← hv,hxe]
   rw [hst] at hen ⊢
   rw [hxv] at hen ⊢
   clear hxe
   have hV2:=hV.more hx hxn
   have hl2:=hV2.len HG.out
   rw [List.length_append,List.length_singleton] at hl2
   have hJ2:=HF.out.put (.mapIter (some rm) c (vis.map (fun x=>x.2.2) ++ [x.2.2]).toArray c) (HF.out.gro hJ hb)
   have hyy:=HY.out _ _ x _ hJ2 hx (by omega)
   have HV2:Hid (Vis ls (vis ++ [x])):=hV2
   rw [hv] at hyy
   generalize W2.putObj r (.mapIter (some rm) c (vis.map (fun x=>x.2.2) ++ [x.2.2]).toArray c)=W3 at hyy hen ⊢
   obtain ⟨fn,tmps,assign,body,hy,hR⟩:=hyy
   clear hm hit hJ hV hb hJ2 hV2
   gi_wp2
   refine ⟨fun h=>(by cases h),(RoundIn_any hR).mono ?_⟩
   rintro e W4 ⟨rfl,hJ4⟩
   have HJ4:Hid (J (some (r,.mapIter (some rm) c ((vis ++ [x]).map (fun x=>x.2.2)).toArray c)) (vis ++ [x]) W4):=by
    rw [List.map_append]
    exact hJ4
   clear hJ4 hy hR hen
   gi_wp2
   gi_roundg (ls.length - (vis ++ [x]).length)
   case measure =>
    rw [List.length_append,List.length_singleton]
    omega
   case rel=>exact ⟨vis ++ [x],rfl,HV2.out,HJ4.out⟩
end Go.Proofs.YtgpjaecgkkgehaaGreatDoor
