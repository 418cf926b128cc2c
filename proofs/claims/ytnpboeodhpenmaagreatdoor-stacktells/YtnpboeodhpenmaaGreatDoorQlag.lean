/- A part of it. -/
import Derived.Test.YtnpboeodhpenmaaGreatDoorQlae
import Derived.WideKeyEntry
set_option maxRecDepth 100000
set_option maxHeartbeats 40000000
namespace Go.Proofs.YtnpboeodhpenmaaGreatDoor
open Go.RowKit Go.ChangeMaps
variable {w:World} {k:E4} {a c r:Nat} {v:Value} {E T:TypeId}
def ek (e:E4):Value:=.agg #[I e.1,I e.2.1,I e.2.2.1,I e.2.2.2]
def toE (x:E4×Value×Nat):MapEntry:=⟨ek x.1,x.2.1,x.2.2⟩
theorem equal27 (a b:E4) (w:World):(Op.equal 42 (ek a) (ek b)).run Tryz.prog w=.ok (decide (a=b)) w:=by
 obtain ⟨a0,a1,c,a3⟩:=a;obtain ⟨b0,b1,b2,b3⟩:=b;have h:=eql27 a0 a1 c a3 b0 b1 b2 b3 w;have e:sameB a0 a1 c a3 b0 b1 b2 b3=decide ((a0,a1,c,a3)=(b0,b1,b2,b3)):=by simp [sameB]
 rw [e] at h;unfold ek;simp only [binOp,Sem.run_bind,Sem.run_pure] at h
 cases hr:(Op.equal 42 (.agg #[I a0,I a1,I c,I a3]) (.agg #[I b0,I b1,I b2,I b3])).run Tryz.prog w with
 | ok r w1 =>
  rw [hr] at h;simpa [Result.andThen] using h
 | halt x w1 =>
  rw [hr] at h;simp [Result.andThen] at h
theorem checkInt (em:Bool) (n:Nat) (a:Int) (w:World):(Instr.checkKey em (n+1) 3 (I a)).run Tryz.prog w=.ok () w:=by
 simp [Instr.checkKey,run_underlying Tryz.underlying3,Result.andThen]
theorem check25 (em:Bool) (n:Nat) (a b:Int) (w:World):(Instr.checkKey em (n+2) 40 (.agg #[I a,I b])).run Tryz.prog w=.ok () w:=by
 rw [show n+2=(n+1)+1 by omega];unfold Instr.checkKey;simp [run_underlying Tryz.underlying40,go_sem,checkInt]
theorem check27a (em:Bool) (n:Nat) (a b c d:Int) (w:World):(Instr.checkKey em (n+3) 42 (.agg #[I a,I b,I c,I d])).run Tryz.prog w=.ok () w:=by
 rw [show n+3=(n+2)+1 by omega];unfold Instr.checkKey;simp [run_underlying Tryz.underlying42,go_sem,check25]
theorem check27 (em:Bool) (a:E4) (w:World):(Instr.checkKey em 10000 42 (ek a)).run Tryz.prog w=.ok () w:=check27a em 9997 _ _ _ _ w
theorem stays27 (a:E4) (w:World):(Instr.keyThatStays (ek a) (ek a)).run Tryz.prog w=.ok (ek a) w:=by
 have:Instr.sameBits 10000 (ek a) (ek a)=true:=by
  unfold ek;show Instr.sameBits (9999+1) _ _=true
  simp [Instr.sameBits]
 simp [Instr.keyThatStays,this]
theorem find27 (k:E4) (w:World):∀ (ls:List (E4×Value×Nat)) (i:Nat),
  ((Instr.findAsking 42 (ek k) (ls.map toE) i).run Tryz.prog w=.ok none w∧∀ x∈ls,x.1≠k) ∨
  ∃ j x,(Instr.findAsking 42 (ek k) (ls.map toE) i).run Tryz.prog w=.ok (some (i+j,x.2.1)) w∧ls[j]?=some x∧x.1=k
 | [],i=>Or.inl ⟨by simp [Instr.findAsking],ξ⟩
 | x :: r,i=>by
  by_cases h:k=x.1
  ·refine Or.inr ⟨0,x, ?_,rfl,h.symm⟩;have hq:=equal27 k x.1 w;rw [decide_eq_true h] at hq;rw [List.map_cons];simp only [Instr.findAsking,toE,Sem.run_bind,hq,Result.andThen];rfl
  ·have hq:=equal27 k x.1 w;rw [decide_eq_false h] at hq;rcases find27 k w r (i+1) with ⟨h1,h2⟩ | ⟨j,y,h1,h2,h3⟩
   ·refine Or.inl ⟨?_, ?_⟩
    ·rw [List.map_cons];simp only [Instr.findAsking,toE,Sem.run_bind,hq,Result.andThen];exact h1
    ·intro y a;rcases List.mem_cons.1 a with rfl | a
     ·exact fun e=>h e.symm
     ·exact h2 y a
   ·refine Or.inr ⟨j+1,y, ?_,by simpa using h2,h3⟩;rw [List.map_cons];simp only [Instr.findAsking,toE,Sem.run_bind,hq,Result.andThen];rw [show i+(j+1)=i+1+j by omega];exact h1
def EM (w:World) (r:Nat) (ls:List (E4×Value×Nat)) (clock:Nat):Prop:=w.heap[r]?=some (.map (ls.map toE).toArray clock)
def Good (ls:List (E4×Value×Nat)) (clock:Nat):Prop:=(ls.map (fun x=>x.1)).Nodup∧(ls.map (fun x=>x.2.2)).Nodup∧∀ x∈ls,x.2.2<clock
def lk:List (E4×Value×Nat)→Int×Int×Int×Int→Option Value
 | [],_=>none
 | x :: r,k=>if x.1=k then some x.2.1 else lk r k
theorem Vh:∀ {ls:List (E4×Value×Nat)},(∀ x∈ls,x.1≠k)→lk ls k=none
 | [],_=>rfl
 | x :: r,h=>by simp [lk,h x ξ,Vh (ls:=r) (fun y a=>h y (by simp [a]))]
theorem Kw:∀ {ls:List (E4×Value×Nat)} {j:Nat} {x:E4×Value×Nat},(ls.map (fun x=>x.1)).Nodup→ls[j]?=some x→x.1=k→lk ls k=some x.2.1
 | [],_,_,_,h,_=>by simp at h
 | y :: r,0,x,_,h,hk=>by
  simp at h;subst h;simp [lk,hk]
 | y :: r,j+1,x,hn,h,hk=>by
  simp only [List.getElem?_cons_succ] at h;simp only [List.map_cons,List.nodup_cons] at hn;have a:y.1≠k:=fun e=>hn.1 (List.mem_map.2 ⟨x,List.mem_of_getElem? h,hk.trans e.symm⟩);simp [lk,a,Kw hn.2 h hk]
theorem lk_mem:∀ {ls:List (E4×Value×Nat)},lk ls k=some v→∃ b,(k,v,b)∈ls
 | [],h=>by simp [lk] at h
 | y :: r,h=>by
  unfold lk at h;split at h
  ·rename_i e
   simp at h;subst h;subst e;exact ⟨y.2.2,ξ⟩
  ·obtain ⟨b,a⟩:=lk_mem h;exact ⟨b,by simp [a]⟩
theorem Qbo {ls:List (E4×Value×Nat)} {j:E4} (h:∀ x∈ls,x.1≠k):lk (ls ++ [(k,v,c)]) j=if j=k then some v else lk ls j:=by
 induction ls with
 | nil =>
  by_cases e:j=k
  ·simp [lk,e]
  ·have b:¬ k=j:=fun h=>e h.symm;simp [lk,e,b]
 | cons y r a =>
  have a:=a (fun x d=>h x (by simp [d]));simp only [List.cons_append,lk,a];by_cases e:j=k
  ·subst e;simp [h y ξ]
  ·simp [e]
theorem Qac:∀ {ls:List (E4×Value×Nat)} {i:Nat} {x:E4×Value×Nat} {k j:E4} {v:Value},(ls.map (fun x=>x.1)).Nodup→ls[i]?=some x→x.1=k→lk (ls.set i (k,v,x.2.2)) j=if j=k then some v else lk ls j
 | [],_,_,_,_,_,_,h,_=>by simp at h
 | y :: r,0,x,k,j,v,_,h,hk=>by
  simp at h;subst h;by_cases e:j=k
  ·simp [lk,e]
  ·have b:¬ k=j:=fun h=>e h.symm;simp [lk,e,hk,b]
 | y :: r,i+1,x,k,j,v,hn,h,hk=>by
  simp only [List.getElem?_cons_succ] at h;simp only [List.map_cons,List.nodup_cons] at hn;have a:y.1≠k:=fun e=>hn.1 (List.mem_map.2 ⟨x,List.mem_of_getElem? h,hk.trans e.symm⟩);have c:=Qac (j:=j) (v:=v) hn.2 h hk;simp only [List.set_cons_succ,lk,c];by_cases e:j=k
  ·subst e;simp [a]
  ·simp [e]
theorem set_keys {ls:List (E4×Value×Nat)} {i:Nat} {x:E4×Value×Nat} (h:ls[i]?=some x) (v:Value):(ls.set i (x.1,v,x.2.2)).map (fun x=>x.1)=ls.map (fun x=>x.1)∧(ls.set i (x.1,v,x.2.2)).map (fun x=>x.2.2)=ls.map (fun x=>x.2.2):=by
 constructor
 ·rw [List.map_set];exact WideElems.set_self _ _ _ (by simp [h])
 ·rw [List.map_set];exact WideElems.set_self _ _ _ (by simp [h])
theorem Vf {ls:List (E4×Value×Nat)} (hg:Good ls c) (h:∀ x∈ls,x.1≠k):Good (ls ++ [(k,v,c)]) (c+1):=by
 obtain ⟨g,i,g3⟩:=hg;refine ⟨?_, ?_, ?_⟩
 ·rw [List.map_append,List.nodup_append];refine ⟨g,ξ,fun a f b e=>?_⟩;obtain ⟨x,d,rfl⟩:=List.mem_map.1 f;simp at e;subst e;exact h x d
 ·rw [List.map_append,List.nodup_append];refine ⟨i,ξ,fun a f b e=>?_⟩;obtain ⟨x,d,rfl⟩:=List.mem_map.1 f;simp at e;subst e;have:=g3 x d;omega
 ·intro x d;rcases List.mem_append.1 d with d | d
  ·have:=g3 x d;omega
  ·simp at d;subst d;simp
theorem Kz {ls:List (E4×Value×Nat)} {i:Nat} {x:E4×Value×Nat} (hg:Good ls a) (h:ls[i]?=some x) (v:Value):Good (ls.set i (x.1,v,x.2.2)) a:=by
 obtain ⟨c,d,g3⟩:=hg;have b:=set_keys h v;refine ⟨b.1 ▸ c,b.2 ▸ d,fun y f=>?_⟩;have:y.2.2∈(ls.set i (x.1,v,x.2.2)).map (fun x=>x.2.2):=List.mem_map.2 ⟨y,f,rfl⟩;rw [b.2] at this;obtain ⟨z,g,e⟩:=List.mem_map.1 this;have:=g3 z g;omega
theorem findKey27 (x:Value) (a:List MapEntry) (w:World):(Instr.findKey 42 x a).run Tryz.prog w=(Instr.findAsking 42 x a).run Tryz.prog w:=by
 cases a with
 | nil=>simp [Instr.findKey,run_underlying Tryz.underlying42,Instr.findNow,Instr.findAsking]
 | cons e a=>simp [Instr.findKey,run_underlying Tryz.underlying42,Instr.findNow,Instr.sameNow]
theorem lookup27 {z:Value} (d:Tryz.prog.underlying T=some (.map 42 E)) (e:∀ u:World,(zeroValue E).run Tryz.prog u=.ok z u) {ls:List (E4×Value×Nat)} (h:EM w r ls a) (hg:Good ls a) (k:E4) :
  (Instr.lookup T (.map (some r)) (ek k) false).run Tryz.prog w=.ok ((lk ls k).getD z) w:=by
 unfold EM at h;have c:=fun em=>check27 em k w;rcases find27 k w ls 0 with ⟨h1,h2⟩ | ⟨j,x,h1,h2,h3⟩
 ·rw [Vh h2];have b:(Instr.findKey 42 (ek k) (ls.map toE)).run Tryz.prog w=.ok none w:=(findKey27 _ _ _).trans h1;simp [Instr.lookup,run_underlying d,MapKept.run_getObj_map h,c,b,e,Result.andThen]
 ·rw [Kw hg.1 h2 h3];have b:(Instr.findKey 42 (ek k) (ls.map toE)).run Tryz.prog w=.ok (some (j,x.2.1)) w:=(findKey27 _ _ _).trans (by simpa using h1);simp [Instr.lookup,run_underlying d,MapKept.run_getObj_map h,c,b,Result.andThen]
theorem Yf {a:Array MapEntry} (h:w.heap[r]?=some (.map a c)) (o:Obj):w.grownBy (setBlock w r o) (some r) :=
 ⟨rfl,rfl,rfl,by simp [setBlock],fun _ _ hi=>heap_setBlock_other h _ (fun e1=>hi (by rw [e1]))⟩
theorem entry27 {z:Value} (y:Tryz.prog.underlying T=some (.map 42 E)) (B:∀ u:World,(zeroValue E).run Tryz.prog u=.ok z u) {ls:List (E4×Value×Nat)} (h:EM w r ls a) (hg:Good ls a) (k:E4) :
  ∃ st ls1 clock1,(Instr.mapEntry T (.map (some r)) (ek k)).run Tryz.prog w=.ok (.tuple #[(lk ls k).getD z,goInt st]) (setBlock w r (.map (ls1.map toE).toArray clock1)) ∧
   ∀ val,∃ ls' clock',Good ls' clock'∧(∀ j,lk ls' j=if j=k then some val else lk ls j)∧(ls'.length=ls.length+if lk ls k=none then 1 else 0) ∧
    ∀ o,EM o r ls1 clock1→(Instr.entryStore T (.map (some r)) (goInt st) val).run Tryz.prog o=.ok () (setBlock o r (.map (ls'.map toE).toArray clock')):=by
 have m:=h;unfold EM at m;have t:=fun em=>check27 em k w;rcases find27 k w ls 0 with ⟨h1,h2⟩ | ⟨j,x,h1,h2,h3⟩
 ·have g:(Instr.findKey 42 (ek k) (ls.map toE)).run Tryz.prog w=.ok none w:=(findKey27 _ _ _).trans h1;refine ⟨a,ls ++ [(k,z,a)],a+1, ?_,fun val=>⟨ls ++ [(k,val,a)],a+1,Vf hg h2,fun j=>Qbo h2,by simp [Vh h2],fun o b=>?_⟩⟩
  ·rw [Vh h2];simp [Instr.mapEntry,run_underlying y,MapKept.run_getObj_map m,t,g,B,MapKept.run_setObj_map _ m,Result.andThen,setBlock,toE]
  ·unfold EM at b
   have c:((ls ++ [(k,z,a)]).map toE).toArray.findIdx? (fun e=>((e.born:Nat):Int) == ((a:Nat):Int))=some ls.length:=by
    rw [WideElems.findIdx_arr]
    have q:(((ls ++ [(k,z,a)]).map toE).map (fun e=>e.born)).Nodup:=by
     have:=(Vf (v:=z) hg h2).2.1;rw [List.map_map];exact this
    exact WideElems.findIdx_born q (j:=ls.length) (e0:=toE (k,z,a)) ξ
   have d:((ls ++ [(k,z,a)]).map toE).toArray.modify ls.length (fun e=>{ e with val:=val })=((ls ++ [(k,val,a)]).map toE).toArray:=by
    apply Array.ext';rw [Array.toList_modify];have:=WideElems.modify_last (fun e:MapEntry=>{ e with val:=val }) (toE (k,z,a)) (ls.map toE);rw [List.length_map] at this;simpa [toE] using this
   simp only [Instr.entryStore,Sem.run_bind,MapKept.run_getObj_map b,Result.andThen,asInt,asIntOf,goInt,Sem.run_pure,c,d,MapKept.run_setObj_map _ b,setBlock]
 ·have g:(Instr.findKey 42 (ek k) (ls.map toE)).run Tryz.prog w=.ok (some (j,x.2.1)) w:=(findKey27 _ _ _).trans (by simpa using h1);have A:((ls.map toE).toArray)[j]?=some (toE x):=by simp [h2]
  have f:(ls.map toE)[j]?=some (toE x):=by simp [h2]
  have n:(toE x).key=ek k:=by simp [toE,h3]
  have l:(ls.map toE).toArray.modify j (fun e=>{ e with key:=ek k })=(ls.map toE).toArray:=by
   apply Array.ext';rw [Array.toList_modify];show (ls.map toE).modify j _=ls.map toE
   rw [modify_eq_set _ _ _ _ f];have:({ toE x with key:=ek k }:MapEntry)=toE x:=by rw [← n]
   rw [this];exact WideElems.set_self _ _ _ f
  have s:=stays27 k w;have e1:lk ls k=some x.2.1:=Kw hg.1 h2 h3;refine ⟨x.2.2,ls,a, ?_,fun val=>⟨ls.set j (x.1,val,x.2.2),a,Kz hg h2 val,fun i=>by have:=Qac (j:=i) (v:=val) hg.1 h2 h3;rwa [← h3] at this ⊢,by simp [e1],fun o b=>?_⟩⟩
  ·rw [e1];have p:(toE x).born=x.2.2:=rfl;simp only [Instr.mapEntry,Sem.run_bind,run_underlying y,MapKept.run_getObj_map m,t,g,Result.andThen,A,Option.map_some,Option.getD_some,n,s,l,MapKept.run_setObj_map _ m,Sem.run_pure,p,setBlock]
  ·unfold EM at b
   have c:(ls.map toE).toArray.findIdx? (fun e=>((e.born:Nat):Int) == ((x.2.2:Nat):Int))=some j:=by
    rw [WideElems.findIdx_arr]
    have q:((ls.map toE).map (fun e=>e.born)).Nodup:=by
     rw [List.map_map];exact hg.2.1
    exact WideElems.findIdx_born q (j:=j) (e0:=toE x) f
   have d:(ls.map toE).toArray.modify j (fun e=>{ e with val:=val })=((ls.set j (x.1,val,x.2.2)).map toE).toArray:=by
    apply Array.ext';rw [Array.toList_modify];show (ls.map toE).modify j _=(ls.set j (x.1,val,x.2.2)).map toE
    rw [modify_eq_set _ _ _ _ f,List.map_set];rfl
   simp only [Instr.entryStore,Sem.run_bind,MapKept.run_getObj_map b,Result.andThen,asInt,asIntOf,goInt,Sem.run_pure,c,d,MapKept.run_setObj_map _ b,setBlock]
theorem update27 (n:Tryz.prog.underlying T=some (.map 42 E)) {ls:List (E4×Value×Nat)} (h:EM w r ls a) (hg:Good ls a) (k:E4) (val:Value) :
  ∃ ls' clock',(Instr.mapUpdate T (.map (some r)) (ek k) val).run Tryz.prog w=.ok () (setBlock w r (.map (ls'.map toE).toArray clock'))∧Good ls' clock'∧(∀ j,lk ls' j=if j=k then some val else lk ls j)∧(ls'.length=ls.length+if lk ls k=none then 1 else 0):=by
 have c:=h;unfold EM at c;have m:=fun em=>check27 em k w;rcases find27 k w ls 0 with ⟨h1,h2⟩ | ⟨j,x,h1,h2,h3⟩
 ·have b:(Instr.findKey 42 (ek k) (ls.map toE)).run Tryz.prog w=.ok none w:=(findKey27 _ _ _).trans h1;refine ⟨ls ++ [(k,val,a)],a+1, ?_,Vf hg h2,fun j=>Qbo h2,by simp [Vh h2]⟩;simp [Instr.mapUpdate,run_underlying n,MapKept.run_getObj_map c,m,b,MapKept.run_setObj_map _ c,Result.andThen,setBlock,toE]
 ·have b:(Instr.findKey 42 (ek k) (ls.map toE)).run Tryz.prog w=.ok (some (j,x.2.1)) w:=(findKey27 _ _ _).trans (by simpa using h1);have o:((ls.map toE).toArray)[j]?=some (toE x):=by simp [h2]
  have g:(ls.map toE)[j]?=some (toE x):=by simp [h2]
  have d:(toE x).key=ek k:=by simp [toE,h3]
  have e1:lk ls k=some x.2.1:=Kw hg.1 h2 h3
  have f:(ls.map toE).toArray.modify j (fun e=>{ e with key:=ek k,val:=val })=((ls.set j (x.1,val,x.2.2)).map toE).toArray:=by
   apply Array.ext';rw [Array.toList_modify];show (ls.map toE).modify j _=(ls.set j (x.1,val,x.2.2)).map toE
   rw [modify_eq_set _ _ _ _ g,List.map_set,← d];rfl
  have l:=stays27 k w;refine ⟨ls.set j (x.1,val,x.2.2),a, ?_,Kz hg h2 val,fun i=>by have:=Qac (j:=i) (v:=val) hg.1 h2 h3;rwa [← h3] at this ⊢,by simp [e1]⟩;simp only [Instr.mapUpdate,Sem.run_bind,run_underlying n,MapKept.run_getObj_map c,m,b,Result.andThen,o,Option.map_some,Option.getD_some,d,l,f,MapKept.run_setObj_map _ c,setBlock]
theorem Qbp (w:World):EM (w.alloc (.map #[] 0)) w.heap.size [] 0:=(MapKept.heap_alloc w _).1
theorem Ga:Good [] 0:=⟨ξ,ξ,ξ⟩
attribute [local go_sem ↓] Go.wp_at_zero Go.wp_at_succ
theorem Va (w:World) (hs:Steps w) :
  Rt 182 #[I 0] w (.agg #[I 0,I (-1)]):=by
 obtain ⟨b,h,i,j,k,l,m,n⟩:=hs;have d:0<w.heap.size:=Jw b;have a:¬ w.heap.size=0:=γ;go_enter Tryz.func182,Tryz.ntmps182;go_wp2
 go_region_held3 (fun w'=>At w' 0 0 (I (-1))∧At w' 0 1 (I (-1))∧At w' 0 2 (I 1)∧At w' 0 3 (I (-1)))
  ((refine ⟨?_, ?_, ?_, ?_⟩ <;> (first | (with_reducible (repeat (first | assumption | refine Qk ?_ | refine Qq ?_));done) | (simp [go_sem,Ca, *];done))))
  (first | (go_at_call 183;refine (Xw _ _ _ _ _ γ γ γ γ γ γ γ γ).mono ?_;rintro e c ⟨rfl,o3,f,g,rfl⟩) | (go_at_call 184;refine (Xb _ _ _ γ γ γ γ).mono ?_;rintro e c ⟨rfl,rfl⟩))
 all_goals
  go_wp2;refine bodyPost_ret (v:=.agg #[I 0,I (-1)]) (by simp [results,Tryz.results182,go_sem,Ca]) rfl ⟨rfl, ?_⟩;with_reducible repeat (first | refine Qb ?_ | refine Qg ?_ | exact Qe _)
theorem Ub (w:World) (hs:Steps w) :
  Rt 182 #[I 1] w (.agg #[I 1,I 0]):=by
 obtain ⟨b,h,i,j,k,l,m,n⟩:=hs;have d:0<w.heap.size:=Jw b;have a:¬ w.heap.size=0:=γ;go_enter Tryz.func182,Tryz.ntmps182;go_wp2
 go_region_held3 (fun w'=>At w' 0 2 (I 1)∧At w' 0 3 (I (-1))∧At w' 0 4 (I 1)∧At w' 0 5 (I 1))
  ((refine ⟨?_, ?_, ?_, ?_⟩ <;> (first | (with_reducible (repeat (first | assumption | refine Qk ?_ | refine Qq ?_));done) | (simp [go_sem,Ca, *];done))))
  (first | (go_at_call 183;refine (Xw _ _ _ _ _ γ γ γ γ γ γ γ γ).mono ?_;rintro e c ⟨rfl,o3,f,g,rfl⟩) | (go_at_call 184;refine (Xb _ _ _ γ γ γ γ).mono ?_;rintro e c ⟨rfl,rfl⟩))
 all_goals
  go_wp2;refine bodyPost_ret (v:=.agg #[I 1,I 0]) (by simp [results,Tryz.results182,go_sem,Ca]) rfl ⟨rfl, ?_⟩;with_reducible repeat (first | refine Qb ?_ | refine Qg ?_ | exact Qe _)
theorem Gy (w:World) (hs:Steps w) :
  Rt 182 #[I 2] w (.agg #[I 0,I 1]):=by
 obtain ⟨b,h,i,j,k,l,m,n⟩:=hs;have d:0<w.heap.size:=Jw b;have a:¬ w.heap.size=0:=γ;go_enter Tryz.func182,Tryz.ntmps182;go_wp2
 go_region_held3 (fun w'=>At w' 0 4 (I 1)∧At w' 0 5 (I 1)∧At w' 0 6 (I (-1))∧At w' 0 7 (I 1))
  ((refine ⟨?_, ?_, ?_, ?_⟩ <;> (first | (with_reducible (repeat (first | assumption | refine Qk ?_ | refine Qq ?_));done) | (simp [go_sem,Ca, *];done))))
  (first | (go_at_call 183;refine (Xw _ _ _ _ _ γ γ γ γ γ γ γ γ).mono ?_;rintro e c ⟨rfl,o3,f,g,rfl⟩) | (go_at_call 184;refine (Xb _ _ _ γ γ γ γ).mono ?_;rintro e c ⟨rfl,rfl⟩))
 all_goals
  go_wp2;refine bodyPost_ret (v:=.agg #[I 0,I 1]) (by simp [results,Tryz.results182,go_sem,Ca]) rfl ⟨rfl, ?_⟩;with_reducible repeat (first | refine Qb ?_ | refine Qg ?_ | exact Qe _)
theorem outward_3 (w:World) (hs:Steps w) :
  Rt 182 #[I 3] w (.agg #[I (-1),I 0]):=by
 obtain ⟨b,h,i,j,k,l,m,n⟩:=hs;have d:0<w.heap.size:=Jw b;have a:¬ w.heap.size=0:=γ;go_enter Tryz.func182,Tryz.ntmps182;go_wp2
 go_region_held3 (fun w'=>At w' 0 6 (I (-1))∧At w' 0 7 (I 1)∧At w' 0 0 (I (-1))∧At w' 0 1 (I (-1)))
  ((refine ⟨?_, ?_, ?_, ?_⟩ <;> (first | (with_reducible (repeat (first | assumption | refine Qk ?_ | refine Qq ?_));done) | (simp [go_sem,Ca, *];done))))
  (first | (go_at_call 183;refine (Xw _ _ _ _ _ γ γ γ γ γ γ γ γ).mono ?_;rintro e c ⟨rfl,o3,f,g,rfl⟩) | (go_at_call 184;refine (Xb _ _ _ γ γ γ γ).mono ?_;rintro e c ⟨rfl,rfl⟩))
 all_goals
  go_wp2;refine bodyPost_ret (v:=.agg #[I (-1),I 0]) (by simp [results,Tryz.results182,go_sem,Ca]) rfl ⟨rfl, ?_⟩;with_reducible repeat (first | refine Qb ?_ | refine Qg ?_ | exact Qe _)
theorem outward_any (k:Int) (w:World) (h0:0≤k) (h3:k≤3) (hs:Steps w) :
  Rt 182 #[I k] w (.agg #[I (outX k),I (outY k)]):=by
 have a:k=0∨k=1∨k=2∨k=3:=γ;rcases a with rfl | rfl | rfl | rfl
 ·exact Va w hs
 ·exact Ub w hs
 ·exact Gy w hs
 ·exact outward_3 w hs
theorem kindToward_0 (w:World) (hs:Steps w) :
  Rt 180 #[.agg #[I 0,I (-1)]] w (I 0):=by
 have b:Steps (w.alloc (.cells #[I 0,I (-1)] 40)):=hs.kept β1;have c:Pt (w.alloc (.cells #[I 0,I (-1)] 40)) w.heap.size 0 (-1):=by simp [Pt,go_sem]
 obtain ⟨f,g⟩:=c;clear hs;go_enter Tryz.func180,Tryz.ntmps180;go_wp2;refine wp_loop_rounds 5 ?_;rw [rounds_succ];go_wp2
 go_region_held3 (fun w'=>At w' w.heap.size 0 (I 0)∧At w' w.heap.size 1 (I (-1))∧Steps w')
  ((go_split_ands;refine ⟨?_, ?_, ?_⟩ <;> (first | assumption | (refine Qq ?_;assumption) | (exact Qa χ χ) | (exact Steps.kept χ χ) | (exact Steps.kept (w:=_) χ (Qg (Qe _))))))
  (first | (go_at_call 182;refine (Va _ Δ).mono ?_;rintro e d ⟨rfl,a⟩))
 go_wp2;go_ret;exact ⟨rfl,Qc (Qg β1) a⟩
theorem kindToward_1 (w:World) (hs:Steps w) :
  Rt 180 #[.agg #[I 1,I 0]] w (I 1):=by
 have c:Steps (w.alloc (.cells #[I 1,I 0] 40)):=hs.kept β1;have d:Pt (w.alloc (.cells #[I 1,I 0] 40)) w.heap.size 1 0:=by simp [Pt,go_sem]
 obtain ⟨h,i⟩:=d;clear hs;go_enter Tryz.func180,Tryz.ntmps180;go_wp2;refine wp_loop_rounds 5 ?_;rw [rounds_succ];go_wp2
 go_region_held3 (fun w'=>At w' w.heap.size 0 (I 1)∧At w' w.heap.size 1 (I 0)∧Steps w')
  ((go_split_ands;refine ⟨?_, ?_, ?_⟩ <;> (first | assumption | (refine Qq ?_;assumption) | (exact Qa χ χ) | (exact Steps.kept χ χ) | (exact Steps.kept (w:=_) χ (Qg (Qe _))))))
  (first | (go_at_call 182;refine (Va _ Δ).mono ?_;rintro e f ⟨rfl,a⟩))
 go_wp2;rw [rounds_succ];go_wp2
 go_region_held3 (fun w'=>At w' w.heap.size 0 (I 1)∧At w' w.heap.size 1 (I 0)∧Steps w')
  ((go_split_ands;refine ⟨?_, ?_, ?_⟩ <;> (first | assumption | (refine Qq ?_;assumption) | (exact Qa χ χ) | (exact Steps.kept χ χ) | (exact Steps.kept (w:=_) χ (Qg (Qe _))))))
  (first | (go_at_call 182;refine (Ub _ Δ).mono ?_;rintro e g ⟨rfl,b⟩))
 go_wp2;go_ret;exact ⟨rfl,Qc (Qg (Qc (Qg β1) a)) b⟩
theorem kindToward_2 (w:World) (hs:Steps w) :
  Rt 180 #[.agg #[I 0,I 1]] w (I 2):=by
 have d:Steps (w.alloc (.cells #[I 0,I 1] 40)):=hs.kept β1;have f:Pt (w.alloc (.cells #[I 0,I 1] 40)) w.heap.size 0 1:=by simp [Pt,go_sem]
 obtain ⟨j,k⟩:=f;clear hs;go_enter Tryz.func180,Tryz.ntmps180;go_wp2;refine wp_loop_rounds 5 ?_;rw [rounds_succ];go_wp2
 go_region_held3 (fun w'=>At w' w.heap.size 0 (I 0)∧At w' w.heap.size 1 (I 1)∧Steps w')
  ((go_split_ands;refine ⟨?_, ?_, ?_⟩ <;> (first | assumption | (refine Qq ?_;assumption) | (exact Qa χ χ) | (exact Steps.kept χ χ) | (exact Steps.kept (w:=_) χ (Qg (Qe _))))))
  (first | (go_at_call 182;refine (Va _ Δ).mono ?_;rintro e g ⟨rfl,a⟩))
 go_wp2;rw [rounds_succ];go_wp2
 go_region_held3 (fun w'=>At w' w.heap.size 0 (I 0)∧At w' w.heap.size 1 (I 1)∧Steps w')
  ((go_split_ands;refine ⟨?_, ?_, ?_⟩ <;> (first | assumption | (refine Qq ?_;assumption) | (exact Qa χ χ) | (exact Steps.kept χ χ) | (exact Steps.kept (w:=_) χ (Qg (Qe _))))))
  (first | (go_at_call 182;refine (Ub _ Δ).mono ?_;rintro e h ⟨rfl,b⟩))
 go_wp2;rw [rounds_succ];go_wp2
 go_region_held3 (fun w'=>At w' w.heap.size 0 (I 0)∧At w' w.heap.size 1 (I 1)∧Steps w')
  ((go_split_ands;refine ⟨?_, ?_, ?_⟩ <;> (first | assumption | (refine Qq ?_;assumption) | (exact Qa χ χ) | (exact Steps.kept χ χ) | (exact Steps.kept (w:=_) χ (Qg (Qe _))))))
  (first | (go_at_call 182;refine (Gy _ Δ).mono ?_;rintro e i ⟨rfl,c⟩))
 go_wp2;go_ret;exact ⟨rfl,Qc (Qg (Qc (Qg (Qc (Qg β1) a)) b)) c⟩
theorem kindToward_3 (w:World) (hs:Steps w) :
  Rt 180 #[.agg #[I (-1),I 0]] w (I 3):=by
 have f:Steps (w.alloc (.cells #[I (-1),I 0] 40)):=hs.kept β1;have g:Pt (w.alloc (.cells #[I (-1),I 0] 40)) w.heap.size (-1) 0:=by simp [Pt,go_sem]
 obtain ⟨l,m⟩:=g;clear hs;go_enter Tryz.func180,Tryz.ntmps180;go_wp2;refine wp_loop_rounds 5 ?_;rw [rounds_succ];go_wp2
 go_region_held3 (fun w'=>At w' w.heap.size 0 (I (-1))∧At w' w.heap.size 1 (I 0)∧Steps w')
  ((go_split_ands;refine ⟨?_, ?_, ?_⟩ <;> (first | assumption | (refine Qq ?_;assumption) | (exact Qa χ χ) | (exact Steps.kept χ χ) | (exact Steps.kept (w:=_) χ (Qg (Qe _))))))
  (first | (go_at_call 182;refine (Va _ Δ).mono ?_;rintro e h ⟨rfl,a⟩))
 go_wp2;rw [rounds_succ];go_wp2
 go_region_held3 (fun w'=>At w' w.heap.size 0 (I (-1))∧At w' w.heap.size 1 (I 0)∧Steps w')
  ((go_split_ands;refine ⟨?_, ?_, ?_⟩ <;> (first | assumption | (refine Qq ?_;assumption) | (exact Qa χ χ) | (exact Steps.kept χ χ) | (exact Steps.kept (w:=_) χ (Qg (Qe _))))))
  (first | (go_at_call 182;refine (Ub _ Δ).mono ?_;rintro e i ⟨rfl,b⟩))
 go_wp2;rw [rounds_succ];go_wp2
 go_region_held3 (fun w'=>At w' w.heap.size 0 (I (-1))∧At w' w.heap.size 1 (I 0)∧Steps w')
  ((go_split_ands;refine ⟨?_, ?_, ?_⟩ <;> (first | assumption | (refine Qq ?_;assumption) | (exact Qa χ χ) | (exact Steps.kept χ χ) | (exact Steps.kept (w:=_) χ (Qg (Qe _))))))
  (first | (go_at_call 182;refine (Gy _ Δ).mono ?_;rintro e j ⟨rfl,c⟩))
 go_wp2;rw [rounds_succ];go_wp2
 go_region_held3 (fun w'=>At w' w.heap.size 0 (I (-1))∧At w' w.heap.size 1 (I 0)∧Steps w')
  ((go_split_ands;refine ⟨?_, ?_, ?_⟩ <;> (first | assumption | (refine Qq ?_;assumption) | (exact Qa χ χ) | (exact Steps.kept χ χ) | (exact Steps.kept (w:=_) χ (Qg (Qe _))))))
  (first | (go_at_call 182;refine (outward_3 _ Δ).mono ?_;rintro e k ⟨rfl,d⟩))
 go_wp2;go_ret;exact ⟨rfl,Qc (Qg (Qc (Qg (Qc (Qg (Qc (Qg β1) a)) b)) c)) d⟩
theorem kindToward_any (K:Int) (w:World) (h0:0≤K) (h3:K≤3) (hs:Steps w) :
  Rt 180 #[.agg #[I (outX K),I (outY K)]] w (I K):=by
 have a:K=0∨K=1∨K=2∨K=3:=γ;rcases a with rfl | rfl | rfl | rfl
 ·exact kindToward_0 w hs
 ·exact kindToward_1 w hs
 ·exact kindToward_2 w hs
 ·exact kindToward_3 w hs
theorem move_any (a b c d e f x y k X Y K:Int) (w:World) (hs:Sm a b c d) (J:(-1000000≤e∧e≤1000000)∧(-1000000≤f∧f≤1000000)) (u:triB x y k=true) (o:Steps w)
  (G:dot a b (2*x+1) (2*y+1)+e=2*X+1) (H:dot c d (2*x+1) (2*y+1)+f=2*Y+1) (C:0≤K∧K≤3)
  (m:dot a b (outX k) (outY k)=outX K) (n:dot c d (outX k) (outY k)=outY K) :
  Cl 90 #[.agg #[I a,I b,I c,I d,I e,I f],.agg #[I x,I y,I k]] w fun r w' =>
   r=.returned (.agg #[I X,I Y,I K])∧Bl w w':=by
 have V:0≤k∧k≤3∧-1000000≤x∧x≤1000000∧-1000000≤y∧y≤1000000:=by simpa [triB] using u
 obtain ⟨k0,k3,x1,x2,y1,y2⟩:=V;have d1:=Zu (M:=2000001) hs.1.1 hs.1.2 hs.2.1.1 hs.2.1.2 (show -2000001≤2*x+1 by omega) γ (show -2000001≤2*y+1 by omega) γ;have d2:=Zu (M:=2000001) hs.2.2.1.1 hs.2.2.1.2 hs.2.2.2.1 hs.2.2.2.2 (show -2000001≤2*x+1 by omega) γ (show -2000001≤2*y+1 by omega) γ;have X1 : -3000000≤X∧X≤3000000:=γ;have Y1 : -3000000≤Y∧Y≤3000000:=γ;have A:=Hd hs;have z:=Hd J;have HX:=Hd G;have Q:=Hd H;have q:=Hd m;have s:=Hd n;have P:=Hd o;have t:=Hd u;have hx:=half X;have hy:=half Y;clear hs J G H m n o u d1 d2;go_enter Tryz.func90,Tryz.ntmps90;go_wp2;go_cut [5] (fun s5 l=>∃ j:Nat,s5=.pointer (Az j)∧w.heap.size+1+1<j∧Pt l j (2*X+1) (2*Y+1)∧Bl w l∧Mp l w.heap.size a b c d e f∧Tr l (w.heap.size+1) x y k∧Tr l (w.heap.size+1+1) 0 0 0∧Fr l (w.heap.size+1+1))
 case first =>
  go_region_held3 (fun w'=>(At w' w.heap.size 0 (I a)∧At w' w.heap.size 1 (I b)∧At w' w.heap.size 2 (I c)∧At w' w.heap.size 3 (I d)∧At w' w.heap.size 4 (I e)∧At w' w.heap.size 5 (I f))∧At w' (w.heap.size+1) 0 (I x)∧At w' (w.heap.size+1) 1 (I y)∧At w' (w.heap.size+1) 2 (I k))
   ((refine ⟨⟨?_, ?_, ?_, ?_, ?_, ?_⟩, ?_, ?_, ?_⟩ <;> (first | (with_reducible (repeat (first | assumption | refine Qk ?_ | refine Qq ?_));done) | (simp [go_sem];done))))
   (first | (go_at_call 179;refine (Yx _ _ _ _ t.out).mono ?_;rintro e N ⟨rfl,o3,o4,rfl⟩) | (go_at_call 178;refine (image_any _ _ _ _ _ _ _ _ _ A.out z.out.1 z.out.2 γ γ γ γ).mono ?_;rintro e N ⟨rfl,o5,o6,o7,o8,o9,a2,a6,a7,a8,rfl⟩))
  all_goals
   go_wp2;go_meet
   case rel =>
    refine ⟨_,rfl,γ, ?_, ?_, ?_, ?_, ?_, ?_⟩
    ·simp [Pt,go_sem,Ca,HX.out,Q.out]
    ·with_reducible repeat (first | refine Qb ?_ | refine Qg ?_ | exact Qe _)
    ·simp [Mp,go_sem,Ca]
    ·simp [Tr,go_sem,Ca]
    ·simp [Tr,go_sem,Ca]
    ·simp [Fr,go_sem]
 case rest =>
  obtain ⟨j,rfl,W,L,p,D,E,F,B⟩:=hcut;have hz:w.heap.size≤wc.heap.size:=p.size;have Z:Steps wc:=P.out.kept p;obtain ⟨m0,m1,m2,m3,m4,m5⟩:=id D;obtain ⟨n0,n1,n2⟩:=id E;obtain ⟨r0,r1,r2⟩:=id F;obtain ⟨f0,f1,f2,_,_,_⟩:=id B;obtain ⟨q0,q1⟩:=id L;have O:=Hd p;clear p D E F B L;have ox:=outX_bd k;have oy:=outY_bd k;have wX:IntKind.i64.wrap (2*X)=2*X:=Yi γ γ;have wY:IntKind.i64.wrap (2*Y)=2*Y:=Yi γ γ;have ad:IntKind.i64.wrap X=X:=Yi γ γ;have ae:IntKind.i64.wrap Y=Y:=Yi γ γ;go_wp2
  go_region_held3 (fun w'=>At w' w.heap.size 0 (I a)∧At w' w.heap.size 1 (I b)∧At w' w.heap.size 2 (I c)∧At w' w.heap.size 3 (I d)∧At w' w.heap.size 4 (I e)∧At w' w.heap.size 5 (I f)∧At w' (w.heap.size+1) 2 (I k)∧At w' j 0 (I (2*X+1))∧At w' j 1 (I (2*Y+1))∧Steps w')
   ((go_split_ands;refine ⟨?_, ?_, ?_, ?_, ?_, ?_, ?_, ?_, ?_, ?_⟩ <;> (first | (with_reducible assumption) | (with_reducible exact Qa χ χ) | (with_reducible exact Steps.kept χ χ) | (with_reducible exact Qq χ) | (with_reducible exact Steps.kept χ (Qg (Qe _))) | (refine Yp Γ θ) | (refine Steps.set3 Γ θ))))
   (first | (go_at_call 182;refine (outward_any _ _ k0 k3 γ7).mono ?_;rintro e N ⟨rfl,g⟩) | (go_at_call 181;refine (turn_to _ _ _ _ _ _ _ _ _ _ _ A.out γ γ γ γ q.out s.out).mono ?_;rintro e w3 ⟨rfl,h⟩) | (go_at_call 180;refine (kindToward_any K _ C.1 C.2 γ7).mono ?_;rintro e w4 ⟨rfl,i⟩;have aa:=Qa i (Qa h (Qa g (Qq r0)));have ab:=Qa i (Qa h (Qa g (Qq r1)));have ac:=Qa i (Qa h (Qa g (Qq r2)));have R:=Yr i (Qa h (Qa g (Qq r0))) (Yr h (Qa g (Qq r0)) (Yr g (Qq r0) (dr_fz f0)));have T:=Yr i (Qa h (Qa g (Qq r1))) (Yr h (Qa g (Qq r1)) (Yr g (Qq r1) (dr_fz f1)));have U:=Yr i (Qa h (Qa g (Qq r2))) (Yr h (Qa g (Qq r2)) (Yr g (Qq r2) (dr_fz f2)))))
  go_wp2;refine bodyPost_ret (v:=.agg #[I X,I Y,I K]) ?_ rfl ⟨rfl, ?_⟩
  ·simp [results,Tryz.results90,go_sem, *]
  ·exact Qh (Qh (Qh (Qc (Qc (Qc (Qg O.out) g) h) i) ω) ω) ω
theorem Gl (f:Value) (w:World) :
  Cl 86 #[.bool false,f] w fun r w'=>r=.returned (.tuple #[.agg #[I 0,I 0,I 0],I 3])∧∃ o1 o2,w'=(w.alloc o1).alloc o2:=by
 go_enter Tryz.func86,Tryz.ntmps86;go_wp2;exact bodyPost_ret (v:=.tuple #[.agg #[I 0,I 0,I 0],I 3]) (by simp [results,Tryz.results86,go_sem]) rfl ⟨rfl,_,_,rfl⟩
theorem answerTri_59_0 (x y k:Int) (pa e:Nat) (w:World) (b:∀ W:World,Bl w W→Rt 89 #[.pointer (Az pa),.pointer (Az e)] W (.tuple #[.agg #[I x,I y,I k],I 0])) :
  Rt 86 #[.bool true,.func (.func 89) #[] #[.pointer (Az pa),.pointer (Az e)]] w (.tuple #[.agg #[I x,I y,I k],I 0]):=by
 have g:=Hd b;clear b;go_enter Tryz.func86,Tryz.ntmps86;go_wp2_with (go_at_call 89;refine (g.out _ β2).mono ?_;rintro r c ⟨rfl,d⟩;have r0:At c w.heap.size 0 (I 0):=Qa d ε;have h:=Fk w.heap.size 0 d;have r1:At c w.heap.size 1 (I 0):=Qa d ε;have i:=Fk w.heap.size 1 d;have r2:At c w.heap.size 2 (I 0):=Qa d ε;have j:=Fk w.heap.size 2 d;have l:w.heap.size<c.heap.size:=World.block_lt_of_cell? (w:=c) (a:=⟨w.heap.size,0,none⟩) r0;have m:w.heap.size<c.heap.size+1:=γ;have n:w.heap.size<c.heap.size+1+1:=γ;have o:w.heap.size<c.heap.size+1+1+1:=γ;have p:w.heap.size<c.heap.size+1+1+1+1:=γ;have q:w.heap.size<c.heap.size+1+1+1+1+1:=γ;have f:=Hd (Qc β2 d);clear d)
 refine bodyPost_ret (v:=.tuple #[.agg #[I x,I y,I k],I 0]) ?_ rfl ⟨rfl, ?_⟩
 ·first | (simp [results,Tryz.results86,go_sem, *];done) | (simp [results,Tryz.results86,go_sem,Ca, *];done)
 ·with_reducible repeat' (first | exact f.out | refine Qh ?_ ?_ | refine Qb ?_ | refine Qg ?_)
  all_goals (first | (simp;done) | (simp;omega))
theorem answerTri_59_2 (pa e:Nat) (w:World) (d:∀ W:World,Bl w W→Rt 89 #[.pointer (Az pa),.pointer (Az e)] W (.tuple #[.agg #[I 0,I 0,I 0],I 2])) :
  Rt 86 #[.bool true,.func (.func 89) #[] #[.pointer (Az pa),.pointer (Az e)]] w (.tuple #[.agg #[I 0,I 0,I 0],I 2]):=by
 have g:=Hd d;clear d;go_enter Tryz.func86,Tryz.ntmps86;go_wp2_with (go_at_call 89;refine (g.out _ β2).mono ?_;rintro r b ⟨rfl,c⟩;have r0:At b w.heap.size 0 (I 0):=Qa c ε;have h:=Fk w.heap.size 0 c;have r1:At b w.heap.size 1 (I 0):=Qa c ε;have i:=Fk w.heap.size 1 c;have r2:At b w.heap.size 2 (I 0):=Qa c ε;have j:=Fk w.heap.size 2 c;have u:w.heap.size<b.heap.size:=World.block_lt_of_cell? (w:=b) (a:=⟨w.heap.size,0,none⟩) r0;have x:w.heap.size<b.heap.size+1:=γ;have y:w.heap.size<b.heap.size+1+1:=γ;have z:w.heap.size<b.heap.size+1+1+1:=γ;have A:w.heap.size<b.heap.size+1+1+1+1:=γ;have B:w.heap.size<b.heap.size+1+1+1+1+1:=γ;have k0:At b (w.heap.size+1) 0 (I 0):=Qa c ε;have k:=Fk (w.heap.size+1) 0 c;have k1:At b (w.heap.size+1) 1 (I 0):=Qa c ε;have l:=Fk (w.heap.size+1) 1 c;have k2:At b (w.heap.size+1) 2 (I 0):=Qa c ε;have m:=Fk (w.heap.size+1) 2 c;have n:w.heap.size+1<b.heap.size:=World.block_lt_of_cell? (w:=b) (a:=⟨w.heap.size+1,0,none⟩) k0;have o:w.heap.size+1<b.heap.size+1:=γ;have p:w.heap.size+1<b.heap.size+1+1:=γ;have q:w.heap.size+1<b.heap.size+1+1+1:=γ;have s:w.heap.size+1<b.heap.size+1+1+1+1:=γ;have t:w.heap.size+1<b.heap.size+1+1+1+1+1:=γ;have f:=Hd (Qc β2 c);clear c)
 refine bodyPost_ret (v:=.tuple #[.agg #[I 0,I 0,I 0],I 2]) ?_ rfl ⟨rfl, ?_⟩
 ·first | (simp [results,Tryz.results86,go_sem, *];done) | (simp [results,Tryz.results86,go_sem,Ca, *];done)
 ·with_reducible repeat' (first | exact f.out | refine Qh ?_ ?_ | refine Qb ?_ | refine Qg ?_)
  all_goals (first | (simp;done) | (simp;omega))
theorem move1_yes (a b c d e f x y k X Y K:Int) (pa s:Nat) (w:World) (h1:mapB a b c d e f=true) (h2:triB x y k=true) (n:dot a b (2*x+1) (2*y+1)+e=2*X+1) (o:dot c d (2*x+1) (2*y+1)+f=2*Y+1) (m:0≤K∧K≤3) (i:dot a b (outX k) (outY k)=outX K) (j:dot c d (outX k) (outY k)=outY K) (M:triB X Y K=true) (hs:Steps w) (p:Mp w pa a b c d e f) (q:Tr w s x y k) :
  Rt 89 #[.pointer (Az pa),.pointer (Az s)] w (.tuple #[.agg #[I X,I Y,I K],I 0]):=by
 obtain ⟨t,e1,_,_⟩:=Ju h1;have O:=p.lt;have P:=q.lt;obtain ⟨a0,a1,L,a3,a4,a5⟩:=p;obtain ⟨b0,b1,b2⟩:=q;have l:=Hd (fun (W:World) hW=>move_any a b c d e f x y k X Y K W t e1 h2 hW n o m i j);have z:=Hd hs;clear t e1 h1 h2 n o m i j hs;go_enter Tryz.func89,Tryz.ntmps89;go_wp2_with (first | (go_at_call 90;refine (l.out _ (z.out.kept β1)).mono ?_;rintro r g ⟨rfl,h⟩;have r0:At g w.heap.size 0 (I 0):=Qa h ε;have A:=Fk w.heap.size 0 h;have r1:At g w.heap.size 1 (I 0):=Qa h ε;have B:=Fk w.heap.size 1 h;have r2:At g w.heap.size 2 (I 0):=Qa h ε;have C:=Fk w.heap.size 2 h;have D:w.heap.size<g.heap.size:=World.block_lt_of_cell? (w:=g) (a:=⟨w.heap.size,0,none⟩) r0;have E:w.heap.size<g.heap.size+1:=γ;have F:w.heap.size<g.heap.size+1+1:=γ;have G:w.heap.size<g.heap.size+1+1+1:=γ;have H:w.heap.size<g.heap.size+1+1+1+1:=γ;have J:w.heap.size<g.heap.size+1+1+1+1+1:=γ;have u:=Hd (Qc β1 h);clear h) | (go_at_call 88;refine (Xd _ _ _ _).mono ?_;rintro r N ⟨rfl,o1,rfl⟩))
 refine bodyPost_ret (v:=.tuple #[.agg #[I X,I Y,I K],I 0]) ?_ rfl ⟨rfl, ?_⟩
 ·first | (simp [results,Tryz.results89,go_sem, *];done) | (simp [results,Tryz.results89,go_sem,Ca, *];done)
 ·with_reducible repeat' (first | exact u.out | refine Qh ?_ ?_ | refine Qb ?_ | refine Qg ?_)
  all_goals (first | (simp;done) | (simp;omega))
theorem Move_yes (a b c d e f x y k X Y K:Int) (w:World) (h1:mapB a b c d e f=true) (h2:triB x y k=true) (o:dot a b (2*x+1) (2*y+1)+e=2*X+1) (p:dot c d (2*x+1) (2*y+1)+f=2*Y+1) (n:0≤K∧K≤3) (i:dot a b (outX k) (outY k)=outX K) (j:dot c d (outX k) (outY k)=outY K) (q:triB X Y K=true) (hs:Steps w) :
  Rt 34 #[.agg #[I a,I b,I c,I d,I e,I f],.agg #[I x,I y,I k]] w (.tuple #[.agg #[I X,I Y,I K],I 0]):=by
 have B:=Jf;have t:Hid (∀ (pa m:Nat) (W:World),Bl w W→Mp W pa a b c d e f→Tr W m x y k→Rt 89 #[.pointer (Az pa),.pointer (Az m)] W (.tuple #[.agg #[I X,I Y,I K],I 0])):=fun pa m W l hp C=>move1_yes a b c d e f x y k X Y K pa m W h1 h2 o p n i j q (hs.kept l) hp C;clear o p n i j q hs;go_enter Tryz.func34,Tryz.ntmps34;go_wp2_with (first | (go_at_call 87;refine (Xe _ _ _ _ _ _ _).mono ?_;rintro r g ⟨rfl,o1,rfl⟩) | (go_at_call 88;refine (Xd _ _ _ _).mono ?_;rintro r L ⟨rfl,o2,rfl⟩) | (go_at_call 86;refine (answerTri_59_0 _ _ _ _ _ _ (fun W l=>t.out _ _ W (Qc β5 l) (Mp.kept δ3 l) (Tr.kept γ8 l))).mono ?_;rintro r g ⟨rfl,h⟩;have r0:At g (w.heap.size+1+1) 0 (I 0):=Qa h ε;have u:=Fk (w.heap.size+1+1) 0 h;have r1:At g (w.heap.size+1+1) 1 (I 0):=Qa h ε;have z:=Fk (w.heap.size+1+1) 1 h;have r2:At g (w.heap.size+1+1) 2 (I 0):=Qa h ε;have A:=Fk (w.heap.size+1+1) 2 h;have D:w.heap.size+1+1<g.heap.size:=World.block_lt_of_cell? (w:=g) (a:=⟨w.heap.size+1+1,0,none⟩) r0;have E:w.heap.size+1+1<g.heap.size+1:=γ;have F:w.heap.size+1+1<g.heap.size+1+1:=γ;have G:w.heap.size+1+1<g.heap.size+1+1+1:=γ;have H:w.heap.size+1+1<g.heap.size+1+1+1+1:=γ;have J:w.heap.size+1+1<g.heap.size+1+1+1+1+1:=γ;have s:=Hd (Qc β5 h);clear h))
 refine bodyPost_ret (v:=.tuple #[.agg #[I X,I Y,I K],I 0]) ?_ rfl ⟨rfl, ?_⟩
 ·first | (simp [results,Tryz.results34,go_sem, *];done) | (simp [results,Tryz.results34,go_sem,Ca, *];done)
 ·with_reducible repeat' (first | exact s.out | refine Qh ?_ ?_ | refine Qb ?_ | refine Qg ?_)
  all_goals (first | (simp;done) | (simp;omega))
theorem move1_no (a b c d e f x y k X Y K:Int) (pa s:Nat) (w:World) (h1:mapB a b c d e f=true) (h2:triB x y k=true) (n:dot a b (2*x+1) (2*y+1)+e=2*X+1) (o:dot c d (2*x+1) (2*y+1)+f=2*Y+1) (m:0≤K∧K≤3) (i:dot a b (outX k) (outY k)=outX K) (j:dot c d (outX k) (outY k)=outY K) (M:triB X Y K=false) (hs:Steps w) (p:Mp w pa a b c d e f) (q:Tr w s x y k) :
  Rt 89 #[.pointer (Az pa),.pointer (Az s)] w (.tuple #[.agg #[I 0,I 0,I 0],I 2]):=by
 obtain ⟨t,e1,_,_⟩:=Ju h1;have O:=p.lt;have P:=q.lt;obtain ⟨a0,a1,L,a3,a4,a5⟩:=p;obtain ⟨b0,b1,b2⟩:=q;have l:=Hd (fun (W:World) hW=>move_any a b c d e f x y k X Y K W t e1 h2 hW n o m i j);have z:=Hd hs;clear t e1 h1 h2 n o m i j hs;go_enter Tryz.func89,Tryz.ntmps89;go_wp2_with (first | (go_at_call 90;refine (l.out _ (z.out.kept β1)).mono ?_;rintro r g ⟨rfl,h⟩;have r0:At g w.heap.size 0 (I 0):=Qa h ε;have A:=Fk w.heap.size 0 h;have r1:At g w.heap.size 1 (I 0):=Qa h ε;have B:=Fk w.heap.size 1 h;have r2:At g w.heap.size 2 (I 0):=Qa h ε;have C:=Fk w.heap.size 2 h;have D:w.heap.size<g.heap.size:=World.block_lt_of_cell? (w:=g) (a:=⟨w.heap.size,0,none⟩) r0;have E:w.heap.size<g.heap.size+1:=γ;have F:w.heap.size<g.heap.size+1+1:=γ;have G:w.heap.size<g.heap.size+1+1+1:=γ;have H:w.heap.size<g.heap.size+1+1+1+1:=γ;have J:w.heap.size<g.heap.size+1+1+1+1+1:=γ;have u:=Hd (Qc β1 h);clear h) | (go_at_call 88;refine (Xd _ _ _ _).mono ?_;rintro r N ⟨rfl,o1,rfl⟩))
 refine bodyPost_ret (v:=.tuple #[.agg #[I 0,I 0,I 0],I 2]) ?_ rfl ⟨rfl, ?_⟩
 ·first | (simp [results,Tryz.results89,go_sem, *];done) | (simp [results,Tryz.results89,go_sem,Ca, *];done)
 ·with_reducible repeat' (first | exact u.out | refine Qh ?_ ?_ | refine Qb ?_ | refine Qg ?_)
  all_goals (first | (simp;done) | (simp;omega))
theorem Move_no (a b c d e f x y k X Y K:Int) (w:World) (h1:mapB a b c d e f=true) (h2:triB x y k=true) (o:dot a b (2*x+1) (2*y+1)+e=2*X+1) (p:dot c d (2*x+1) (2*y+1)+f=2*Y+1) (n:0≤K∧K≤3) (i:dot a b (outX k) (outY k)=outX K) (j:dot c d (outX k) (outY k)=outY K) (q:triB X Y K=false) (hs:Steps w) :
  Rt 34 #[.agg #[I a,I b,I c,I d,I e,I f],.agg #[I x,I y,I k]] w (.tuple #[.agg #[I 0,I 0,I 0],I 2]):=by
 have B:=Jf;have t:Hid (∀ (pa m:Nat) (W:World),Bl w W→Mp W pa a b c d e f→Tr W m x y k→Rt 89 #[.pointer (Az pa),.pointer (Az m)] W (.tuple #[.agg #[I 0,I 0,I 0],I 2])):=fun pa m W l hp C=>move1_no a b c d e f x y k X Y K pa m W h1 h2 o p n i j q (hs.kept l) hp C;clear o p n i j q hs;go_enter Tryz.func34,Tryz.ntmps34;go_wp2_with (first | (go_at_call 87;refine (Xe _ _ _ _ _ _ _).mono ?_;rintro r g ⟨rfl,o1,rfl⟩) | (go_at_call 88;refine (Xd _ _ _ _).mono ?_;rintro r L ⟨rfl,o2,rfl⟩) | (go_at_call 86;refine (answerTri_59_2 _ _ _ (fun W l=>t.out _ _ W (Qc β5 l) (Mp.kept δ3 l) (Tr.kept γ8 l))).mono ?_;rintro r g ⟨rfl,h⟩;have r0:At g (w.heap.size+1+1) 0 (I 0):=Qa h ε;have u:=Fk (w.heap.size+1+1) 0 h;have r1:At g (w.heap.size+1+1) 1 (I 0):=Qa h ε;have z:=Fk (w.heap.size+1+1) 1 h;have r2:At g (w.heap.size+1+1) 2 (I 0):=Qa h ε;have A:=Fk (w.heap.size+1+1) 2 h;have D:w.heap.size+1+1<g.heap.size:=World.block_lt_of_cell? (w:=g) (a:=⟨w.heap.size+1+1,0,none⟩) r0;have E:w.heap.size+1+1<g.heap.size+1:=γ;have F:w.heap.size+1+1<g.heap.size+1+1:=γ;have G:w.heap.size+1+1<g.heap.size+1+1+1:=γ;have H:w.heap.size+1+1<g.heap.size+1+1+1+1:=γ;have J:w.heap.size+1+1<g.heap.size+1+1+1+1+1:=γ;have s:=Hd (Qc β5 h);clear h))
 refine bodyPost_ret (v:=.tuple #[.agg #[I 0,I 0,I 0],I 2]) ?_ rfl ⟨rfl, ?_⟩
 ·first | (simp [results,Tryz.results34,go_sem, *];done) | (simp [results,Tryz.results34,go_sem,Ca, *];done)
 ·with_reducible repeat' (first | exact s.out | refine Qh ?_ ?_ | refine Qb ?_ | refine Qg ?_)
  all_goals (first | (simp;done) | (simp;omega))
theorem Move_out (a b c d e f x y k:Int) (w:World) (h:mapB a b c d e f=false∨triB x y k=false) :
  Rt 34 #[.agg #[I a,I b,I c,I d,I e,I f],.agg #[I x,I y,I k]] w (.tuple #[.agg #[I 0,I 0,I 0],I 3]):=by
 have i:=Jf;by_cases h1:mapB a b c d e f=true
 ·have h2:triB x y k=false:=h.resolve_left (by simp [h1]);clear h;go_enter Tryz.func34,Tryz.ntmps34;go_wp2_with (first | (go_at_call 87;refine (Xe _ _ _ _ _ _ _).mono ?_;rintro r g ⟨rfl,o1,rfl⟩) | (go_at_call 88;refine (Xd _ _ _ _).mono ?_;rintro r j ⟨rfl,o2,rfl⟩) | (go_at_call 86;refine (Gl _ _).mono ?_;rintro r g ⟨rfl,o2,o3,rfl⟩))
  refine bodyPost_ret (v:=.tuple #[.agg #[I 0,I 0,I 0],I 3]) (by simp [results,Tryz.results34,go_sem,Ca]) rfl ⟨rfl, ?_⟩;with_reducible repeat (first | refine Qb ?_ | exact Qe _)
 ·have h2:mapB a b c d e f=false:=by simpa using h1
  clear h h1;go_enter Tryz.func34,Tryz.ntmps34;go_wp2_with (first | (go_at_call 87;refine (Xe _ _ _ _ _ _ _).mono ?_;rintro r g ⟨rfl,o1,rfl⟩) | (go_at_call 88;refine (Xd _ _ _ _).mono ?_;rintro r j ⟨rfl,o2,rfl⟩) | (go_at_call 86;refine (Gl _ _).mono ?_;rintro r g ⟨rfl,o2,o3,rfl⟩))
  refine bodyPost_ret (v:=.tuple #[.agg #[I 0,I 0,I 0],I 3]) (by simp [results,Tryz.results34,go_sem,Ca]) rfl ⟨rfl, ?_⟩;with_reducible repeat (first | refine Qb ?_ | exact Qe _)
def btw (n a b:Int):Bool:=decide (a<n∧n<b) || decide (b<n∧n<a)
def mfB (c:Int) (tv:Bool) (a b:Int):Bool:=if tv=decide (c=2) then decide (a<b) else decide (b<a)
def foB (j:Int) (s:Bool):Bool:=decide (0≤j) && s
def goB (j:Int) (s:Bool):Bool:=decide (0≤j) && !s
theorem Jt (n a b:Int) (w:World):Rt 135 #[I n,I a,I b] w (.bool (btw n a b)):=by
 by_cases c1:a<n <;> by_cases c2:n<b <;> by_cases c3:b<n <;> by_cases c4:n<a
 all_goals
  go_enter Tryz.func135,Tryz.ntmps135;go_wp2;go_ret;exact ⟨by simp [btw,c1,c2,c3,c4],Qe _⟩
theorem Qs (e0 e1 e2 e3 i a b c j o0 o1 o2 k:Int) (tv:Bool) (w:World):Rt 133 #[.agg #[I e0,I e1,I e2,I e3,I i,I a,I b,I c,I j,I o0,I o1,I o2,I k,.bool tv]] w (.bool (foB j (sameT o0 o1 o2 a b c))):=by
 have d:=eql23 o0 o1 o2 a b c;generalize sameT o0 o1 o2 a b c=s at d ⊢;by_cases h:0≤j
 ·have h2:j ≥ 0:=h;go_enter Tryz.func133,Tryz.ntmps133;go_wp2;go_ret;exact ⟨by simp [foB,h],Qb (Qe _)⟩
 ·have h2:¬ j ≥ 0:=h;go_enter Tryz.func133,Tryz.ntmps133;go_wp2;go_ret;exact ⟨by rw [foB,decide_eq_false γ];rfl,Qb (Qe _)⟩
theorem Qu (e0 e1 e2 e3 i a b c j o0 o1 o2 k:Int) (tv:Bool) (w:World):Rt 134 #[.agg #[I e0,I e1,I e2,I e3,I i,I a,I b,I c,I j,I o0,I o1,I o2,I k,.bool tv]] w (.bool (goB j (sameT o0 o1 o2 a b c))):=by
 have d:=neq23 o0 o1 o2 a b c;generalize sameT o0 o1 o2 a b c=s at d ⊢;by_cases h:0≤j
 ·have h2:j ≥ 0:=h;go_enter Tryz.func134,Tryz.ntmps134;go_wp2;go_ret;exact ⟨by simp [goB,h],Qb (Qe _)⟩
 ·have h2:¬ j ≥ 0:=h;go_enter Tryz.func134,Tryz.ntmps134;go_wp2;go_ret;exact ⟨by rw [goB,decide_eq_false γ];rfl,Qb (Qe _)⟩
structure Cb (w:World) (b:Nat) (e0 e1 e2 e3 i p0 p1 p2 j o0 o1 o2 k:Int) (tv:Bool):Prop where
 f0:At w b 0 (I e0)
 f1:At w b 1 (I e1)
 f2:At w b 2 (I e2)
 f3:At w b 3 (I e3)
 f4:At w b 4 (I i)
 f5:At w b 5 (I p0)
 f6:At w b 6 (I p1)
 f7:At w b 7 (I p2)
 f8:At w b 8 (I j)
 f9:At w b 9 (I o0)
 f10:At w b 10 (I o1)
 f11:At w b 11 (I o2)
 f12:At w b 12 (I k)
 f13:At w b 13 (.bool tv)
theorem Cb.kept {w':World} {b:Nat} {e0 e1 e2 e3 i c d e j o0 o1 o2 k:Int} {tv:Bool} (h:Cb w b e0 e1 e2 e3 i c d e j o0 o1 o2 k tv) (a:Bl w w'):Cb w' b e0 e1 e2 e3 i c d e j o0 o1 o2 k tv:=⟨Qa a h.f0,Qa a h.f1,Qa a h.f2,Qa a h.f3,Qa a h.f4,Qa a h.f5,Qa a h.f6,Qa a h.f7,Qa a h.f8,Qa a h.f9,Qa a h.f10,Qa a h.f11,Qa a h.f12,Qa a h.f13⟩
def Hr (w:World) (gh oh N:Nat) (h:Nat→Int):Prop := ∀ q,q<N→At w gh (oh+q) (I (h q))
theorem Hr.kept {w':World} {b N:Nat} {h:Nat→Int} (k:Hr w a b N h) (c:Bl w w'):Hr w' a b N h:=fun q hq=>Qa c (k q hq)
theorem Vt (e0 e1 e2 e3 i b c d j o0 o1 o2 k:Int) (tv:Bool) (a:Option Addr) (n m:Nat) (w:World) (h:foB j (sameT o0 o1 o2 b c d)=false) :
  Rt 57 #[.agg #[I e0,I e1,I e2,I e3,I i,I b,I c,I d,I j,I o0,I o1,I o2,I k,.bool tv],.slice a n m] w (.bool false):=by
 have l:Hid (∀ V:World,Rt 133 #[.agg #[I e0,I e1,I e2,I e3,I i,I b,I c,I d,I j,I o0,I o1,I o2,I k,.bool tv]] V (.bool false)):=fun V=>by
  rw [← h];exact Qs e0 e1 e2 e3 i b c d j o0 o1 o2 k tv V
 clear h;go_enter Tryz.func57,Tryz.ntmps57;go_wp2_with (go_at_call 133;refine (l.out _).mono ?_;rintro e o ⟨rfl,g⟩;have f:=Hd (Qc β1 g);clear g)
 go_ret;exact ⟨rfl,f.out⟩
theorem Qaz (e0 e1 e2 e3 m n o o0 o1 o2 k:Int) (tv:Bool) (A T N b J X:Nat) (h:Nat→Int) (w:World) (hs:sameT o0 o1 o2 m n o=true) (M:b<N) (O:J<N) (D:Hr w A T N h) (h0:∀ q,q<N→0≤h q) :
  Rt 57 #[.agg #[I e0,I e1,I e2,I e3,I (b:Int),I m,I n,I o,I (J:Int),I o0,I o1,I o2,I k,.bool tv],.slice (Ad A T) N X] w (.bool (mfB k tv (h b) (h J))):=by
 have U:Hid (∀ V:World,Rt 133 #[.agg #[I e0,I e1,I e2,I e3,I (b:Int),I m,I n,I o,I (J:Int),I o0,I o1,I o2,I k,.bool tv]] V (.bool true)):=fun V=>by
  have:=Qs e0 e1 e2 e3 (b:Int) m n o (J:Int) o0 o1 o2 k tv V;rw [hs] at this;rw [show foB (J:Int) true=true by simp [foB]] at this;exact this
 have c:=D b M;have gJ:=D J O;have nI:=h0 b M;have nJ:=h0 J O;obtain ⟨x,P⟩:∃ x,x=h b:=⟨_,rfl⟩;obtain ⟨y,Q⟩:∃ y,y=h J:=⟨_,rfl⟩;rw [← P] at c nI ⊢;rw [← Q] at gJ nJ ⊢;have zg:=Bt c;have i1:(b:Int)<(N:Int):=γ;have i2:(J:Int)<(N:Int):=γ;have i3:(0:Int)≤(b:Int):=γ;have i4:(0:Int)≤(J:Int):=γ;have n1:¬ x<0:=γ;have n2:¬ y<0:=γ;clear P Q hs D h0;go_enter Tryz.func57,Tryz.ntmps57;go_upto_region 1 with fail
 refine Qi (fun L hW0=>?_)
 have i:Hid (Cb L w.heap.size e0 e1 e2 e3 (b:Int) m n o (J:Int) o0 o1 o2 k tv):=by
  rw [hW0];constructor <;> simp [go_sem]
 have s:Hid (Bl w L):=by
  rw [hW0];exact Qb (Qe _)
 have K:=H2 c gJ;obtain ⟨B,C⟩:∃ B,B=w.heap.size:=⟨_,rfl⟩;have W:=Hd C;rw [← C] at i zg ⊢;clear hW0 c gJ C;obtain ⟨d0,d1,d2,d3,d4,d5,Y,Z,d8,d9,t,u,v,z⟩:=i.out;have G:=Bt d0;go_upto_region 3 with (go_at_call 133;refine (U.out _).mono ?_;rintro e r ⟨rfl,p⟩;have a:=H2 p (Qc s.out p);obtain ⟨c0,c1,c2,c3,c4,c5,c6,c7,c8,c9,c10,c11,c12,c13⟩:=i.out.kept p;have c:=Qa a.out.2 K.out.1;have gJ:=Qa a.out.2 K.out.2;have zb:=Bt c0;have H:=Bt c;clear p d0 d1 d2 d3 d4 d5 Y Z d8 d9 t u v z G)
 cases tv
 ·by_cases hk:k=2
  ·subst hk;obtain ⟨d,f⟩:=kcn r;go_wp2;refine wk ?_;repeat (go_big_quiet_step (fail))
   refine kq1 (fun j hq=>?_);clear d f;go_wp2;go_ret;exact ⟨by simp [mfB],Qc a.out.2 hq⟩
  ·have E:¬ k=2:=hk;obtain ⟨d,f⟩:=kcn r;go_wp2;refine wk ?_;repeat (go_big_quiet_step (fail))
   refine kq1 (fun j hq=>?_);clear d f;go_wp2;go_ret;exact ⟨by simp [mfB,hk],Qc a.out.2 hq⟩
 ·obtain ⟨d,f⟩:=kcn r;go_wp2;refine wk ?_;repeat (go_big_quiet_step (fail))
  refine wpQuiet_nil ?_;intro j F;obtain ⟨R,g⟩:=F;have hq:Bl r j:=g ▸ R.h;replace c12:=Qa hq c12;replace c:=Qa hq c;replace gJ:=Qa hq gJ;replace zb:B<j.heap.size:=bk c12;replace H:A<j.heap.size:=bk c;have l:=Hd (Qc a.out.2 hq);clear g R d f hq c0 c1 c2 c3 c4 c5 c6 c7 c8 c9 c10 c11 c13;by_cases hk:k=2
  ·subst hk;obtain ⟨d,f⟩:=kcn j;go_wp2;refine wk ?_;repeat (go_big_quiet_step (fail))
   refine kq1 (fun wz hq=>?_);clear d f;go_wp2;go_ret;exact ⟨by simp [mfB],Qc l.out hq⟩
  ·have E:¬ k=2:=hk;obtain ⟨d,f⟩:=kcn j;go_wp2;refine wk ?_;repeat (go_big_quiet_step (fail))
   refine kq1 (fun wz hq=>?_);clear d f;go_wp2;go_ret;exact ⟨by simp [mfB,hk],Qc l.out hq⟩
abbrev vC (e0 e1 e2 e3 i p0 p1 p2 j o0 o1 o2 k:Int) (tv:Bool):Value:=.agg #[I e0,I e1,I e2,I e3,I i,I p0,I p1,I p2,I j,I o0,I o1,I o2,I k,.bool tv]
@[simp] abbrev Rz (f g f' g' b1 b2:Bool) (x x' y y' i j':Int):Int:=if g=true∧g'=true then (if x<x'∧y'<y then 1 else 0) else if f=true∧g'=true then (if b1=true then 2 else 0) else if f=true∧f'=true then (if i≠j'∧b1≠b2 then 3 else 0) else 0
theorem leaf {P:Prop} (h:P:=by
 simp only [vC];try simp only [Bool.not_true,Bool.not_false] at C134
 try simp only [Bool.not_true,Bool.not_false] at C134'
 try have q3:y > y':=q2
 try have q3:¬ y > y':=q2
 try have q5:((Iz:Int) != j')=false:=by simpa using q4
 try have q5:((Iz:Int) != j')=true:=by simpa using q4
 try (have HQ4:=Hd q4;clear q4)
 try have pq:j ≥ 0:=pj
 try have pq':j' ≥ 0:=pj'
 go_enter Tryz.func59,Tryz.ntmps59;go_upto_region 1 with fail
 refine Qi (fun W0 hW0=>?_)
 have HX:Hid (Cb W0 w.heap.size e0 e1 e2 e3 (Iz:Int) p0 p1 p2 j o0 o1 o2 k tv):=by
  rw [hW0];constructor <;> simp [go_sem]
 have HY:Hid (Cb W0 (w.heap.size+1) e0' e1' e2' e3' (I':Int) p0' p1' p2' j' o0' o1' o2' k' tv'):=by
  rw [hW0];constructor <;> simp [go_sem]
 have HB0:Hid (Bl w W0):=by
  rw [hW0];exact Qb β1
 obtain ⟨B,hB⟩:∃ B,B=w.heap.size:=⟨_,rfl⟩;rw [← hB] at HX HY ⊢;clear hW0 hB;obtain ⟨c0,c1,c2,c3,c4,c5,c6,c7,c8,c9,c10,c11,c12,c13⟩:=HX.out;obtain ⟨d0,d1,d2,d3,d4,d5,d6,d7,d8,d9,d10,d11,d12,d13⟩:=HY.out;obtain ⟨gI,gI',gJ,gJ'⟩:=HG.out _ HB0.out;have zb:=Bt c0;have ze:=Bt d0;have zq:=Bt gI;try replace gJ:=gJ pj
 try replace gJ':=gJ' pj'
 go_upto_region 3 with fail
 obtain ⟨kc,kn⟩:=kcn W0;refine wk ?_;repeat (go_big_quiet_step (first | (go_at_call 134;first | with_reducible exact Qf (C134.out _) | with_reducible exact Qf (C134'.out _)) | (go_at_call 133;first | with_reducible exact Qf (C133.out _) | with_reducible exact Qf (C133'.out _)) | (go_at_call 135;first | with_reducible exact Qf (CB.out _) | with_reducible exact Qf (CB'.out _))))
 refine wpQuiet_nil ?_;intro V3 hw';obtain ⟨nq,hw''⟩:=hw';have hq:Bl W0 V3:=hw'' ▸ nq.h;have HB3:=Hd (Qc HB0.out hq);have HX3:=Hd (HX.out.kept hq);have HY3:=Hd (HY.out.kept hq);clear hw'' nq kc kn hq;clear zb ze zq c0 d0 c1 d1 c2 d2 c3 d3 c4 d4 c5 d5 c6 d6 c7 d7 c8 d8 c9 d9 c10 d10 c11 d11 c12 d12 c13 d13 gI gI' gJ gJ';obtain ⟨c0,c1,c2,c3,c4,c5,c6,c7,c8,c9,c10,c11,c12,c13⟩:=HX3.out;obtain ⟨d0,d1,d2,d3,d4,d5,d6,d7,d8,d9,d10,d11,d12,d13⟩:=HY3.out;obtain ⟨gI,gI',gJ,gJ'⟩:=HG.out _ HB3.out;have zb:=Bt c0;have ze:=Bt d0;have zq:=Bt gI;try replace gJ:=gJ pj
 try replace gJ':=gJ' pj'
 go_wp2;try (go_ret;refine ⟨?_,HB3.out⟩;first | (simp [*];done) | (simp [*];omega) | (have q4:=HQ4.out;simp [*];done) | (have q4:=HQ4.out;simp [*];omega) | fail)
 all_goals
  obtain ⟨kc,kn⟩:=kcn V3;refine wk ?_;repeat (go_big_quiet_step (first | (go_at_call 134;first | with_reducible exact Qf (C134.out _) | with_reducible exact Qf (C134'.out _)) | (go_at_call 133;first | with_reducible exact Qf (C133.out _) | with_reducible exact Qf (C133'.out _)) | (go_at_call 135;first | with_reducible exact Qf (CB.out _) | with_reducible exact Qf (CB'.out _))))
  refine wpQuiet_nil ?_;intro V5 hw';obtain ⟨nq,hw''⟩:=hw';have hq:Bl V3 V5:=hw'' ▸ nq.h;have HB5:=Hd (Qc HB3.out hq);have HX5:=Hd (HX3.out.kept hq);have HY5:=Hd (HY3.out.kept hq);clear hw'' nq kc kn hq;clear zb ze zq c0 d0 c1 d1 c2 d2 c3 d3 c4 d4 c5 d5 c6 d6 c7 d7 c8 d8 c9 d9 c10 d10 c11 d11 c12 d12 c13 d13 gI gI' gJ gJ';obtain ⟨c0,c1,c2,c3,c4,c5,c6,c7,c8,c9,c10,c11,c12,c13⟩:=HX5.out;obtain ⟨d0,d1,d2,d3,d4,d5,d6,d7,d8,d9,d10,d11,d12,d13⟩:=HY5.out;obtain ⟨gI,gI',gJ,gJ'⟩:=HG.out _ HB5.out;have zb:=Bt c0;have ze:=Bt d0;have zq:=Bt gI;try replace gJ:=gJ pj
  try replace gJ':=gJ' pj'
  go_wp2;try (go_ret;refine ⟨?_,HB5.out⟩;first | (simp [*];done) | (simp [*];omega) | (have q4:=HQ4.out;simp [*];done) | (have q4:=HQ4.out;simp [*];omega) | fail)
  all_goals
   obtain ⟨kc,kn⟩:=kcn V5;refine wk ?_;repeat (go_big_quiet_step (first | (go_at_call 134;first | with_reducible exact Qf (C134.out _) | with_reducible exact Qf (C134'.out _)) | (go_at_call 133;first | with_reducible exact Qf (C133.out _) | with_reducible exact Qf (C133'.out _)) | (go_at_call 135;first | with_reducible exact Qf (CB.out _) | with_reducible exact Qf (CB'.out _))))
   refine wpQuiet_nil ?_;intro V7 hw';obtain ⟨nq,hw''⟩:=hw';have hq:Bl V5 V7:=hw'' ▸ nq.h;have HB7:=Hd (Qc HB5.out hq);have HX7:=Hd (HX5.out.kept hq);have HY7:=Hd (HY5.out.kept hq);clear hw'' nq kc kn hq;clear zb ze zq c0 d0 c1 d1 c2 d2 c3 d3 c4 d4 c5 d5 c6 d6 c7 d7 c8 d8 c9 d9 c10 d10 c11 d11 c12 d12 c13 d13 gI gI' gJ gJ';obtain ⟨c0,c1,c2,c3,c4,c5,c6,c7,c8,c9,c10,c11,c12,c13⟩:=HX7.out;obtain ⟨d0,d1,d2,d3,d4,d5,d6,d7,d8,d9,d10,d11,d12,d13⟩:=HY7.out;obtain ⟨gI,gI',gJ,gJ'⟩:=HG.out _ HB7.out;have zb:=Bt c0;have ze:=Bt d0;have zq:=Bt gI;try replace gJ:=gJ pj
   try replace gJ':=gJ' pj'
   go_wp2;go_ret;refine ⟨?_,HB7.out⟩;first | (simp [*];done) | (simp [*];omega) | (have q4:=HQ4.out;simp [*];done) | (have q4:=HQ4.out;simp [*];omega) | fail):P:=h
end Go.Proofs.YtnpboeodhpenmaaGreatDoor
